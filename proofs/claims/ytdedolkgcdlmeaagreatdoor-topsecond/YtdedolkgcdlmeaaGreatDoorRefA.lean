/- The reference's numbers: digits to the base 10000 in memory; noughts behind are taken off. -/
import Derived.Test.YtdedolkgcdlmeaaGreatDoorSnoc
import Derived.Test.YtdedolkgcdlmeaaGreatDoorDigs
namespace Go.Proofs.YtdedolkgcdlmeaaGreatDoor
open Go.RowKit Limbs Digs

/-- A slice value that holds these digits in this world; its block is one of integers. -/
def Dig (w : World) (v : Value) (ds : List Int) : Prop :=
  ∃ ao cap, v = .slice ao ds.length cap ∧ ds.length ≤ cap ∧ ds.length ≤ 1000000000000 ∧ DB ds ∧
    (0 < ds.length → ∃ b off cur fz, ao = some ⟨b, off, none⟩ ∧ w.heap[b]? = some (.cells cur 3 fz) ∧ ∀ i, i < ds.length → w.cell? ⟨b, off + i, none⟩ = some (.int .i64 (ds.getD i 0)))

theorem Dig.below {B : Nat} {w w' : World} {v : Value} {ds : List Int} (h : Dig w v ds) (hb : Below B w w') (hB : w.heap.size ≤ B) : Dig w' v ds := by
  obtain ⟨ao, cap, hv, h1, h2, h3, h4⟩ := h
  refine ⟨ao, cap, hv, h1, h2, h3, fun h0 => ?_⟩
  obtain ⟨b, off, cur, fz, e, hlt, hc⟩ := h4 h0
  have hl := heap_lt hlt
  exact ⟨b, off, cur, fz, e, (hb.block b (by omega)).trans hlt, fun i hi => (hb.cell (p := ⟨b, off + i, none⟩) (Nat.lt_of_lt_of_le hl hB)).trans (hc i hi)⟩

theorem Dig.nil (w : World) : Dig w (.slice none 0 0) [] := ⟨none, 0, rfl, Nat.le_refl _, by simp, DB_nil, fun h => absurd h (by simp)⟩

theorem Dig.take {w : World} {ao : Option Addr} {cap : Nat} {ds : List Int} (h : Dig w (.slice ao ds.length cap) ds) (n : Nat) (hn : n ≤ ds.length) : Dig w (.slice ao n n) (ds.take n) := by
  obtain ⟨ao', cap', hv, h1, h2, h3, h4⟩ := h
  simp only [Value.slice.injEq, true_and] at hv
  obtain ⟨rfl, rfl⟩ := hv
  have hl : (ds.take n).length = n := by rw [List.length_take]; omega
  refine ⟨ao, n, by rw [hl], by omega, by omega, DB_take h3 n, fun h0 => ?_⟩
  obtain ⟨b, off, cur, fz, e, hlt, hc⟩ := h4 (by omega)
  refine ⟨b, off, cur, fz, e, hlt, fun i hi => ?_⟩
  rw [hc i (by omega), getD_take ds n i (by omega)]

theorem Dig.owns {w : World} {base n : Nat} {v : Value} {ds : List Int} (h : w.ownsRow base 3 1 v n (ds.map (Value.int .i64))) (hd : DB ds) (hl : ds.length ≤ 1000000000000) : Dig w v ds := by
  have hn : n = ds.length := by have := h.1; rw [List.length_map] at this; omega
  subst hn
  rcases h.2 with ⟨rfl, h0⟩ | ⟨g, cap, cur, rfl, hb, hg, hc, hm, hs, ht⟩
  · have : ds = [] := List.eq_nil_of_length_eq_zero h0
    subst this
    exact Dig.nil w
  · refine ⟨_, cap, rfl, hc, hl, hd, fun h0 => ⟨g, 0, cur, (0, 0), rfl, hg, fun i hi => ?_⟩⟩
    have := h.cellAt i (by omega)
    rw [Nat.zero_add, this]
    simp [List.getD_eq_getElem?_getD, hi]

/-- A number of the reference: its sign, its digits; so many at most. -/
def NumR (w : World) (v : Value) (z : Int) (n : Nat) : Prop :=
  ∃ (s : Int) (sl : Value) (ds : List Int), v = .agg #[.int .i64 s, sl] ∧ Dig w sl ds ∧ Nrm ds ∧ z = s * dv ds ∧ ((ds.length = 0 ∧ s = 0 ∧ sl = .slice none 0 0) ∨ (0 < ds.length ∧ (s = 1 ∨ s = -1))) ∧ ds.length ≤ n

theorem NumR.below {B : Nat} {w w' : World} {v : Value} {z : Int} {n : Nat} (h : NumR w v z n) (hb : Below B w w') (hB : w.heap.size ≤ B) : NumR w' v z n := by
  obtain ⟨s, sl, ds, h1, h2, h3⟩ := h
  exact ⟨s, sl, ds, h1, h2.below hb hB, h3⟩

theorem NumR.mono {w : World} {v : Value} {z : Int} {n m : Nat} (h : NumR w v z n) (hm : n ≤ m) : NumR w v z m := by
  obtain ⟨s, sl, ds, h1, h2, h3, h4, h5, h6⟩ := h
  exact ⟨s, sl, ds, h1, h2, h3, h4, h5, by omega⟩

theorem NumR.zero (w : World) (n : Nat) : NumR w (.agg #[.int .i64 0, .slice none 0 0]) 0 n :=
  ⟨0, _, [], rfl, Dig.nil w, .inl rfl, by simp, .inl ⟨rfl, rfl, rfl⟩, by simp⟩

/-- A number comes back, in old memory or in new. -/
def RefPost (w : World) (z : Int) (n : Nat) (e : Ending) (w' : World) : Prop :=
  ∃ v, e = .returned v ∧ NumR w' v z n ∧ Below w.heap.size w w'

theorem dv_take_pred {ds : List Int} {n : Nat} (h0 : 0 < n) (h : ds.getD (n - 1) 0 = 0) : dv (ds.take (n - 1)) = dv (ds.take n) := by
  have := dv_take_succ ds (n - 1)
  rw [show n - 1 + 1 = n by omega, h] at this
  omega

theorem dv_pos {ds : List Int} (h : DB ds) (hn : Nrm ds) (h0 : ds.length ≠ 0) : 0 < dv ds := by
  have h1 := dv_nonneg h
  have h2 := dv_zero_iff h hn
  rcases (by omega : dv ds = 0 ∨ 0 < dv ds) with e | e
  · exact absurd (h2.1 e) h0
  · exact e

set_option maxRecDepth 100000 in
set_option maxHeartbeats 800000 in
theorem cutNum_any (w : World) (s : Int) (v : Value) (ds : List Int) (h : Dig w v ds) (hs : s = 1 ∨ s = -1 ∨ dv ds = 0) :
    Calls Tryz.prog 100 #[.int .i64 s, v] w fun e w' => RefPost w (s * dv ds) ds.length e w' := by
  have HD := hide h
  have HS := hide hs
  obtain ⟨ao, cap, rfl, hcap, hlen, hdb, hc⟩ := h
  have hW : Below w.heap.size w (w.alloc (.cells #[.int .i64 0, .slice none 0 0] 40)) := (Below.refl _ _).alloc (Nat.le_refl _) _
  have HW := hide hW
  have hc' : 0 < ds.length → ∃ b off, ao = some ⟨b, off, none⟩ ∧ ∀ i, i < ds.length → (w.alloc (.cells #[.int .i64 0, .slice none 0 0] 40)).cell? ⟨b, off + i, none⟩ = some (.int .i64 (ds.getD i 0)) := fun h0 => by
    obtain ⟨b, off, cur, fz, e, hlt, hc⟩ := hc h0
    have hl := heap_lt hlt
    exact ⟨b, off, e, fun i hi => (hW.cell (p := ⟨b, off + i, none⟩) hl).trans (hc i hi)⟩
  clear hc hs hW
  go_enter Tryz.func100, Tryz.ntmps100
  go_wp2
  go_loop [5] (fun t => ∃ n : Nat, n ≤ ds.length ∧ t = .int .i64 n ∧ Hid (dv (ds.take n) = dv ds)) (fun t => (intOf t).toNat)
  case atStart => exact ⟨ds.length, Nat.le_refl _, rfl, by show dv _ = _; rw [List.take_length]⟩
  case round =>
    obtain ⟨n, hn, rfl, HV⟩ := hrel
    by_cases h0 : n = 0
    · subst h0
      have HF : Hid (RefPost w (s * dv ds) ds.length (.returned (.agg #[.int .i64 0, .slice none 0 0])) (w.alloc (.cells #[.int .i64 0, .slice none 0 0] 40))) := by
        refine ⟨_, rfl, ?_, HW.out⟩
        have e : s * dv ds = 0 := by rw [← HV.out]; simp [dv]
        rw [e]
        exact NumR.zero _ _
      clear HV
      go_wp2
      exact bodyPost_ret (v := .agg #[.int .i64 0, .slice none 0 0]) (by simp [results, Tryz.results100, go_sem]) rfl HF.out
    · obtain ⟨b, off, rfl, hc⟩ := hc' (by omega)
      obtain ⟨m, rfl⟩ : ∃ m, n = m + 1 := ⟨n - 1, by omega⟩
      have hcm := hc m (by omega)
      clear hc
      have HG : Hid (ds.getD (m + 1 - 1) 0 = ds.getD m 0) := by show _ = _; rw [Nat.add_sub_cancel]
      have hzb := hdb m
      generalize hz : ds.getD m 0 = z at *
      by_cases hz0 : z = 0
      · subst hz0
        go_wp2
        go_round
        case rel => exact ⟨m, by omega, by go_num, by have := dv_take_pred (ds := ds) (n := m + 1) (by omega) HG.out; rw [Nat.add_sub_cancel] at this; exact this.trans HV.out⟩
        case measure => simp [intOf]
      · have hz1 : (z == 0) = false := by simp [hz0]
        have HF : Hid (RefPost w (s * dv ds) ds.length (.returned (.agg #[.int .i64 s, .slice (some ⟨b, off, none⟩) (m + 1) (m + 1)])) (w.alloc (.cells #[.int .i64 s, .slice (some ⟨b, off, none⟩) (m + 1) (m + 1)] 40))) := by
          refine ⟨_, rfl, ⟨s, _, ds.take (m + 1), rfl, (HD.out.take (m + 1) hn).below ((Below.refl _ _).alloc (Nat.le_refl _) _) (Nat.le_refl _), nrm_take hn (.inr (by rw [HG.out]; exact hz0)), by rw [HV.out], .inr ⟨by rw [List.length_take]; omega, ?_⟩, by rw [List.length_take]; omega⟩, (Below.refl _ _).alloc (Nat.le_refl _) _⟩
          rcases HS.out with h | h | h
          · exact .inl h
          · exact .inr h
          · exfalso
            have hp := dv_pos (DB_take hdb (m + 1)) (nrm_take hn (.inr (by rw [HG.out]; exact hz0))) (by rw [List.length_take]; omega)
            rw [HV.out] at hp
            omega
        clear HV HS HD HG
        go_wp2
        exact bodyPost_ret (v := .agg #[.int .i64 s, .slice (some ⟨b, off, none⟩) (m + 1) (m + 1)]) (by simp [results, Tryz.results100, go_sem]) rfl HF.out

end Go.Proofs.YtdedolkgcdlmeaaGreatDoor
