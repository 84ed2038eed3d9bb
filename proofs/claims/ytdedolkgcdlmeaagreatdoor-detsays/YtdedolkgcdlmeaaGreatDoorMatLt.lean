/- The reference: are two numbers, or vectors, the same? -/
import Derived.Test.YtdedolkgcdlmeaaGreatDoorOps2
import Derived.Test.YtdedolkgcdlmeaaGreatDoorRaws
import Derived.Test.YtdedolkgcdlmeaaGreatDoorDigs
import Derived.Test.YtdedolkgcdlmeaaGreatDoorMatF

namespace Go.Proofs.YtdedolkgcdlmeaaGreatDoor
open Go.RowKit Limbs

end Go.Proofs.YtdedolkgcdlmeaaGreatDoor

/- The reference: are rows of vectors the same? -/
namespace Go.Proofs.YtdedolkgcdlmeaaGreatDoor
open Go.RowKit Limbs

end Go.Proofs.YtdedolkgcdlmeaaGreatDoor

/- Rows of vectors that came in; are they light? -/
namespace Go.Proofs.YtdedolkgcdlmeaaGreatDoor
open Go.ChangeShapes Go.WideShapes Go.ChangeAt Go.RowKit Go.Joins Limbs

theorem Tryz.cellsVec : Tryz.prog.cellsOf 72 = 1 := by kernel_rfl

/-- What is known of rows that came in. -/
def MatC (W : World) (v : Value) (rss : List (List Raw)) : Prop :=
  ∃ ao cap, v = .slice ao rss.length cap ∧ rss.length ≤ cap ∧ rss.length ≤ 9223372036854775807 ∧
    (0 < rss.length → ∃ b off, ao = some ⟨b, off, none⟩ ∧ b < W.heap.size ∧ ∀ i rs, rss[i]? = some rs → ∃ u, W.cell? ⟨b, off + i, none⟩ = some u ∧ VecC W u rs)

set_option maxRecDepth 100000 in
theorem open_vecT {H : Type} {enc : TypeId × Value → H} {W : World} {n : Nat} {v : Value} {y : DataW H × List MemPlace}
    (hf : DataW.trod enc Tryz.prog W 0 (fun _ => true) true n 72 [v] = some y) : ∃ rs, VecC W v rs := by
  obtain ⟨a0, len, cap, e⟩ := slice_form Tryz.underlying72 hf
  simp only [List.cons.injEq, and_true] at e
  subst e
  rcases Go.Deep.open_slice_pairs Tryz.underlying72 Tryz.underlying29 Tryz.cellsNum rfl rfl Tryz.cellsBool Tryz.cellsSl hf with ⟨hcs, _⟩ | ⟨a, l, c, m, n, V0, V1, D0, D1, P0, P1, hcs, _, hl, hm, hmm, _, hc⟩
  · simp only [List.cons.injEq, Value.slice.injEq, and_true] at hcs
    obtain ⟨rfl, rfl, rfl⟩ := hcs
    exact ⟨[], none, 0, rfl, by simp, by simp, fun h => absurd h (by simp)⟩
  · simp only [List.cons.injEq, Value.slice.injEq, and_true] at hcs
    obtain ⟨rfl, rfl, rfl⟩ := hcs
    have hm' : len ≤ m := by simp at hmm; omega
    have each : ∀ i, i < len → ∃ r : Raw, V0 i = .bool r.neg ∧ V1 i = r.s ∧ CameR W r := fun i hi => by
      obtain ⟨-, -, h0, h1⟩ := hc i (by omega)
      obtain ⟨b, e0, -⟩ := DataW.trod_bool Tryz.underlying4 h0
      obtain ⟨r, e1, e2, e3⟩ := open_limbs h1 b
      simp only [List.cons.injEq, and_true] at e0
      exact ⟨r, by rw [e0, e1], e2.symm, e3⟩
    obtain ⟨q, hq⟩ := Go.Deep.choose_lt each
    have hlen : ((List.range len).map q).length = len := by simp
    refine ⟨(List.range len).map q, some a, cap, by rw [hlen], by rw [hlen]; exact hl, by rw [hlen]; unfold maxLen at hm; omega, fun h0 => ?_⟩
    rw [hlen] at h0
    obtain ⟨k0, -, -, -⟩ := hc 0 (by omega)
    obtain ⟨blk, off, spot⟩ := a
    have hsp : spot = none := by simpa [Addr.add] using World.cell?_spot k0
    subst hsp
    refine ⟨blk, off, rfl, by simpa [Addr.add] using World.block_lt_of_cell? W _ k0, fun i r hi => ?_⟩
    obtain ⟨hi', e⟩ := List.getElem?_eq_some_iff.1 hi
    rw [hlen] at hi'
    have e' : r = q i := by simpa using e.symm
    obtain ⟨c0, c1, -, -⟩ := hc i (by omega)
    obtain ⟨q0, q1, q2⟩ := hq i hi'
    rw [Go.WideShapes.add_plain, q0] at c0
    rw [Go.WideShapes.add_plain, q1] at c1
    rw [e']
    exact ⟨c0, c1, q2⟩

set_option maxRecDepth 100000 in
theorem open_mat {H : Type} {enc : TypeId × Value → H} {W : World} {r : Reach} {b0 : Nat} {v : Value} {d : DataW H} {p : List MemPlace}
    (hv : Value.okWide Tryz.prog W r b0 23 v) (h : DataW.Trod enc Tryz.prog W 0 (fun _ => true) true 23 v d p) :
    ∃ rss, MatC W v rss := by
  obtain ⟨a0, len, cap, rfl⟩ := okWide_slice Tryz.underlying23 hv
  obtain ⟨fuel, hf⟩ := h
  rcases Go.Deep.open_slice1 Tryz.underlying23 Tryz.cellsVec hf with ⟨hcs, _⟩ | ⟨a, l, c, m, n, V, D, Pl, hcs, _, hl, hm, hmm, _, hc⟩
  · simp [Value.cells] at hcs
    obtain ⟨rfl, rfl, rfl⟩ := hcs
    exact ⟨[], none, 0, rfl, by simp, by simp, fun h => absurd h (by simp)⟩
  · simp [Value.cells] at hcs
    obtain ⟨rfl, rfl, rfl⟩ := hcs
    have hm' : len ≤ m := by simp at hmm; omega
    have each : ∀ i, i < len → ∃ rs : List Raw, VecC W (V i) rs := fun i hi => open_vecT (hc i (by omega)).2
    obtain ⟨q, hq⟩ := Go.Deep.choose_lt each
    have hlen : ((List.range len).map q).length = len := by simp
    refine ⟨(List.range len).map q, some a, cap, by rw [hlen], by rw [hlen]; exact hl, by rw [hlen]; unfold maxLen at hm; omega, fun h0 => ?_⟩
    rw [hlen] at h0
    obtain ⟨k0, -⟩ := hc 0 (by omega)
    obtain ⟨blk, off, spot⟩ := a
    have hsp : spot = none := by simpa [Addr.add] using World.cell?_spot k0
    subst hsp
    refine ⟨blk, off, rfl, by simpa [Addr.add] using World.block_lt_of_cell? W _ k0, fun i rs hi => ?_⟩
    obtain ⟨hi', e⟩ := List.getElem?_eq_some_iff.1 hi
    rw [hlen] at hi'
    have e' : rs = q i := by simpa using e.symm
    obtain ⟨c0, -⟩ := hc i (by omega)
    rw [Go.WideShapes.add_plain] at c0
    rw [e']
    exact ⟨_, c0, hq i hi'⟩

theorem VecC.below {w w' : World} {v : Value} {rs : List Raw} (h : VecC w v rs) (hb : Below w.heap.size w w') : VecC w' v rs := by
  obtain ⟨ao, cap, hv, h1, h1', h2⟩ := h
  refine ⟨ao, cap, hv, h1, h1', fun h0 => ?_⟩
  obtain ⟨b, off, e, hlt, hc⟩ := h2 h0
  refine ⟨b, off, e, Nat.lt_of_lt_of_le hlt hb.size, fun i r hi => ?_⟩
  obtain ⟨h3, h4, h5, h6, h7⟩ := hc i r hi
  exact ⟨(hb.cell (p := ⟨b, off + i * 2, none⟩) hlt).trans h3, (hb.cell (p := ⟨b, off + i * 2 + 1, none⟩) hlt).trans h4, h5, h6, fun hl => (h7 hl).below hb (Nat.le_refl _)⟩

theorem MatC.below {w w' : World} {v : Value} {rss : List (List Raw)} (h : MatC w v rss) (hb : Below w.heap.size w w') : MatC w' v rss := by
  obtain ⟨ao, cap, hv, h1, h1', h2⟩ := h
  refine ⟨ao, cap, hv, h1, h1', fun h0 => ?_⟩
  obtain ⟨b, off, e, hlt, hc⟩ := h2 h0
  refine ⟨b, off, e, Nat.lt_of_lt_of_le hlt hb.size, fun i r hi => ?_⟩
  obtain ⟨u, h3, h4⟩ := hc i r hi
  exact ⟨u, (hb.cell (p := ⟨b, off + i, none⟩) hlt).trans h3, h4.below hb⟩

/-- So many limbs, together. -/
def limbsV (rs : List Raw) : Nat := (rs.map (·.zs.length)).sum
def limbsM (rss : List (List Raw)) : Nat := (rss.map limbsV).sum

def lightM (rss : List (List Raw)) (limbs : Int) : Bool := decide (rss.length ≤ 14) && rss.all lightV && decide ((limbsM rss : Int) ≤ limbs)

theorem limbsV_step (rs : List Raw) (k : Nat) (hk : k < rs.length) : limbsV (rs.take (k + 1)) = limbsV (rs.take k) + rs[k].zs.length := by
  unfold limbsV
  rw [List.take_succ_eq_append_getElem hk, List.map_append, List.sum_append]
  simp

theorem limbsM_step (rss : List (List Raw)) (k : Nat) (hk : k < rss.length) : limbsM (rss.take (k + 1)) = limbsM (rss.take k) + limbsV rss[k] := by
  unfold limbsM
  rw [List.take_succ_eq_append_getElem hk, List.map_append, List.sum_append]
  simp

theorem limbsV_le (rs : List Raw) (h : rs.all (fun r => decide (r.zs.length ≤ 8)) = true) : limbsV rs ≤ 8 * rs.length := by
  induction rs with
  | nil => simp [limbsV]
  | cons r rs ih =>
    rw [List.all_cons, Bool.and_eq_true] at h
    have h1 := of_decide_eq_true h.1
    have h2 := ih h.2
    simp only [limbsV, List.map_cons, List.sum_cons, List.length_cons] at h2 ⊢
    omega

theorem lightV_limbs {rs : List Raw} (h : lightV rs = true) : limbsV rs ≤ 80 ∧ rs.length ≤ 10 := by
  unfold lightV at h
  rw [Bool.and_eq_true] at h
  have h1 := of_decide_eq_true h.1
  have := limbsV_le rs h.2
  omega

theorem limbsM_le (rss : List (List Raw)) (h : rss.all lightV = true) : limbsM rss ≤ 80 * rss.length := by
  induction rss with
  | nil => simp [limbsM]
  | cons r rs ih =>
    rw [List.all_cons, Bool.and_eq_true] at h
    have h1 := (lightV_limbs h.1).1
    have h2 := ih h.2
    simp only [limbsM, List.map_cons, List.sum_cons, List.length_cons] at h2 ⊢
    omega

end Go.Proofs.YtdedolkgcdlmeaaGreatDoor

/- Are rows light? -/
namespace Go.Proofs.YtdedolkgcdlmeaaGreatDoor
open Go.RowKit Limbs

set_option maxRecDepth 100000 in
set_option maxHeartbeats 4000000 in
theorem lightM_any (w : World) (v : Value) (rss : List (List Raw)) (limbs : Int) (hv : MatC w v rss) (b : Bool) (hb : b = lightM rss limbs) :
    Calls Tryz.prog 10 #[v, .int .i64 limbs] w fun e w' => e = .returned (.bool b) ∧ w' = w := by
  have HB := hide hb
  have HV := hide hv
  obtain ⟨ao, cap, rfl, -, hmx, hc⟩ := hv
  clear hb
  by_cases h14 : 14 < rss.length
  · have hl : (14 : Int) < (rss.length : Int) := by omega
    have hbf : b = false := by rw [HB.out]; unfold lightM; rw [decide_eq_false (by omega)]; rfl
    subst hbf
    clear hc
    go_enter Tryz.func10, Tryz.ntmps10
    go_wp2
    go_ret
    exact ⟨rfl, rfl⟩
  · have hl : ¬ ((14 : Int) < (rss.length : Int)) := by omega
    have HE : Hid (b = (rss.all lightV && decide ((limbsM rss : Int) ≤ limbs))) := by
      show _ = _
      rw [HB.out]; unfold lightM; rw [decide_eq_true (by omega), Bool.true_and]
    clear HB
    have HC := hide hc
    clear hc
    go_enter Tryz.func10, Tryz.ntmps10
    go_wp2
    go_loop [5, 6] (fun n i => ∃ k : Nat, k ≤ rss.length ∧ i = .int .i64 k ∧ n = .int .i64 (limbsM (rss.take k) : Nat) ∧ Hid ((rss.take k).all lightV = true)) (fun _ i => rss.length - (intOf i).toNat)
    case atStart => exact ⟨0, Nat.zero_le _, rfl, rfl, by show _ = _; simp⟩
    case round =>
      obtain ⟨k, hk, rfl, rfl, HG⟩ := hrel
      have hle := limbsM_le (rss.take k) HG.out
      have hlen : (rss.take k).length = k := by rw [List.length_take]; omega
      by_cases hkl : k < rss.length
      · obtain ⟨bk, off, rfl, hlt, hc⟩ := HC.out (by omega)
        obtain ⟨u, c0, hu⟩ := hc k rss[k] (by simp [hkl])
        clear hc
        have HU := hide hu
        have HT : Hid ((rss.take (k + 1)).all lightV = lightV rss[k]) := by
          show _ = _
          rw [List.take_succ_eq_append_getElem hkl, List.all_append, HG.out]; simp
        have HF : Hid (lightV rss[k] = false → rss.all lightV = false) := fun h => by
          rw [List.all_eq_false]; exact ⟨rss[k], List.getElem_mem hkl, by simp [h]⟩
        have HS := hide (limbsM_step rss k hkl)
        generalize limbsM (rss.take k) = N0 at *
        generalize rss[k] = rs at *
        go_wp2_with fail
        refine (lightV_any w u rs HU.out (lightV rs) rfl).mono ?_
        rintro e w1 ⟨rfl, rfl⟩
        cases hlv : lightV rs
        · have hbf : b = false := by rw [HE.out, HF.out hlv]; rfl
          subst hbf
          clear HT HF HS HE HG
          go_wp2
          go_ret
          exact ⟨rfl, rfl⟩
        · have HG' := hide (HT.out.trans hlv)
          obtain ⟨hlm, hl10⟩ := lightV_limbs hlv
          have H8 : Hid (rs.all (fun r => decide (r.zs.length ≤ 8)) = true) := by
            unfold lightV at hlv
            rw [Bool.and_eq_true] at hlv
            exact hlv.2
          clear HT HF HG hlv
          obtain ⟨vo, vcap, rfl, -, -, hc⟩ := hu
          have HC2 := hide hc
          clear hc
          go_wp2
          go_loop [5, 8] (fun n j => ∃ q : Nat, q ≤ rs.length ∧ j = .int .i64 q ∧ n = .int .i64 (N0 + limbsV (rs.take q) : Nat)) (fun _ j => rs.length - (intOf j).toNat)
          case atStart => exact ⟨0, Nat.zero_le _, rfl, rfl⟩
          case round =>
            obtain ⟨q, hq, rfl, rfl⟩ := hrel
            by_cases hql : q < rs.length
            · obtain ⟨vb, voff, rfl, hvlt, hc⟩ := HC2.out (by omega)
              obtain ⟨d0, d1, ⟨o, c, hs⟩, hz, -⟩ := hc q rs[q] (by simp [hql])
              clear hc
              have HSV := hide (limbsV_step rs q hql)
              have hz8 : rs[q].zs.length ≤ 8 := of_decide_eq_true (List.all_eq_true.1 H8.out _ (List.getElem_mem hql))
              have hb1 : limbsV (rs.take q) ≤ 80 := by
                have h2 := limbsV_le (rs.take q) (List.all_eq_true.2 fun r hr => List.all_eq_true.1 H8.out r (List.mem_of_mem_take hr))
                rw [List.length_take] at h2
                omega
              generalize limbsV (rs.take q) = M0 at *
              generalize rs[q] = r at *
              obtain ⟨rn, rsl, rz⟩ := r
              simp only at hs hz hz8 d0 d1
              subst hs
              go_wp2
              go_round
              case rel => exact ⟨q + 1, by omega, by go_num, by rw [HSV.out]; go_num⟩
              case measure => simp [intOf]; omega
            · obtain rfl : q = rs.length := by omega
              have HN1 : Hid (N0 + limbsV (rs.take rs.length) = limbsM (rss.take (k + 1))) := by
                show _ = _
                rw [List.take_length]; exact HS.out.symm
              have hle2 : limbsM (rss.take (k + 1)) ≤ 80 * 14 + 80 := by have := HS.out; omega
              rw [HN1.out]
              clear HN1 HS
              go_wp2
              go_round
              case rel => exact ⟨k + 1, by omega, by go_num, rfl, HG'⟩
              case measure => simp [intOf]; omega
      · obtain rfl : k = rss.length := by omega
        have HFN : Hid (b = decide ((limbsM rss : Int) ≤ limbs)) := by
          show _ = _
          have := HG.out
          rw [List.take_length] at this
          rw [HE.out, this, Bool.true_and]
        rw [List.take_length] at hle
        clear HG HE
        rw [List.take_length]
        generalize limbsM rss = N0 at *
        obtain rfl := HFN.out
        clear HFN
        go_wp2
        go_ret
        exact ⟨rfl, rfl⟩

end Go.Proofs.YtdedolkgcdlmeaaGreatDoor

/- Light rows are such as may be read whole. -/
namespace Go.Proofs.YtdedolkgcdlmeaaGreatDoor
open Go.RowKit Limbs

theorem lightV_eight {rs : List Raw} (h : lightV rs = true) : ∀ r ∈ rs, r.zs.length ≤ 8 := by
  unfold lightV at h
  rw [Bool.and_eq_true] at h
  exact fun r hr => of_decide_eq_true (List.all_eq_true.1 h.2 r hr)

theorem MatC.light {w : World} {v : Value} {rss : List (List Raw)} (h : MatC w v rss) (hl : ∀ rs ∈ rss, lightV rs = true) : MatL w v rss := by
  obtain ⟨ao, cap, hv, h1, -, h2⟩ := h
  refine ⟨ao, cap, hv, h1, fun h0 => ?_⟩
  obtain ⟨b, off, e, hlt, hc⟩ := h2 h0
  refine ⟨b, off, e, hlt, fun i rs hi => ?_⟩
  obtain ⟨u, h3, h4⟩ := hc i rs hi
  exact ⟨u, h3, h4.light fun r hr => Nat.le_trans (lightV_eight (hl rs (List.mem_of_getElem? hi)) r hr) (by decide)⟩

theorem lightM_parts {rss : List (List Raw)} {n : Int} (h : lightM rss n = true) : rss.length ≤ 14 ∧ ∀ rs ∈ rss, lightV rs = true := by
  unfold lightM at h
  rw [Bool.and_eq_true, Bool.and_eq_true] at h
  exact ⟨of_decide_eq_true h.1.1, fun rs hr => List.all_eq_true.1 h.1.2 rs hr⟩

end Go.Proofs.YtdedolkgcdlmeaaGreatDoor
