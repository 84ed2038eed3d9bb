/- Vectors as they come in; what is wrong with one. -/
import Derived.Test.YtmeefloajhffbaaDoorHold
import Derived.Test.YtmeefloajhffbaaDoorOps
import Derived.Deep.RegionHeld3
import Derived.Test.YtmeefloajhffbaaDoorGroups
import Derived.OwnWalk
import Derived.Laws.MakeOwn
import Derived.Test.YtmeefloajhffbaaDoorDivOne
import Derived.Test.YtmeefloajhffbaaDoorGcdA

namespace Go.Proofs.YtmeefloajhffbaaDoor
open Go.RowKit Limbs

/-- A vector: numbers as they came in, two cells each. -/
def VecL (w : World) (v : Value) (rs : List Raw) : Prop :=
  ∃ ao cap, v = .slice ao rs.length cap ∧ rs.length ≤ cap ∧
    (0 < rs.length → ∃ b off, ao = some ⟨b, off, none⟩ ∧ b < w.heap.size ∧ ∀ i r, rs[i]? = some r → w.cell? ⟨b, off + i * 2, none⟩ = some (.bool r.neg) ∧ w.cell? ⟨b, off + i * 2 + 1, none⟩ = some r.s ∧ Lim w r.s r.zs)

theorem VecL.below {C : Nat} {w w' : World} {v : Value} {rs : List Raw} (h : VecL w v rs) (hb : Below C w w') (hC : w.heap.size ≤ C) : VecL w' v rs := by
  obtain ⟨ao, cap, hv, h1, h2⟩ := h
  refine ⟨ao, cap, hv, h1, fun h0 => ?_⟩
  obtain ⟨b, off, e, hlt, hc⟩ := h2 h0
  refine ⟨b, off, e, Nat.lt_of_lt_of_le hlt hb.size, fun i r hi => ?_⟩
  obtain ⟨h3, h4, h5⟩ := hc i r hi
  exact ⟨(hb.cell (p := ⟨b, off + i * 2, none⟩) (Nat.lt_of_lt_of_le hlt hC)).trans h3, (hb.cell (p := ⟨b, off + i * 2 + 1, none⟩) (Nat.lt_of_lt_of_le hlt hC)).trans h4, h5.below hb hC⟩

def Raw.num (r : Raw) : Bool := isNum r.neg r.zs

/-- what Check answers of a vector -/
def checkedV (rs : List Raw) : Value := if rs.length < 1 ∨ 8 < rs.length then .iface 68 (.int .i64 6) else checked (rs.all Raw.num)

set_option maxRecDepth 100000 in
set_option maxHeartbeats 1600000 in
theorem checkV_any (w : World) (v : Value) (rs : List Raw) (hv : VecL w v rs) :
    Calls Tryd.prog 46 #[v] w fun e w' => e = .returned (checkedV rs) ∧ Below w.heap.size w w' := by
  have HV := hide hv
  obtain ⟨ao, cap, rfl, -, hc⟩ := hv
  by_cases h1 : rs.length < 1
  · have e : checkedV rs = .iface 68 (.int .i64 6) := if_pos (.inl h1)
    rw [e]
    have hl : (rs.length : Int) < 1 := by omega
    clear hc e
    go_enter Tryd.func46, Tryd.ntmps46
    go_wp2
    go_ret
    exact ⟨rfl, Below.refl _ _⟩
  · have hl : ¬ ((rs.length : Int) < 1) := by omega
    by_cases h2 : 8 < rs.length
    · have e : checkedV rs = .iface 68 (.int .i64 6) := if_pos (.inr h2)
      rw [e]
      have hl2 : (8 : Int) < (rs.length : Int) := by omega
      clear hc e
      go_enter Tryd.func46, Tryd.ntmps46
      go_wp2
      go_ret
      exact ⟨rfl, Below.refl _ _⟩
    · have e : checkedV rs = checked (rs.all Raw.num) := if_neg (by omega)
      rw [e]
      have hl2 : ¬ ((8 : Int) < (rs.length : Int)) := by omega
      obtain ⟨b, off, rfl, hlt, -⟩ := hc (by omega)
      clear e
      go_enter Tryd.func46, Tryd.ntmps46
      go_wp2
      go_loopw [16] (fun i wr => ∃ k : Nat, k ≤ rs.length ∧ i = .int .i64 k ∧ Hid ((rs.take k).all Raw.num = true) ∧ Below w.heap.size w wr) (fun i _ => rs.length - (intOf i).toNat)
      case atStart => exact ⟨0, Nat.zero_le _, rfl, by show _ = _; simp, Below.refl _ _⟩
      case round =>
        obtain ⟨k, hk, rfl, HG, hbe⟩ := hrel
        by_cases hkl : k < rs.length
        · obtain ⟨_, _, e, -, hc⟩ := HV.out.below hbe (Nat.le_refl _)
          simp only [Value.slice.injEq, true_and] at e
          obtain ⟨rfl, rfl⟩ := e
          obtain ⟨_, _, e, hb2, hc⟩ := hc (by omega)
          simp only [Option.some.injEq, Addr.mk.injEq, and_true] at e
          obtain ⟨rfl, rfl⟩ := e
          obtain ⟨c0, c1, hL⟩ := hc k rs[k] (by simp [hkl])
          clear hc
          have HT : Hid ((rs.take (k + 1)).all Raw.num = rs[k].num) := by
            show _ = _
            rw [List.take_succ_eq_append_getElem hkl, List.all_append, HG.out]; simp
          have HE : Hid (rs[k].num = false → rs.all Raw.num = false) := fun h => by
            rw [List.all_eq_false]; exact ⟨rs[k], List.getElem_mem hkl, by simp [h]⟩
          generalize rs[k] = r at *
          obtain ⟨rn, rsl, rz⟩ := r
          have HL := hide hL
          have HBE := hide hbe
          obtain ⟨ro, rcap, e, -⟩ := hL
          simp only at e c0 c1
          subst e
          clear hbe
          go_wp2_with fail
          refine (check_any _ _ _ _ HL.out).mono ?_
          rintro e w1 ⟨rfl, hb1⟩
          have HB1 := hide (HBE.out.trans (hb1.mono HBE.out.size))
          clear hb1
          cases hn : isNum rn rz
          · have HA := hide (HE.out hn)
            have e : checked false = .iface 68 (.int .i64 3) := rfl
            rw [e]
            clear HT HE e
            go_wp2
            go_ret
            exact ⟨by rw [HA.out]; rfl, HB1.out⟩
          · have e : checked true = .nilIface := rfl
            rw [e]
            have HG' := hide (HT.out.trans hn)
            clear HT HE HG e
            go_wp2
            go_roundw
            case rel => exact ⟨k + 1, by omega, by go_num, HG', HB1.out⟩
            case measure => simp [intOf]; omega
        · obtain rfl : k = rs.length := by omega
          have HA : Hid (rs.all Raw.num = true) := by have := HG.out; rwa [List.take_length] at this
          have HBE := hide hbe
          clear hbe HG
          go_wp2
          go_ret
          exact ⟨by rw [HA.out]; rfl, HBE.out⟩

end Go.Proofs.YtmeefloajhffbaaDoor

/- Vectors of numbers; are two the same? -/
namespace Go.Proofs.YtmeefloajhffbaaDoor
open Go.RowKit Limbs

/-- A vector of these numbers, each of at most so many limbs. -/
def VecN (w : World) (v : Value) (zs : List Int) (n : Nat) : Prop :=
  ∃ ao cap, v = .slice ao zs.length cap ∧ zs.length ≤ cap ∧
    (0 < zs.length → ∃ b off, ao = some ⟨b, off, none⟩ ∧ b < w.heap.size ∧ ∀ i, i < zs.length → ∃ (neg : Bool) (o : Option Addr) (l c : Nat), w.cell? ⟨b, off + i * 2, none⟩ = some (.bool neg) ∧ w.cell? ⟨b, off + i * 2 + 1, none⟩ = some (.slice o l c) ∧ NumL w (.agg #[.bool neg, .slice o l c]) (zs.getD i 0) n)

theorem VecN.below {C : Nat} {w w' : World} {v : Value} {zs : List Int} {n : Nat} (h : VecN w v zs n) (hb : Below C w w') (hC : w.heap.size ≤ C) : VecN w' v zs n := by
  obtain ⟨ao, cap, hv, h1, h2⟩ := h
  refine ⟨ao, cap, hv, h1, fun h0 => ?_⟩
  obtain ⟨b, off, e, hlt, hc⟩ := h2 h0
  refine ⟨b, off, e, Nat.lt_of_lt_of_le hlt hb.size, fun i hi => ?_⟩
  obtain ⟨neg, o, l, c, h3, h4, h5⟩ := hc i hi
  exact ⟨neg, o, l, c, (hb.cell (p := ⟨b, off + i * 2, none⟩) (Nat.lt_of_lt_of_le hlt hC)).trans h3, (hb.cell (p := ⟨b, off + i * 2 + 1, none⟩) (Nat.lt_of_lt_of_le hlt hC)).trans h4, h5.below hb hC⟩

/-- One of them, read. -/
theorem VecN.at {w : World} {b off cap : Nat} {zs : List Int} {n : Nat} (h : VecN w (.slice (some ⟨b, off, none⟩) zs.length cap) zs n) (i : Nat) (hi : i < zs.length) : b < w.heap.size ∧ ∃ (neg : Bool) (o : Option Addr) (l c : Nat), w.cell? ⟨b, off + i * 2, none⟩ = some (.bool neg) ∧ w.cell? ⟨b, off + i * 2 + 1, none⟩ = some (.slice o l c) ∧ NumL w (.agg #[.bool neg, .slice o l c]) (zs.getD i 0) n := by
  obtain ⟨_, _, e, -, hc⟩ := h
  simp only [Value.slice.injEq, true_and] at e
  obtain ⟨rfl, rfl⟩ := e
  obtain ⟨_, _, e, hlt, hc⟩ := hc (by omega)
  simp only [Option.some.injEq, Addr.mk.injEq, and_true] at e
  obtain ⟨rfl, rfl⟩ := e
  exact ⟨hlt, hc i hi⟩

theorem VecN.form {w : World} {v : Value} {zs : List Int} {n : Nat} (h : VecN w v zs n) (h0 : 0 < zs.length) : ∃ b off cap, v = .slice (some ⟨b, off, none⟩) zs.length cap := by
  obtain ⟨ao, cap, rfl, -, hc⟩ := h
  obtain ⟨b, off, rfl, -⟩ := hc h0
  exact ⟨b, off, cap, rfl⟩


end Go.Proofs.YtmeefloajhffbaaDoor

/- Rows that one more is put to. -/
namespace Go.Proofs.YtmeefloajhffbaaDoor
open Go.RowKit Limbs

theorem heap_lt {w : World} {b : Nat} {o : Obj} (h : w.heap[b]? = some o) : b < w.heap.size := by
  rcases Nat.lt_or_ge b w.heap.size with hlt | hge
  · exact hlt
  · rw [Array.getElem?_eq_none hge] at h; cases h

end Go.Proofs.YtmeefloajhffbaaDoor

/- A vector of one's own, being made: each place is a number; one of them is written. -/
namespace Go.Proofs.YtmeefloajhffbaaDoor
open Go.RowKit Limbs

theorem Tryd.infoNum : (Tryd.prog.info? 26).map (fun i => (i.zero, i.size, i.bytes)) = some (some (.agg #[.bool false, .slice none 0 0]), 2, 32) := by kernel_rfl

theorem run_mkV (m : Nat) (hm : m ≤ 1000) (W : World) : (Instr.makeSlice 32 (.int .i64 (m : Int)) (.int .i64 (m : Int))).run Tryd.prog W = .ok (.slice (some ⟨W.heap.size, 0, none⟩) m m) (W.alloc (.cells (madeCells #[.bool false, .slice none 0 0] (m * 2)) 26)) := by
  obtain ⟨i0, hi, hz0, hz1, hz2⟩ := info_parts Tryd.infoNum
  have h := run_make (P := Tryd.prog) W 32 26 i0 (.agg #[.bool false, .slice none 0 0]) (by kernel_rfl) hi hz0 .i64 .i64 m m (by omega) (by omega) (by rw [hz2]; omega) (by omega)
  rw [hz1, Int.toNat_natCast] at h
  exact h

theorem NumL.nought (w : World) (n : Nat) : NumL w (.agg #[.bool false, .slice none 0 0]) 0 n :=
  ⟨false, .slice none 0 0, [], rfl, ⟨none, 0, rfl, Nat.le_refl _, by simp, LB_nil, fun h => absurd h (by simp)⟩, Or.inl rfl, fun _ => rfl, by simp [lv], by simp⟩

/-- A vector of one's own: it lies in its own block, from its start on. -/
structure VecO (w W : World) (P : Nat) (zs : List Int) (n : Nat) : Prop where
  vec : VecN W (.slice (some ⟨P, 0, none⟩) zs.length zs.length) zs n
  low : w.heap.size ≤ P
  below : Below w.heap.size w W
  blk : ∃ cs, W.heap[P]? = some (.cells cs 26)

theorem VecO.lt {w W : World} {P : Nat} {zs : List Int} {n : Nat} (h : VecO w W P zs n) : P < W.heap.size := by
  obtain ⟨cs, e⟩ := h.blk
  exact heap_lt e

theorem VecO.later {w W W' : World} {P : Nat} {zs : List Int} {n : Nat} (h : VecO w W P zs n) (hb : Below W.heap.size W W') : VecO w W' P zs n where
  vec := h.vec.below hb (Nat.le_refl _)
  low := h.low
  below := h.below.trans (hb.mono h.below.size)
  blk := by obtain ⟨cs, e⟩ := h.blk; exact ⟨cs, (hb.block _ (heap_lt e)).trans e⟩

theorem VecO.drew {w W : World} {P : Nat} {zs : List Int} {n : Nat} (h : VecO w W P zs n) : VecO w W.drew P zs n := ⟨h.vec, h.low, h.below.drew, h.blk⟩

theorem VecO.thaw {w W : World} {P : Nat} {zs : List Int} {n : Nat} (h : VecO w W P zs n) (k : Nat) : W.frozen? ⟨P, k, none⟩ = false := by
  obtain ⟨cs, e⟩ := h.blk
  simp [World.frozen?, e]

theorem VecN.mono {w : World} {v : Value} {zs : List Int} {n m : Nat} (h : VecN w v zs n) (hm : n ≤ m) : VecN w v zs m := by
  obtain ⟨ao, cap, hv, h1, h2⟩ := h
  refine ⟨ao, cap, hv, h1, fun h0 => ?_⟩
  obtain ⟨b, off, e, hlt, hc⟩ := h2 h0
  refine ⟨b, off, e, hlt, fun i hi => ?_⟩
  obtain ⟨neg, o, l, c, h3, h4, h5⟩ := hc i hi
  exact ⟨neg, o, l, c, h3, h4, h5.mono hm⟩

theorem made_cell (m i : Nat) (hi : i < m) : (madeCells #[.bool false, .slice none 0 0] (m * 2))[i * 2]? = some (.bool false) ∧ (madeCells #[.bool false, .slice none 0 0] (m * 2))[i * 2 + 1]? = some (.slice none 0 0) := by
  have h1 : i * 2 < m * 2 := by omega
  have h2 : i * 2 + 1 < m * 2 := by omega
  have e1 : i * 2 % 2 = 0 := by omega
  have e2 : (i * 2 + 1) % 2 = 1 := by omega
  constructor
  · simp [madeCells, h1, e1]
  · simp [madeCells, h2, e2]

theorem VecO.made (w W : World) (hb : Below w.heap.size w W) (m n : Nat) : VecO w (W.alloc (.cells (madeCells #[.bool false, .slice none 0 0] (m * 2)) 26)) W.heap.size (List.replicate m 0) n where
  vec := by
    refine ⟨_, _, rfl, Nat.le_refl _, fun h0 => ⟨_, _, rfl, by simp, fun i hi => ⟨false, none, 0, 0, ?_, ?_, ?_⟩⟩⟩
    · rw [List.length_replicate] at hi
      rw [Nat.zero_add, World.cell?_alloc_new]
      exact (made_cell m i hi).1
    · rw [List.length_replicate] at hi
      rw [Nat.zero_add, World.cell?_alloc_new]
      exact (made_cell m i hi).2
    · have e : (List.replicate m (0 : Int)).getD i 0 = 0 := by
        rw [List.getD_eq_getElem?_getD, List.getElem?_replicate]
        split <;> rfl
      rw [e]
      exact NumL.nought _ _
  low := hb.size
  below := hb.alloc hb.size _
  blk := ⟨_, heap_alloc_new W _⟩

/-- One place, read. -/
theorem VecO.at {w W : World} {P : Nat} {zs : List Int} {n : Nat} (h : VecO w W P zs n) (i : Nat) (hi : i < zs.length) : ∃ (neg : Bool) (o : Option Addr) (l c : Nat), W.cell? ⟨P, i * 2, none⟩ = some (.bool neg) ∧ W.cell? ⟨P, i * 2 + 1, none⟩ = some (.slice o l c) ∧ NumL W (.agg #[.bool neg, .slice o l c]) (zs.getD i 0) n := by
  have := (h.vec.at i hi).2
  simpa only [Nat.zero_add] using this

/-- One place is written. -/
theorem VecO.set {w W : World} {P : Nat} {zs : List Int} {n : Nat} (h : VecO w W P zs n) {k : Nat} (hk : k < zs.length) {neg : Bool} {o : Option Addr} {l c : Nat} {z : Int} (hz : NumL W (.agg #[.bool neg, .slice o l c]) z n) :
    VecO w ((W.setCell ⟨P, k * 2, none⟩ (.bool neg)).setCell ⟨P, k * 2 + 1, none⟩ (.slice o l c)) P (zs.set k z) n := by
  obtain ⟨neg0, o0, l0, c0, k0, k1, -⟩ := h.at k hk
  have k1' : (W.setCell ⟨P, k * 2, none⟩ (.bool neg)).cell? ⟨P, k * 2 + 1, none⟩ = some (.slice o0 l0 c0) := (World.cell?_setCell_other (h := fun e => by simp at e) ..).trans k1
  have keep : ∀ {v : Value} {y : Int}, NumL W v y n → NumL ((W.setCell ⟨P, k * 2, none⟩ (.bool neg)).setCell ⟨P, k * 2 + 1, none⟩ (.slice o l c)) v y n := fun hv =>
    (hv.setCell k0 (fun z e => by cases e)).setCell k1' (fun z e => by cases e)
  have hlen : (zs.set k z).length = zs.length := List.length_set
  refine ⟨?_, h.low, (h.below.setCell (by exact h.low) _).setCell (by exact h.low) _, ?_⟩
  · refine ⟨_, _, rfl, by omega, fun h0 => ⟨_, _, rfl, by simpa using h.lt, fun i hi => ?_⟩⟩
    rw [hlen] at hi
    by_cases hik : i = k
    · subst hik
      refine ⟨neg, o, l, c, ?_, ?_, ?_⟩
      · rw [Nat.zero_add]
        exact (World.cell?_setCell_other (h := fun e => by simp at e) ..).trans (World.cell?_setCell_same (h := k0) ..)
      · rw [Nat.zero_add]
        exact World.cell?_setCell_same (h := k1') ..
      · have e : (zs.set i z).getD i 0 = z := by
          rw [List.getD_eq_getElem?_getD, List.getElem?_set_self hi]; rfl
        rw [e]
        exact keep hz
    · obtain ⟨neg1, o1, l1, c1, m0, m1, m2⟩ := h.at i hi
      refine ⟨neg1, o1, l1, c1, ?_, ?_, ?_⟩
      · rw [Nat.zero_add]
        exact ((World.cell?_setCell_other (h := fun e => by simp at e <;> omega) ..).trans (World.cell?_setCell_other (h := fun e => by simp at e <;> omega) ..)).trans m0
      · rw [Nat.zero_add]
        exact ((World.cell?_setCell_other (h := fun e => by simp at e <;> omega) ..).trans (World.cell?_setCell_other (h := fun e => by simp at e <;> omega) ..)).trans m1
      · have e : (zs.set k z).getD i 0 = zs.getD i 0 := by
          rw [List.getD_eq_getElem?_getD, List.getD_eq_getElem?_getD, List.getElem?_set_ne (by omega)]
        rw [e]
        exact keep m2
  · obtain ⟨cs, e⟩ := h.blk
    exact ⟨_, heap_setCell_same _ P (k * 2 + 1) _ _ _ (heap_setCell_same W P (k * 2) _ _ _ e)⟩

theorem fill_step (zs : List Int) (k : Nat) (hk : k < zs.length) : (zs.take k ++ List.replicate (zs.length - k) 0).set k (zs.getD k 0) = zs.take (k + 1) ++ List.replicate (zs.length - (k + 1)) 0 := by
  have e : zs.length - k = (zs.length - (k + 1)) + 1 := by omega
  have hl : (zs.take k).length = k := by rw [List.length_take]; omega
  rw [e, List.replicate_succ, List.set_append_right _ _ (by omega), hl, Nat.sub_self, List.set_cons_zero, List.take_succ_eq_append_getElem hk, List.getD_eq_getElem?_getD, List.getElem?_eq_getElem hk, Option.getD_some, List.append_assoc, List.singleton_append]

theorem fill_len (zs : List Int) (k : Nat) (hk : k ≤ zs.length) : (zs.take k ++ List.replicate (zs.length - k) 0).length = zs.length := by
  rw [List.length_append, List.length_take, List.length_replicate]; omega

end Go.Proofs.YtmeefloajhffbaaDoor

/- Vectors made of numbers of 64 bits; the first place that isn't nought. -/
namespace Go.Proofs.YtmeefloajhffbaaDoor
open Go.RowKit Limbs

/-- Numbers of 64 bits in a row. -/
def RowS (w : World) (v : Value) (ks : List Int) : Prop :=
  ∃ ao cap, v = .slice ao ks.length cap ∧ ks.length ≤ cap ∧ (∀ i, -9223372036854775808 ≤ ks.getD i 0 ∧ ks.getD i 0 ≤ 9223372036854775807) ∧
    (0 < ks.length → ∃ b off, ao = some ⟨b, off, none⟩ ∧ b < w.heap.size ∧ ∀ i, i < ks.length → w.cell? ⟨b, off + i, none⟩ = some (.int .i64 (ks.getD i 0)))

theorem RowS.below {C : Nat} {w w' : World} {v : Value} {ks : List Int} (h : RowS w v ks) (hb : Below C w w') (hC : w.heap.size ≤ C) : RowS w' v ks := by
  obtain ⟨ao, cap, hv, h1, hk, h2⟩ := h
  refine ⟨ao, cap, hv, h1, hk, fun h0 => ?_⟩
  obtain ⟨b, off, e, hlt, hc⟩ := h2 h0
  exact ⟨b, off, e, Nat.lt_of_lt_of_le hlt hb.size, fun i hi => (hb.cell (p := ⟨b, off + i, none⟩) (Nat.lt_of_lt_of_le hlt hC)).trans (hc i hi)⟩

/-- A vector that was made. -/
def VecPost (w : World) (zs : List Int) (n : Nat) (e : Ending) (w' : World) : Prop :=
  ∃ P, e = .returned (.slice (some ⟨P, 0, none⟩) zs.length zs.length) ∧ VecO w w' P zs n

theorem VecO.full {w W : World} {P : Nat} {zs : List Int} {n : Nat} (h : VecO w W P (zs.take zs.length ++ List.replicate (zs.length - zs.length) 0) n) : VecO w W P zs n := by
  rwa [List.take_length, Nat.sub_self, List.replicate_zero, List.append_nil] at h

set_option maxRecDepth 100000 in
set_option maxHeartbeats 1600000 in
theorem ofV_any (w : World) (v : Value) (ks : List Int) (hv : RowS w v ks) (h8 : ks.length ≤ 1000) :
    Calls Tryd.prog 6 #[v] w fun e w' => VecPost w ks 2 e w' := by
  have HV := hide hv
  obtain ⟨ao, cap, rfl, -, hk64, -⟩ := hv
  have HK := hide hk64
  have hmk := run_mkV ks.length (by omega)
  have HI := hide (VecO.made w w (Below.refl _ _) ks.length 2)
  clear hk64
  go_enter Tryd.func6, Tryd.ntmps6
  go_wp2
  clear hmk
  go_loopw [10] (fun i wr => ∃ k : Nat, k ≤ ks.length ∧ i = .int .i64 k ∧ VecO w wr w.heap.size (ks.take k ++ List.replicate (ks.length - k) 0) 2) (fun i _ => ks.length - (intOf i).toNat)
  case atStart => exact ⟨0, Nat.zero_le _, rfl, HI.out⟩
  case round =>
    clear HI
    obtain ⟨k, hk, rfl, hinv⟩ := hrel
    have HI := hide hinv
    clear hinv
    by_cases hkl : k < ks.length
    · obtain ⟨_, _, e, -, -, hc⟩ := HV.out.below HI.out.below (Nat.le_refl _)
      simp only [Value.slice.injEq, true_and] at e
      obtain ⟨rfl, rfl⟩ := e
      obtain ⟨b, off, rfl, -, hc⟩ := hc (by omega)
      have c0 := hc k hkl
      have HFS := hide (fill_step ks k hkl)
      have hfl := fill_len ks k hk
      have H64 := hide (HK.out k)
      clear hc
      generalize ks.getD k 0 = z at *
      go_wp2_with fail
      refine (of_any wr z H64.out.1 H64.out.2).mono ?_
      rintro e w2 ⟨r, rfl, hr, hb⟩
      obtain ⟨⟨rn, ro, rl, rc⟩, rfl⟩ := hr.nm
      have HI2 := hide (HI.out.later hb)
      obtain ⟨neg0, o0, l0, c0', k0, k1, -⟩ := HI2.out.at k (by omega)
      have f0 := HI2.out.thaw (k * 2)
      have f1 := HI2.out.thaw (k * 2 + 1)
      have hP := HI2.out.lt
      have HN := hide (HI2.out.set (k := k) (by omega) hr)
      rw [HFS.out] at HN
      clear hb hr HI HI2 HFS H64 c0
      go_wp2
      go_roundw
      case rel => exact ⟨k + 1, by omega, by go_num, HN.out⟩
      case measure => simp [intOf]; omega
    · obtain rfl : k = ks.length := by omega
      have HF := hide HI.out.full
      clear HI
      go_wp2
      go_ret
      exact ⟨_, rfl, HF.out⟩

/-- The first place that isn't nought, or -1. -/
def first : List Int → Int
  | [] => -1
  | z :: zs => if z = 0 then (if first zs < 0 then -1 else first zs + 1) else 0

def firstFrom (zs : List Int) (k : Nat) : Int := if first (zs.drop k) < 0 then -1 else first (zs.drop k) + k

theorem first_ge (zs : List Int) : -1 ≤ first zs := by
  induction zs with
  | nil => exact Int.le_refl _
  | cons z zs ih => unfold first; split <;> (try split) <;> omega

theorem firstFrom_hit (zs : List Int) (k : Nat) (hk : k < zs.length) (h : zs.getD k 0 ≠ 0) : firstFrom zs k = k := by
  unfold firstFrom
  have e : zs.drop k = zs.getD k 0 :: zs.drop (k + 1) := drop_cons_getD zs k hk
  rw [e, first, if_neg h]
  simp

theorem firstFrom_miss (zs : List Int) (k : Nat) (hk : k < zs.length) (h : zs.getD k 0 = 0) : firstFrom zs k = firstFrom zs (k + 1) := by
  unfold firstFrom
  have e : zs.drop k = zs.getD k 0 :: zs.drop (k + 1) := drop_cons_getD zs k hk
  have h1 := first_ge (zs.drop (k + 1))
  rw [e, first, if_pos h]
  by_cases h3 : first (zs.drop (k + 1)) < 0
  · rw [if_pos h3, if_pos h3, if_pos (by decide)]
  · rw [if_neg h3, if_neg h3, if_neg (by omega)]; omega

set_option maxRecDepth 100000 in
set_option maxHeartbeats 1600000 in
theorem firstV_any (w : World) (v : Value) (zs : List Int) (n : Nat) (hv : VecN w v zs n) (hl : zs.length ≤ 100000) :
    Calls Tryd.prog 57 #[v] w fun e w' => e = .returned (.int .i64 (first zs)) ∧ Below w.heap.size w w' := by
  have HV := hide hv
  obtain ⟨ao, cap, rfl, -, -⟩ := hv
  go_enter Tryd.func57, Tryd.ntmps57
  go_wp2
  go_loopw [6] (fun i wr => ∃ k : Nat, k ≤ zs.length ∧ i = .int .i64 k ∧ Hid (first zs = firstFrom zs k) ∧ Below w.heap.size w wr) (fun i _ => zs.length - (intOf i).toNat)
  case atStart => exact ⟨0, Nat.zero_le _, rfl, by
    show _ = _
    unfold firstFrom
    have := first_ge zs
    rw [List.drop_zero]
    split <;> omega, Below.refl _ _⟩
  case round =>
    obtain ⟨k, hk, rfl, HG, hbe⟩ := hrel
    have HBE := hide hbe
    clear hbe
    by_cases hkl : k < zs.length
    · obtain ⟨ab, aoff, _, e⟩ := HV.out.form (by omega)
      simp only [Value.slice.injEq, true_and] at e
      obtain ⟨rfl, rfl⟩ := e
      obtain ⟨la, an, ao, al, ac, a0, a1, na⟩ := (HV.out.below HBE.out (Nat.le_refl _)).at k hkl
      have NA := hide na
      clear na
      have HH := hide (firstFrom_hit zs k hkl)
      have HM := hide (firstFrom_miss zs k hkl)
      generalize zs.getD k 0 = z at *
      go_wp2_with fail
      refine (zero_any wr _ z n NA.out).mono ?_
      rintro e w1 ⟨rfl, hb1⟩
      have HB1 := hide (HBE.out.trans (hb1.mono HBE.out.size))
      clear hb1 HBE
      by_cases hz : z = 0
      · have HG' := hide (HG.out.trans (HM.out hz))
        have ez : decide (z = 0) = true := decide_eq_true hz
        rw [ez]
        clear HH HM HG NA a0 a1 ez
        go_wp2
        go_roundw
        case rel => exact ⟨k + 1, by omega, by go_num, HG', HB1.out⟩
        case measure => simp [intOf]; omega
      · have HE := hide (HG.out.trans (HH.out hz))
        have ez : decide (z = 0) = false := decide_eq_false hz
        rw [ez]
        clear HH HM HG NA a0 a1 ez
        go_wp2
        go_ret
        exact ⟨by rw [HE.out]; rfl, HB1.out⟩
    · obtain rfl : k = zs.length := by omega
      have HE : Hid (first zs = -1) := by
        show _ = _
        rw [HG.out]; unfold firstFrom
        rw [List.drop_length, if_pos (by show (-1 : Int) < 0; decide)]
      clear HG
      go_wp2
      go_ret
      exact ⟨by rw [HE.out]; rfl, HBE.out⟩

theorem zeroV_any (w : World) (v : Value) (zs : List Int) (n : Nat) (hv : VecN w v zs n) (hl : zs.length ≤ 100000) :
    Calls Tryd.prog 56 #[v] w fun e w' => e = .returned (.bool (decide (first zs < 0))) ∧ Below w.heap.size w w' := by
  have HV := hide hv
  clear hv
  go_enter Tryd.func56, Tryd.ntmps56
  go_wp2_with fail
  refine (firstV_any w v zs n HV.out hl).mono ?_
  rintro e w1 ⟨rfl, hb1⟩
  have HB := hide hb1
  clear hb1 HV
  go_wp2
  go_ret
  exact ⟨rfl, HB.out⟩

end Go.Proofs.YtmeefloajhffbaaDoor
