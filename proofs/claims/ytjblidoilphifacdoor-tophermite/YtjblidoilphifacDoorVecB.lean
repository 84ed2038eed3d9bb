/- Vectors as they come in; what is wrong with one. -/
import Derived.Test.YtjblidoilphifacDoorFit
import Derived.Test.YtjblidoilphifacDoorDivOne
import Derived.Deep.RegionHeld3

namespace Go.Proofs.YtjblidoilphifacDoor
open Go.RowKit Limbs

/-- A vector: numbers as they came in, two cells each. -/
def VecL (w : World) (v : Value) (rs : List Raw) : Prop :=
  ∃ ao cap, v = .slice ao rs.length cap ∧ rs.length ≤ cap ∧
    (0 < rs.length → ∃ b off, ao = some ⟨b, off, none⟩ ∧ b < w.heap.size ∧ ∀ i r, rs[i]? = some r → w.cell? ⟨b, off + i * 2, none⟩ = some (.bool r.neg) ∧ w.cell? ⟨b, off + i * 2 + 1, none⟩ = some r.s ∧ Lim w r.s r.zs)

theorem VecL.below {C : Nat} {w w' : World} {v : Value} {rs : List Raw} (h : VecL w v rs) (hb : Below C w w') (hC : w.heap.size ≤ C) : VecL w' v rs := by
  obtain ⟨ao, cap, hv, h1, h2⟩ := h
  refine ⟨ao, cap, hv, h1, fun h0 => ?_⟩
  obtain ⟨b, off, e, hlt, hc⟩ := h2 h0
  refine ⟨b, off, e, Nat.lt_of_lt_of_le hlt hb.size, fun i r hi => ?_⟩
  obtain ⟨h3, h4, h5⟩ := hc i r hi
  exact ⟨(hb.cell (p := ⟨b, off + i * 2, none⟩) (Nat.lt_of_lt_of_le hlt hC)).trans h3, (hb.cell (p := ⟨b, off + i * 2 + 1, none⟩) (Nat.lt_of_lt_of_le hlt hC)).trans h4, h5.below hb hC⟩

def Raw.num (r : Raw) : Bool := isNum r.neg r.zs

/-- what Check answers of a vector -/
def checkedV (rs : List Raw) : Value := if rs.length < 1 ∨ 8 < rs.length then .iface 79 (.int .i64 6) else checked (rs.all Raw.num)

set_option maxRecDepth 100000 in
set_option maxHeartbeats 1600000 in
theorem checkV_any (w : World) (v : Value) (rs : List Raw) (hv : VecL w v rs) :
    Calls Tryd.prog 13 #[v] w fun e w' => e = .returned (checkedV rs) ∧ Below w.heap.size w w' := by
  have HV := hide hv
  obtain ⟨ao, cap, rfl, -, hc⟩ := hv
  by_cases h1 : rs.length < 1
  · have e : checkedV rs = .iface 79 (.int .i64 6) := if_pos (.inl h1)
    rw [e]
    have hl : (rs.length : Int) < 1 := by omega
    clear hc e
    go_enter Tryd.func13, Tryd.ntmps13
    go_wp2
    go_ret
    exact ⟨rfl, Below.refl _ _⟩
  · have hl : ¬ ((rs.length : Int) < 1) := by omega
    by_cases h2 : 8 < rs.length
    · have e : checkedV rs = .iface 79 (.int .i64 6) := if_pos (.inr h2)
      rw [e]
      have hl2 : (8 : Int) < (rs.length : Int) := by omega
      clear hc e
      go_enter Tryd.func13, Tryd.ntmps13
      go_wp2
      go_ret
      exact ⟨rfl, Below.refl _ _⟩
    · have e : checkedV rs = checked (rs.all Raw.num) := if_neg (by omega)
      rw [e]
      have hl2 : ¬ ((8 : Int) < (rs.length : Int)) := by omega
      obtain ⟨b, off, rfl, hlt, -⟩ := hc (by omega)
      clear e
      go_enter Tryd.func13, Tryd.ntmps13
      go_wp2
      go_loopw [16] (fun i wr => ∃ k : Nat, k ≤ rs.length ∧ i = .int .i64 k ∧ Hid ((rs.take k).all Raw.num = true) ∧ Below w.heap.size w wr) (fun i _ => rs.length - (intOf i).toNat)
      case atStart => exact ⟨0, Nat.zero_le _, rfl, by show _ = _; simp, Below.refl _ _⟩
      case round =>
        obtain ⟨k, hk, rfl, HG, hbe⟩ := hrel
        by_cases hkl : k < rs.length
        · obtain ⟨_, _, e, -, hc⟩ := HV.out.below hbe (Nat.le_refl _)
          simp only [Value.slice.injEq, true_and] at e
          obtain ⟨rfl, rfl⟩ := e
          obtain ⟨_, _, e, hb2, hc⟩ := hc (by omega)
          simp only [Option.some.injEq, Addr.mk.injEq, and_true] at e
          obtain ⟨rfl, rfl⟩ := e
          obtain ⟨c0, c1, hL⟩ := hc k rs[k] (by simp [hkl])
          clear hc
          have HT : Hid ((rs.take (k + 1)).all Raw.num = rs[k].num) := by
            show _ = _
            rw [List.take_succ_eq_append_getElem hkl, List.all_append, HG.out]; simp
          have HE : Hid (rs[k].num = false → rs.all Raw.num = false) := fun h => by
            rw [List.all_eq_false]; exact ⟨rs[k], List.getElem_mem hkl, by simp [h]⟩
          generalize rs[k] = r at *
          obtain ⟨rn, rsl, rz⟩ := r
          have HL := hide hL
          have HBE := hide hbe
          obtain ⟨ro, rcap, e, -⟩ := hL
          simp only at e c0 c1
          subst e
          clear hbe
          go_wp2_with fail
          refine (check_any _ _ _ _ HL.out).mono ?_
          rintro e w1 ⟨rfl, hb1⟩
          have HB1 := hide (HBE.out.trans (hb1.mono HBE.out.size))
          clear hb1
          cases hn : isNum rn rz
          · have HA := hide (HE.out hn)
            have e : checked false = .iface 79 (.int .i64 3) := rfl
            rw [e]
            clear HT HE e
            go_wp2
            go_ret
            exact ⟨by rw [HA.out]; rfl, HB1.out⟩
          · have e : checked true = .nilIface := rfl
            rw [e]
            have HG' := hide (HT.out.trans hn)
            clear HT HE HG e
            go_wp2
            go_roundw
            case rel => exact ⟨k + 1, by omega, by go_num, HG', HB1.out⟩
            case measure => simp [intOf]; omega
        · obtain rfl : k = rs.length := by omega
          have HA : Hid (rs.all Raw.num = true) := by have := HG.out; rwa [List.take_length] at this
          have HBE := hide hbe
          clear hbe HG
          go_wp2
          go_ret
          exact ⟨by rw [HA.out]; rfl, HBE.out⟩

end Go.Proofs.YtjblidoilphifacDoor

/- Vectors of numbers; are two the same? -/
namespace Go.Proofs.YtjblidoilphifacDoor
open Go.RowKit Limbs

/-- A vector of these numbers, each of at most so many limbs. -/
def VecN (w : World) (v : Value) (zs : List Int) (n : Nat) : Prop :=
  ∃ ao cap, v = .slice ao zs.length cap ∧ zs.length ≤ cap ∧
    (0 < zs.length → ∃ b off, ao = some ⟨b, off, none⟩ ∧ b < w.heap.size ∧ ∀ i, i < zs.length → ∃ (neg : Bool) (o : Option Addr) (l c : Nat), w.cell? ⟨b, off + i * 2, none⟩ = some (.bool neg) ∧ w.cell? ⟨b, off + i * 2 + 1, none⟩ = some (.slice o l c) ∧ NumL w (.agg #[.bool neg, .slice o l c]) (zs.getD i 0) n)

theorem VecN.below {C : Nat} {w w' : World} {v : Value} {zs : List Int} {n : Nat} (h : VecN w v zs n) (hb : Below C w w') (hC : w.heap.size ≤ C) : VecN w' v zs n := by
  obtain ⟨ao, cap, hv, h1, h2⟩ := h
  refine ⟨ao, cap, hv, h1, fun h0 => ?_⟩
  obtain ⟨b, off, e, hlt, hc⟩ := h2 h0
  refine ⟨b, off, e, Nat.lt_of_lt_of_le hlt hb.size, fun i hi => ?_⟩
  obtain ⟨neg, o, l, c, h3, h4, h5⟩ := hc i hi
  exact ⟨neg, o, l, c, (hb.cell (p := ⟨b, off + i * 2, none⟩) (Nat.lt_of_lt_of_le hlt hC)).trans h3, (hb.cell (p := ⟨b, off + i * 2 + 1, none⟩) (Nat.lt_of_lt_of_le hlt hC)).trans h4, h5.below hb hC⟩

/-- One of them, read. -/
theorem VecN.at {w : World} {b off cap : Nat} {zs : List Int} {n : Nat} (h : VecN w (.slice (some ⟨b, off, none⟩) zs.length cap) zs n) (i : Nat) (hi : i < zs.length) : b < w.heap.size ∧ ∃ (neg : Bool) (o : Option Addr) (l c : Nat), w.cell? ⟨b, off + i * 2, none⟩ = some (.bool neg) ∧ w.cell? ⟨b, off + i * 2 + 1, none⟩ = some (.slice o l c) ∧ NumL w (.agg #[.bool neg, .slice o l c]) (zs.getD i 0) n := by
  obtain ⟨_, _, e, -, hc⟩ := h
  simp only [Value.slice.injEq, true_and] at e
  obtain ⟨rfl, rfl⟩ := e
  obtain ⟨_, _, e, hlt, hc⟩ := hc (by omega)
  simp only [Option.some.injEq, Addr.mk.injEq, and_true] at e
  obtain ⟨rfl, rfl⟩ := e
  exact ⟨hlt, hc i hi⟩

theorem VecN.form {w : World} {v : Value} {zs : List Int} {n : Nat} (h : VecN w v zs n) (h0 : 0 < zs.length) : ∃ b off cap, v = .slice (some ⟨b, off, none⟩) zs.length cap := by
  obtain ⟨ao, cap, rfl, -, hc⟩ := h
  obtain ⟨b, off, rfl, -⟩ := hc h0
  exact ⟨b, off, cap, rfl⟩

theorem take_eq_succ {zs ys : List Int} {k : Nat} (h1 : k < zs.length) (h2 : k < ys.length) (h : zs.take k = ys.take k) (e : zs.getD k 0 = ys.getD k 0) : zs.take (k + 1) = ys.take (k + 1) := by
  rw [List.take_succ_eq_append_getElem h1, List.take_succ_eq_append_getElem h2, h]
  rw [List.getD_eq_getElem?_getD, List.getD_eq_getElem?_getD, List.getElem?_eq_getElem h1, List.getElem?_eq_getElem h2] at e
  simp only [Option.getD_some] at e
  rw [e]

set_option maxRecDepth 100000 in
set_option maxHeartbeats 1600000 in
theorem alike_any (w : World) (va vb : Value) (zs ys : List Int) (n m : Nat) (ha : VecN w va zs n) (hb : VecN w vb ys m) (hzl : zs.length ≤ 100000) (r : Bool) (hr : r = decide (zs = ys)) :
    Calls Tryd.prog 16 #[va, vb] w fun e w' => e = .returned (.bool r) ∧ Below w.heap.size w w' := by
  have HA := hide ha; have HB := hide hb
  have HR := hide hr
  clear hr
  by_cases hl : zs.length = ys.length
  · obtain ⟨ao, acap, rfl, -, -⟩ := ha
    obtain ⟨bo, bcap, rfl, -, -⟩ := hb
    have hl1 : ((zs.length : Int) == (ys.length : Int)) = true := by rw [beq_iff_eq]; omega
    have hl2 : ((zs.length : Int) != (ys.length : Int)) = false := by rw [bne_eq_false_iff_eq]; omega
    have HLN := hide hl
    clear hl
    go_enter Tryd.func16, Tryd.ntmps16
    go_wp2
    go_loopw [13] (fun i wr => ∃ k : Nat, k ≤ zs.length ∧ i = .int .i64 k ∧ Hid (zs.take k = ys.take k) ∧ Below w.heap.size w wr) (fun i _ => zs.length - (intOf i).toNat)
    case atStart => exact ⟨0, Nat.zero_le _, rfl, by show _ = _; simp, Below.refl _ _⟩
    case round =>
      obtain ⟨k, hk, rfl, HG, hbe⟩ := hrel
      have HBE := hide hbe
      clear hbe
      by_cases hkl : k < zs.length
      · have hky : k < ys.length := by have := HLN.out; omega
        obtain ⟨ab, aoff, _, e⟩ := HA.out.form (by omega)
        simp only [Value.slice.injEq, true_and] at e
        obtain ⟨rfl, rfl⟩ := e
        obtain ⟨bb, boff, _, e⟩ := HB.out.form (by omega)
        simp only [Value.slice.injEq, true_and] at e
        obtain ⟨rfl, rfl⟩ := e
        obtain ⟨la, an, ao, al, ac, a0, a1, na⟩ := (HA.out.below HBE.out (Nat.le_refl _)).at k hkl
        obtain ⟨lb, bn, bo, bl, bc, b0, b1, nb⟩ := (HB.out.below HBE.out (Nat.le_refl _)).at k hky
        have NA := hide na; have NB := hide nb
        have HTS := hide (fun e => take_eq_succ hkl hky HG.out e)
        have HNE : Hid (zs.getD k 0 ≠ ys.getD k 0 → r = false) := fun h => by
          rw [HR.out]; exact decide_eq_false fun e => h (by rw [e])
        clear na nb
        generalize zs.getD k 0 = z at *
        generalize ys.getD k 0 = y at *
        go_wp2_with fail
        go_region_held3 (fun w' => w'.cell? ⟨ab, aoff + k * 2, none⟩ = some (.bool an) ∧ w'.cell? ⟨ab, aoff + k * 2 + 1, none⟩ = some (.slice ao al ac) ∧ w'.cell? ⟨bb, boff + k * 2, none⟩ = some (.bool bn) ∧ w'.cell? ⟨bb, boff + k * 2 + 1, none⟩ = some (.slice bo bl bc)) (go_keep)
          (first
            | (go_at_call 31; refine (compare_any _ _ _ z y n m (by exact NA.out) (by exact NB.out)).mono ?_; rintro e w1 ⟨rfl, hb1⟩; have HB1 := hide (show Below w.heap.size w w1 from HBE.out.drew.trans (hb1.mono HBE.out.size)); have p0 := (hb1.cell (p := ⟨ab, aoff + k * 2, none⟩) la).trans a0; have p1 := (hb1.cell (p := ⟨ab, aoff + k * 2 + 1, none⟩) la).trans a1; have p2 := (hb1.cell (p := ⟨bb, boff + k * 2, none⟩) lb).trans b0; have p3 := (hb1.cell (p := ⟨bb, boff + k * 2 + 1, none⟩) lb).trans b1; clear hb1))
        by_cases hz : z = y
        · have hc0 : cmpI z y = 0 := by unfold cmpI; repeat' split; all_goals omega
          have HG' := hide (HTS.out hz)
          rw [hc0]
          clear HTS HNE hz p0 p1 p2 p3 a0 a1 b0 b1
          go_wp2
          go_roundw
          case rel => exact ⟨k + 1, by omega, by go_num, HG', HB1.out⟩
          case measure => simp [intOf]; omega
        · have hc0 : cmpI z y ≠ 0 := by unfold cmpI; repeat' split; all_goals omega
          have hcb : (cmpI z y != 0) = true := by rw [bne_iff_ne]; exact hc0
          have hce : (cmpI z y == 0) = false := by rw [beq_eq_false_iff_ne]; exact hc0
          obtain rfl : r = false := HNE.out hz
          clear HTS HNE hz p0 p1 p2 p3 a0 a1 b0 b1
          generalize cmpI z y = c at *
          go_wp2
          go_ret
          exact ⟨rfl, HB1.out⟩
      · obtain rfl : k = zs.length := by omega
        have HE : Hid (zs = ys) := by
          have := HG.out
          rw [List.take_length, List.take_of_length_le (by have := HLN.out; omega)] at this
          exact this
        obtain rfl : r = true := by rw [HR.out]; exact decide_eq_true HE.out
        clear HG HE
        go_wp2
        go_ret
        exact ⟨rfl, HBE.out⟩
  · obtain ⟨ao, acap, rfl, -, -⟩ := ha
    obtain ⟨bo, bcap, rfl, -, -⟩ := hb
    have hl1 : ((zs.length : Int) == (ys.length : Int)) = false := by rw [beq_eq_false_iff_ne]; omega
    have hl2 : ((zs.length : Int) != (ys.length : Int)) = true := by rw [bne_iff_ne]; omega
    obtain rfl : r = false := by rw [HR.out]; exact decide_eq_false fun e => hl (by rw [e])
    go_enter Tryd.func16, Tryd.ntmps16
    go_wp2
    go_ret
    exact ⟨rfl, Below.refl _ _⟩

end Go.Proofs.YtjblidoilphifacDoor
