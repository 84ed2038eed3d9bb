/- Lattices: sizes, and rows that are in the one form. -/
import Derived.Test.YtdedolkgcdlmeaaGreatDoorFormP
namespace Go.Proofs.YtdedolkgcdlmeaaGreatDoor
open Go.RowKit Limbs

theorem MatN.take {w : World} {b off cap : Nat} {zss : List (List Int)} {n : Nat} (h : MatN w (.slice (some ⟨b, off, none⟩) zss.length cap) zss n) {k : Nat} (hk : k < zss.length) : MatN w (.slice (some ⟨b, off, none⟩) k cap) (zss.take k) n := by
  obtain ⟨ao, cap', e, h1, h2⟩ := h
  simp only [Value.slice.injEq, true_and] at e
  obtain ⟨rfl, rfl⟩ := e
  obtain ⟨b', off', e, hlt, hc⟩ := h2 (by omega)
  simp only [Option.some.injEq, Addr.mk.injEq, and_true] at e
  obtain ⟨rfl, rfl⟩ := e
  have hl : (zss.take k).length = k := by rw [List.length_take]; omega
  refine ⟨_, cap, by rw [hl], by omega, fun _ => ⟨b, off, rfl, hlt, fun i zs hi => ?_⟩⟩
  have : i < k := by have := (List.getElem?_eq_some_iff.1 hi).1; omega
  exact hc i zs (by rw [← hi, List.getElem?_take, if_pos this])

set_option maxRecDepth 100000 in
set_option maxHeartbeats 1600000 in
theorem lessAhead_yes (w : World) (v : Value) (hs : List (List Int)) (nv : Nat) (hv : MatN w v hs nv) (q : Nat) (pn : Bool) (po : Option Addr) (pl pc : Nat) (z : Int) (hz : NumL w (.agg #[.bool pn, .slice po pl pc]) z nv)
    (hall : ∀ i (h : i < hs.length), q < hs[i].length ∧ 0 ≤ hs[i].getD q 0 ∧ hs[i].getD q 0 < z) (hl : hs.length ≤ 1000) (hq : q ≤ 1000) :
    Calls Tryz.prog 110 #[v, .int .i64 (q : Int), .agg #[.bool pn, .slice po pl pc]] w fun e w' => e = .returned (.bool true) ∧ Below w.heap.size w w' := by
  have HV := hide hv; have HZ := hide hz; have HALL := hide hall
  obtain ⟨ao, cap, rfl, -, -⟩ := hv
  have HBW := hide ((Below.refl w.heap.size w).alloc (Nat.le_refl _) (.cells #[.bool pn, .slice po pl pc] 29))
  have HC0 : Hid ((w.alloc (.cells #[.bool pn, .slice po pl pc] 29)).cell? ⟨w.heap.size, 0, none⟩ = some (.bool pn)) := by show _ = _; rw [World.cell?_alloc_new]; rfl
  have HC1 : Hid ((w.alloc (.cells #[.bool pn, .slice po pl pc] 29)).cell? ⟨w.heap.size, 1, none⟩ = some (.slice po pl pc)) := by show _ = _; rw [World.cell?_alloc_new]; rfl
  have HSZ : Hid (w.heap.size < (w.alloc (.cells #[.bool pn, .slice po pl pc] 29)).heap.size) := by show _ < _; simp
  clear hz hall
  go_enter Tryz.func110, Tryz.ntmps110
  go_wp2
  generalize w.alloc (.cells #[.bool pn, .slice po pl pc] 29) = W1 at *
  go_loopw [11] (fun i wr => ∃ j : Nat, j ≤ hs.length ∧ i = .int .i64 j ∧ Hid (Below W1.heap.size W1 wr)) (fun i _ => hs.length - (intOf i).toNat)
  case atStart => exact ⟨0, Nat.zero_le _, rfl, hide (Below.refl _ _)⟩
  case round =>
    obtain ⟨j, hj, rfl, HBI⟩ := hrel
    have HBJ := hide (HBW.out.trans (HBI.out.mono HBW.out.size))
    by_cases hjl : j < hs.length
    · obtain ⟨b, off, _, e, hlt, x, cx, hx⟩ := (HV.out.below HBJ.out (Nat.le_refl _)).at j hjl
      simp only [Value.slice.injEq, true_and] at e
      obtain ⟨rfl, rfl⟩ := e
      obtain ⟨hxl, hr1, hr2⟩ := HALL.out j hjl
      obtain ⟨xb, xoff, xcap, rfl⟩ := hx.form (by omega)
      obtain ⟨lx, xn, xo, xl, xc, x0, x1, xnum⟩ := hx.at q hxl
      have hneg : xn = false := by
        have := xnum.sgn
        cases xn
        · rfl
        · have := this.1 rfl; omega
      subst hneg
      have q0 := (HBI.out.cell (p := ⟨w.heap.size, 0, none⟩) HSZ.out).trans HC0.out
      have q1 := (HBI.out.cell (p := ⟨w.heap.size, 1, none⟩) HSZ.out).trans HC1.out
      have hlb : w.heap.size < wr.heap.size := Nat.lt_of_lt_of_le HSZ.out HBI.out.size
      have HXN := hide xnum
      have HRN2 := hide (HZ.out.below HBJ.out (Nat.le_refl _))
      have HCM : Hid (cmpI (hs[j].getD q 0) z = -1) := if_pos hr2
      clear xnum hx hr1 hr2
      generalize hs[j].getD q 0 = xv at *
      generalize hs[j].length = xlen at *
      have hbx : Below wr.heap.size wr (wr.alloc (.cells #[.bool false, .slice xo xl xc] 29)) := (Below.refl _ _).alloc (Nat.le_refl _) _
      have HBX := hide hbx
      have c0 : (wr.alloc (.cells #[.bool false, .slice xo xl xc] 29)).cell? ⟨wr.heap.size, 0, none⟩ = some (.bool false) := by rw [World.cell?_alloc_new]; rfl
      have c1 : (wr.alloc (.cells #[.bool false, .slice xo xl xc] 29)).cell? ⟨wr.heap.size, 1, none⟩ = some (.slice xo xl xc) := by rw [World.cell?_alloc_new]; rfl
      have c3 := (hbx.cell (p := ⟨w.heap.size, 0, none⟩) hlb).trans q0
      have c4 := (hbx.cell (p := ⟨w.heap.size, 1, none⟩) hlb).trans q1
      have HXB := hide (HXN.out.below hbx (Nat.le_refl _))
      have HRB := hide (HRN2.out.below hbx (Nat.le_refl _))
      clear hbx HXN HRN2 HV HZ HALL HC0 HC1
      go_wp2_with fail
      refine (compare_any _ _ _ xv z nv nv (by exact HXB.out) (by exact HRB.out)).mono ?_
      rintro e w2 ⟨rfl, hb2⟩
      have HB2 := hide (show Below wr.heap.size wr w2 from HBX.out.trans (hb2.mono (by simp)))
      rw [HCM.out]
      have HB3 := hide (HBI.out.trans (HB2.out.mono HBI.out.size))
      clear hb2 HB2 HBX HXB HRB HCM c0 c1 c3 c4 q0 q1 HBI cx x0 x1
      go_wp2
      go_roundw
      case rel => exact ⟨j + 1, by omega, by go_num, HB3⟩
      case measure => simp [intOf]; omega
    · obtain rfl : j = hs.length := by omega
      clear HBI
      go_wp2
      go_ret
      exact ⟨rfl, HBJ.out⟩

end Go.Proofs.YtdedolkgcdlmeaaGreatDoor
