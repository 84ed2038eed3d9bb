/- Are these numbers, and not too great? -/
import Derived.Test.YtjblidoilphifacDoorDivOne
namespace Go.Proofs.YtjblidoilphifacDoor
open Go.RowKit Limbs

theorem ret_bool {a b : Bool} (h : a = b) : Ending.returned (.bool a) = .returned (.bool b) := by rw [h]

/-- A number as it came in: a sign, a slice, its limbs. -/
structure Raw where
  neg : Bool
  s : Value
  zs : List Int

def Raw.good (r : Raw) : Bool := decide (r.zs.length ≤ 12) && isNum r.neg r.zs

/-- A row of such, two cells each. -/
def Raws (w : World) (B : Nat) (xs : List Raw) : Prop :=
  B < w.heap.size ∧ ∀ i r, xs[i]? = some r → w.cell? ⟨B, i * 2, none⟩ = some (.bool r.neg) ∧ w.cell? ⟨B, i * 2 + 1, none⟩ = some r.s ∧ Lim w r.s r.zs

theorem Raws.below {B C : Nat} {w w' : World} {xs : List Raw} (h : Raws w B xs) (hb : Below C w w') (hC : w.heap.size ≤ C) : Raws w' B xs := by
  obtain ⟨h1, h2⟩ := h
  refine ⟨Nat.lt_of_lt_of_le h1 hb.size, fun i r hi => ?_⟩
  obtain ⟨h3, h4, h5⟩ := h2 i r hi
  exact ⟨(hb.cell (p := ⟨B, i * 2, none⟩) (Nat.lt_of_lt_of_le h1 hC)).trans h3, (hb.cell (p := ⟨B, i * 2 + 1, none⟩) (Nat.lt_of_lt_of_le h1 hC)).trans h4, h5.below hb hC⟩

set_option maxHeartbeats 800000 in
theorem fit_any (w : World) (B : Nat) (xs : List Raw) (hx : Raws w B xs) (hl : xs.length ≤ 1000) :
    Calls Tryd.prog 9 #[.slice (some ⟨B, 0, none⟩) xs.length xs.length] w fun e w' => e = .returned (.bool (xs.all Raw.good)) ∧ Below w.heap.size w w' := by
  have HX := hide hx
  clear hx
  go_enter Tryd.func9, Tryd.ntmps9
  go_wp2
  go_loopw [3] (fun i wr => ∃ k : Nat, k ≤ xs.length ∧ i = .int .i64 k ∧ Hid ((xs.take k).all Raw.good = true) ∧ Below w.heap.size w wr) (fun i _ => xs.length - (intOf i).toNat)
  case atStart => exact ⟨0, Nat.zero_le _, rfl, by show _ = _; simp, Below.refl _ _⟩
  case round =>
    obtain ⟨k, hk, rfl, HG, hbe⟩ := hrel
    by_cases hlt : k < xs.length
    · obtain ⟨h1, h2⟩ := HX.out.below hbe (Nat.le_refl _)
      obtain ⟨c0, c1, hL⟩ := h2 k xs[k] (by simp [hlt])
      clear h2
      have HT : Hid ((xs.take (k + 1)).all Raw.good = xs[k].good) := by
        show _ = _
        rw [List.take_succ_eq_append_getElem hlt, List.all_append, HG.out]; simp
      have HE : Hid (xs[k].good = false → xs.all Raw.good = false) := fun h => by
        rw [List.all_eq_false]; exact ⟨xs[k], List.getElem_mem hlt, by simp [h]⟩
      generalize xs[k] = r at *
      obtain ⟨rn, rs, rz⟩ := r
      have HL := hide hL
      obtain ⟨ao, acap, e, -⟩ := hL
      simp only at e c0 c1
      subst e
      go_wp2_with fail
      refine (light_any _ _ _ _ HL.out).mono ?_
      rintro e w1 ⟨rfl, hb1⟩
      by_cases hli : rz.length ≤ 12
      · rw [decide_eq_true hli]
        have d0 : w1.cell? ⟨B, k * 2, none⟩ = some (.bool rn) := (hb1.cell (p := ⟨B, k * 2, none⟩) h1).trans c0
        have d1 : w1.cell? ⟨B, k * 2 + 1, none⟩ = some (.slice ao rz.length acap) := (hb1.cell (p := ⟨B, k * 2 + 1, none⟩) h1).trans c1
        go_wp2_with fail
        refine (check_any _ _ _ _ (HL.out.below hb1 (Nat.le_refl _))).mono ?_
        rintro e w2 ⟨rfl, hb2⟩
        have HB := hide (hbe.trans ((hb1.trans (hb2.mono hb1.size)).mono hbe.size))
        cases hn : isNum rn rz
        · have HF := hide (HE.out (by simp [Raw.good, hn]))
          clear hn
          rw [show checked false = .iface 79 (.int .i64 3) from rfl]
          go_wp2
          go_ret
          exact ⟨ret_bool HF.out.symm, HB.out⟩
        · have HF : Hid ((xs.take (k + 1)).all Raw.good = true) := by show _ = _; rw [HT.out]; simp [Raw.good, hn, hli]
          clear hn
          rw [show checked true = .nilIface from rfl]
          go_wp2
          go_roundw
          case rel => exact ⟨k + 1, by omega, by go_num, HF, HB.out⟩
          case measure => simp [intOf]; omega
      · rw [decide_eq_false hli]
        have HF := hide (HE.out (by simp [Raw.good, hli]))
        have HB := hide (hbe.trans (hb1.mono hbe.size))
        go_wp2
        go_ret
        exact ⟨ret_bool HF.out.symm, HB.out⟩
    · have HF : Hid (xs.all Raw.good = true) := by have := HG.out; rw [List.take_of_length_le (by omega)] at this; exact this
      go_wp2
      go_ret
      exact ⟨ret_bool HF.out.symm, hbe⟩

end Go.Proofs.YtjblidoilphifacDoor
