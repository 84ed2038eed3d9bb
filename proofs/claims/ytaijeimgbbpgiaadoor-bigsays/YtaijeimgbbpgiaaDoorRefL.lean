/- A number in 64 bits, where it has room there. -/
import Derived.Test.YtaijeimgbbpgiaaDoorOps2
import Derived.Test.YtaijeimgbbpgiaaDoorDivOne
import Derived.Deep.RegionHeld3
namespace Go.Proofs.YtaijeimgbbpgiaaDoor
open Go.RowKit Limbs

/-- has it room in 64 bits? -/
def room (z : Int) : Bool := decide (-9223372036854775808 ≤ z) && decide (z ≤ 9223372036854775807)

def SmallPost (w : World) (z : Int) (e : Ending) (w' : World) : Prop :=
  e = .returned (.tuple #[.int .i64 (if room z = true then z else 0), .bool (room z)]) ∧ Below w.heap.size w w'

theorem lv_pair {zs : List Int} (h : zs.length ≤ 2) : lv zs = zs.getD 1 0 * 4294967296 + zs.getD 0 0 := by
  match zs, h with
  | [], _ => simp [lv]
  | [x], _ => simp [lv]
  | [x, y], _ => simp [lv]; omega

theorem lv_over {zs : List Int} (h : LB zs) (hn : Nrm zs) (hl : 2 < zs.length) : 18446744073709551616 ≤ lv zs := by
  have h1 := nrm_low h hn (by omega)
  have h2 : bp 2 ≤ bp (zs.length - 1) := bp_mono (by omega)
  have e : bp 2 = 18446744073709551616 := by decide
  omega

set_option maxRecDepth 100000 in
set_option maxHeartbeats 1600000 in
theorem small_any (w : World) (va : Value) (z : Int) (n : Nat) (ha : NumL w va z n) :
    Calls Tryd.prog 14 #[va] w fun e w' => SmallPost w z e w' := by
  obtain ⟨an, sa, a, rfl, hla, nra, hza, hx, hna⟩ := ha
  have HA := hide hla
  obtain ⟨ao, acap, rfl, -, hlen, hlb, -⟩ := hla
  have hb0 : Box (w.alloc (.cells #[.bool an, .slice ao a.length acap] 33)) w.heap.size (.bool an) (.slice ao a.length acap) := box_new w _ _ _ _ rfl
  have HW : Hid (Below w.heap.size w (w.alloc (.cells #[.bool an, .slice ao a.length acap] 33))) := (Below.refl _ _).alloc (Nat.le_refl _) _
  by_cases hl : 2 < a.length
  · have h3 := lv_over hlb nra hl
    have hr : room z = false := by
      unfold room
      rw [hx]
      cases an <;> simp <;> omega
    have HF : Hid (SmallPost w z (.returned (.tuple #[.int .i64 0, .bool false])) (w.alloc (.cells #[.bool an, .slice ao a.length acap] 33))) := ⟨by rw [hr]; rfl, HW.out⟩
    clear h3 hr hx
    go_enter Tryd.func14, Tryd.ntmps14
    go_wp2
    go_ret2
    exact HF.out
  · have e2 := lv_pair (zs := a) (by omega)
    have g0 := hlb 0
    have g1 := hlb 1
    rw [e2] at hx
    have HX := hide hx
    have L1 := hide (fun (W : World) (h : Below w.heap.size w W) => limb_any W _ a 1 (HA.out.below h (Nat.le_refl _)) (by decide) (by decide))
    have L0 := hide (fun (W : World) (h : Below w.heap.size w W) => limb_any W _ a 0 (HA.out.below h (Nat.le_refl _)) (by decide) (by decide))
    rw [show (1 : Int).toNat = 1 from rfl] at L1
    rw [show (0 : Int).toNat = 0 from rfl] at L0
    clear hx e2 HA hza nra
    generalize a.getD 0 0 = lo at *
    generalize a.getD 1 0 = up at *
    have hor := or_join up lo g1.1 g1.2 g0.1 g0.2
    have hsh := shl_join up lo g1.1 g1.2 g0.1 g0.2
    have tok1 : True := trivial
    have tok2 : True := trivial
    go_enter Tryd.func14, Tryd.ntmps14
    go_wp2_with fail
    generalize w.alloc (.cells #[.bool an, .slice ao a.length acap] 33) = W at *
    obtain ⟨k0, k1, -, -⟩ := hb0
    go_region_held3 (fun w' => w'.cell? ⟨w.heap.size, 0, none⟩ = some (.bool an) ∧ w'.cell? ⟨w.heap.size, 1, none⟩ = some (.slice ao a.length acap)) (go_keep)
      (first
        | (go_at_call 45; have _t := tok1; refine (L1.out _ HW.out.drew).mono ?_; rintro e w1 ⟨rfl, rfl⟩; clear tok1)
        | (go_at_call 45; have _t := tok2; refine (L0.out _ HW.out.drew).mono ?_; rintro e w1 ⟨rfl, rfl⟩; clear tok2))
    have HW' := hide HW.out.drew
    clear L0 L1 HW
    have hE : bits BinOp.or IntKind.u64 (IntKind.u64.wrap (IntKind.u64.wrap up * 4294967296)) (IntKind.u64.wrap lo) = up * 4294967296 + lo := by
      have e1 : IntKind.u64.wrap up = up := by rw [IntKind.wrap_u64]; omega
      have e2 : IntKind.u64.wrap lo = lo := by rw [IntKind.wrap_u64]; omega
      have e3 : IntKind.u64.wrap (up * 4294967296) = up * 4294967296 := by rw [IntKind.wrap_u64]; omega
      rw [e1, e2, e3, hor]
    simp only [hE]
    clear hor hE
    generalize up * 4294967296 + lo = m at *
    cases an
    · rw [if_neg (by decide)] at HX
      obtain rfl : z = m := HX.out
      by_cases hm : z ≤ 9223372036854775807
      · have hr : room z = true := by unfold room; simp; omega
        have HF : Hid (SmallPost w z (.returned (.tuple #[.int .i64 z, .bool true])) W.drew) := ⟨by rw [hr]; rfl, HW'.out⟩
        clear hr
        go_wp2
        go_ret2
        exact HF.out
      · have hr : room z = false := by unfold room; simp; omega
        have HF : Hid (SmallPost w z (.returned (.tuple #[.int .i64 0, .bool false])) W.drew) := ⟨by rw [hr]; rfl, HW'.out⟩
        clear hr
        go_wp2
        go_ret2
        exact HF.out
    · rw [if_pos rfl] at HX
      by_cases hm : m ≤ 9223372036854775808
      · have hr : room z = true := by unfold room; have := HX.out; simp; omega
        have hwr : IntKind.i64.wrap (IntKind.u64.wrap (-m)) = -m := by rw [IntKind.wrap_u64, IntKind.wrap_i64]; omega
        have HF : Hid (SmallPost w z (.returned (.tuple #[.int .i64 (-m), .bool true])) W.drew) := ⟨by rw [hr, HX.out]; rfl, HW'.out⟩
        clear hr
        go_wp2
        go_ret2
        exact HF.out
      · have hr : room z = false := by unfold room; have := HX.out; simp; omega
        have HF : Hid (SmallPost w z (.returned (.tuple #[.int .i64 0, .bool false])) W.drew) := ⟨by rw [hr]; rfl, HW'.out⟩
        clear hr
        go_wp2
        go_ret2
        exact HF.out

end Go.Proofs.YtaijeimgbbpgiaaDoor
