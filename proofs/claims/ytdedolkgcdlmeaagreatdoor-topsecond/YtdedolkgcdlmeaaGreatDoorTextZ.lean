/- The text of any number, nought too. -/
import Derived.Test.YtdedolkgcdlmeaaGreatDoorTextB
import Derived.Test.YtdedolkgcdlmeaaGreatDoorGcdA
namespace Go.Proofs.YtdedolkgcdlmeaaGreatDoor
open Go.RowKit Limbs

theorem txt_zero : txt 0 = [48] := by
  unfold txt Lib.itoa
  rw [if_neg (by decide), show (0 : Int).toNat = 0 from rfl, Lib.decDigits, dif_pos (by decide)]
  rfl

set_option maxRecDepth 100000 in
set_option maxHeartbeats 1600000 in
theorem text_zero (w : World) (va : Value) (n : Nat) (ha : NumL w va 0 n) :
    Calls Tryz.prog 92 #[va] w fun e w' => TextPost w 0 e w' := by
  have HA := hide ha
  obtain ⟨⟨an, ao, al, ac⟩, rfl⟩ := ha.nm
  dsimp only at *
  clear ha
  have hb0 : Box (w.alloc (.cells #[.bool an, .slice ao al ac] 29)) w.heap.size (.bool an) (.slice ao al ac) := box_new w _ _ _ _ rfl
  have HW : Hid (Below w.heap.size w (w.alloc (.cells #[.bool an, .slice ao al ac] 29))) := (Below.refl _ _).alloc (Nat.le_refl _) _
  obtain ⟨k0, k1, -, -⟩ := hb0
  go_enter Tryz.func92, Tryz.ntmps92
  go_wp2_with fail
  refine (zero_any _ _ 0 n (HA.out.below HW.out (Nat.le_refl _))).mono ?_
  rintro e w1 ⟨rfl, hb⟩
  rw [decide_eq_true rfl]
  have HF : Hid (TextPost w 0 (.returned (.string ⟨#[48]⟩)) w1) := ⟨by rw [txt_zero], HW.out.trans (hb.mono HW.out.size)⟩
  clear hb
  go_wp2
  go_ret
  exact HF.out

theorem text_all (w : World) (va : Value) (z : Int) (n : Nat) (ht : Tab w) (ha : NumL w va z n) (hn : n ≤ 900000) :
    Calls Tryz.prog 92 #[va] w fun e w' => TextPost w z e w' := by
  by_cases hz : z = 0
  · subst hz; exact text_zero w va n ha
  · exact text_any w va z n ht ha hn hz

end Go.Proofs.YtdedolkgcdlmeaaGreatDoor
