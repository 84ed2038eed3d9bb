/- The text of a small number: no table is read. -/
import Derived.Test.YtklhmnejmbgmjacDoorTextW
namespace Go.Proofs.YtklhmnejmbgmjacDoor
open Go.RowKit Limbs

theorem itoa_small_ok (w : World) (z : Int) (hz : z.natAbs < 100) : ItoaOk w z := fun W k _ _ hc => by
  refine (Go.Proofs.Tryd.strconv_Itoa_small k (by omega) W).mono ?_
  rintro e w' ⟨rfl, rfl⟩
  exact ⟨rfl, Below.refl _ _⟩

theorem text_small (w : World) (va : Value) (z : Int) (n : Nat) (ha : NumL w va z n) (hn : n ≤ 900000) (hz : z ≠ 0) (h : z.natAbs < 100) :
    Calls Tryd.prog 7 #[va] w fun e w' => TextPost w z e w' := text_gen w va z n ha hn hz (itoa_small_ok w z h)

end Go.Proofs.YtklhmnejmbgmjacDoor
