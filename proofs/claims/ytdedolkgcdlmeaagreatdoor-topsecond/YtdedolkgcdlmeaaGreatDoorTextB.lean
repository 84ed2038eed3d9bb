/- The text of a number of any size, where the library's table of powers of ten is laid. -/
import Derived.Test.YtdedolkgcdlmeaaGreatDoorTextW
import Derived.Test.YtdedolkgcdlmeaaGreatDoorShelfI
namespace Go.Proofs.YtdedolkgcdlmeaaGreatDoor
open Go.RowKit Limbs

/-- The table is laid. -/
def Tab (w : World) : Prop := Lib.TabIs Tryz.prog w "internal/strconv.uint64pow10" .u64 Lib.pow10Tab

theorem Tab.below {w w' : World} (h : Tab w) (hb : Below w.heap.size w w') : Tab w' := by
  unfold Tab Lib.TabIs World.var? at h ⊢
  obtain ⟨g, hg⟩ : ∃ g, Tryz.prog.globalNamed "internal/strconv.uint64pow10" = some g := by
    cases hg : Tryz.prog.globalNamed "internal/strconv.uint64pow10" with
    | none => rw [hg] at h; cases h
    | some g => exact ⟨g, rfl⟩
  rw [hg] at h ⊢
  simp only [Option.bind_some] at h ⊢
  have hlt : g < w.heap.size := by
    rcases Nat.lt_or_ge g w.heap.size with h' | h'
    · exact h'
    · rw [Array.getElem?_eq_none h'] at h; cases h
  rw [hb.block g hlt]
  exact h

theorem itoa_ok {w : World} (ht : Tab w) (z : Int) : ItoaOk w z := fun W k hb hk _ => by
  refine (Go.Proofs.Tryz.strconv_Itoa k (by omega) (by omega) W (ht.below hb)).mono ?_
  rintro e w' ⟨rfl, n, os, rfl⟩
  refine ⟨by rw [Lib.itoa_nonneg], rfl, rfl, rfl, by simp [Go.Sort.grow], fun j hj => ?_⟩
  simp [Go.Sort.grow, Array.getElem?_append, hj]

theorem text_any (w : World) (va : Value) (z : Int) (n : Nat) (ht : Tab w) (ha : NumL w va z n) (hn : n ≤ 900000) (hz : z ≠ 0) :
    Calls Tryz.prog 92 #[va] w fun e w' => TextPost w z e w' := text_gen w va z n ha hn hz (itoa_ok ht z)

end Go.Proofs.YtdedolkgcdlmeaaGreatDoor
