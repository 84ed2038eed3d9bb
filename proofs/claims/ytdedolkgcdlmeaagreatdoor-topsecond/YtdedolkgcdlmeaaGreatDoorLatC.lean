/- slices.Grow, slices.Concat of two lists of rows. -/
import Derived.Test.YtdedolkgcdlmeaaGreatDoorLatB
import Derived.Test.YtdedolkgcdlmeaaGreatDoorGrowVM
import Derived.Test.YtdedolkgcdlmeaaGreatDoorFormB
import Derived.Lib.AppendZeros
namespace Go.Proofs.YtdedolkgcdlmeaaGreatDoor
open Go.RowKit Limbs

set_option maxRecDepth 100000 in
set_option maxHeartbeats 1600000 in
theorem grow_nil (w : World) (m nv : Nat) (hm : m ≤ 1000) :
    Calls Tryz.prog 133 #[.slice none 0 0, .int .i64 (m : Int)] w fun e w' => ∃ v, e = .returned v ∧ GrowV w' w.heap.size v [] nv ∧ Below w.heap.size w w' := by
  obtain ⟨j0, hj, hy0, hy1, hy2⟩ := info_parts Tryz.infoVec
  by_cases h0 : m = 0
  · subst h0
    clear hj hy0 hy1 hy2
    go_enter Tryz.func133, Tryz.ntmps133
    go_wp2
    go_ret
    exact ⟨_, rfl, GrowV.nil _ _ _, Below.refl _ _⟩
  · have HR := hide (fun ty => Lib.run_append_nil_zeros (P := Tryz.prog) w 23 3 ty 72 j0 (.slice none 0 0) .i64 .i64 (by kernel_rfl) (by kernel_rfl) hj hy0 m (by omega) (by omega) (by omega) (by rw [hy2]; omega))
    have hge := grownCap_ge w m 0 72
    have hle := grownCap_le_maxLen w m 0 72 (by unfold maxLen; omega)
    clear hj hy0 hy1 hy2
    have HG : Hid (GrowV (w.drew.alloc (.cells (Builtin.zeroCells (Value.cells (.slice none 0 0)) m ++ Builtin.zeroCells (Value.cells (.slice none 0 0)) (grownCap w m 0 72 - m)) 72)) w.heap.size (.slice (some ⟨w.heap.size, 0, none⟩) 0 (grownCap w m 0 72)) [] nv) := by
      refine ⟨⟨rfl, .inr ⟨w.heap.size, _, _, rfl, Nat.le_refl _, heap_alloc_new w.drew _, Nat.zero_le _, hle, ?_, by simp⟩⟩, fun g hg => ?_, fun _ h => by cases h⟩
      · rw [Array.size_append, size_zeroCells, size_zeroCells]
        show m * 1 + _ * 1 = _ * 1
        omega
      · simp only [Value.ownBlock, Option.some.injEq] at hg
        subst hg
        refine ⟨_, _, _, heap_alloc_new w.drew _, fun u hu => ?_⟩
        rw [Array.toList_append, List.mem_append] at hu
        rcases hu with hu | hu <;> exact zero_sl _ u hu
    have HB := hide ((Below.refl w.heap.size w).drew.alloc (Nat.le_refl _) (.cells (Builtin.zeroCells (Value.cells (.slice none 0 0)) m ++ Builtin.zeroCells (Value.cells (.slice none 0 0)) (grownCap w m 0 72 - m)) 72))
    generalize w.drew.alloc (.cells (Builtin.zeroCells (Value.cells (.slice none 0 0)) m ++ Builtin.zeroCells (Value.cells (.slice none 0 0)) (grownCap w m 0 72 - m)) 72) = W1 at *
    generalize grownCap w m 0 72 = cp at *
    unfold maxLen at hle
    go_enter Tryz.func133, Tryz.ntmps133
    go_wp2_with (at_builtin; refine Lib.wpList_append_run _ rfl _ _ _ _ rfl _ _ rfl rfl _ _ (HR.out _) ?_)
    go_wp2
    go_ret
    exact ⟨_, rfl, HG.out, HB.out⟩

end Go.Proofs.YtdedolkgcdlmeaaGreatDoor
