/- DiskSays: an act that was copied. -/
import Derived.Test.YtjgodhfnnifchaaDlI
namespace Go.Proofs.Ytjgodhfnnifchaa
open Go.RowKit

def actZ : Array Value := #[.string ⟨#[]⟩, .int .i64 0, .string ⟨#[]⟩, .int .u64 0, .int .i64 0, .string ⟨#[]⟩, .int .i64 0, .slice none 0 0, .slice none 0 0]

theorem run_zero_act (w : World) : (Instr.alloc 41 true (.tuple #[])).run Try.prog w = .ok (.pointer (some ⟨w.heap.size, 0, none⟩)) (w.alloc (.cells actZ 41)) := by kernel_rfl

theorem Try.sizeAct : (Try.prog.info? 41).map (·.size) = some 9 := by kernel_rfl

theorem ActC.ok.size {p : ActC} (h : p.ok) : p.cells.length = 9 := by simp [ActC.cells, h.len]

theorem ActC.ok.all {p : ActC} (h : p.ok) : p.cells.toArray.all (·.oneCell') = true := by
  rw [List.all_toArray, List.all_eq_true]
  intro v hv
  simp only [ActC.cells, List.mem_cons] at hv
  rcases hv with rfl | rfl | rfl | rfl | hv
  · rfl
  · rfl
  · rfl
  · rfl
  · exact h.one v hv

/-- An act that was copied. -/
def ActB (W : World) (b : Nat) (p : ActC) : Prop := W.heap[b]? = some (.cells p.cells.toArray 41 (0, 0))

theorem ActB.cells {W : World} {b : Nat} {p : ActC} (h : ActB W b p) : W.cell? ⟨b, 0, none⟩ = some (.string p.kind) ∧ W.cell? ⟨b, 1, none⟩ = some (.int .i64 p.a) ∧ W.cell? ⟨b, 2, none⟩ = some (.string p.s) ∧ W.cell? ⟨b, 3, none⟩ = some (.int .u64 p.k) := by
  refine ⟨?_, ?_, ?_, ?_⟩
  · rw [cell_of_row W b 0 _ _ _ h]; rfl
  · rw [cell_of_row W b 1 _ _ _ h]; rfl
  · rw [cell_of_row W b 2 _ _ _ h]; rfl
  · rw [cell_of_row W b 3 _ _ _ h]; rfl

theorem ActB.later {W W' : World} {b : Nat} {p : ActC} (h : ActB W b p) (hb : Below W.heap.size W W') : ActB W' b p := (hb.block b (heap_lt h)).trans h

theorem act_types : ¬ diskT 41 ∧ ¬ refT 41 := by unfold diskT refT; decide

theorem ActB.kept {W W' : World} {b base : Nat} {p : ActC} (h : ActB W b p) (hk : Kept base W W') : ActB W' b p :=
  (hk.block b (heap_lt h) (.inr fun cs t fz hx => by
    rw [show W.heap[b]? = _ from h] at hx
    simp only [Option.some.injEq, Obj.cells.injEq] at hx
    rw [← hx.2.1]; exact act_types.1)).trans h

theorem ActB.keptR {W W' : World} {b base : Nat} {p : ActC} (h : ActB W b p) (hk : KeptR base W W') : ActB W' b p :=
  (hk.block b (heap_lt h) (.inr fun cs t fz hx => by
    rw [show W.heap[b]? = _ from h] at hx
    simp only [Option.some.injEq, Obj.cells.injEq] at hx
    rw [← hx.2.1]; exact act_types.2)).trans h

end Go.Proofs.Ytjgodhfnnifchaa
