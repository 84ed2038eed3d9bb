/- The other disk: noughts. -/
import Derived.Test.YtjgodhfnnifchaaDkY
import Derived.Laws.MakeOwn
namespace Go.Proofs.Ytjgodhfnnifchaa
open Go.RowKit

theorem Try.infoU8 : (Try.prog.info? 5).map (fun i => (i.zero, i.size, i.bytes)) = some (some (.int .u8 0), 1, 1) := by kernel_rfl

theorem run_mk8 (m : Nat) (hm : m ≤ 3000000) (W : World) : (Instr.makeSlice 86 (.int .i64 (m : Int)) (.int .i64 (m : Int))).run Try.prog W = .ok (.slice (some ⟨W.heap.size, 0, none⟩) m m) (W.alloc (.cells (madeCells #[.int .u8 0] m) 5)) := by
  obtain ⟨i0, hi, hz0, hz1, hz2⟩ := info_parts Try.infoU8
  have h := run_make (P := Try.prog) W 86 5 i0 (.int .u8 0) Try.underlying86 hi hz0 .i64 .i64 m m (by omega) (by omega) (by rw [hz2]; omega) (by omega)
  rw [hz1, Int.toNat_natCast, Nat.mul_one] at h
  exact h

theorem conv_noughts (w : World) (m : Nat) : (convert 86 9 (.slice (some ⟨w.heap.size, 0, none⟩) m m)).run Try.prog (w.alloc (.cells (madeCells #[.int .u8 0] m) 5)) = .ok (strC (noughtB m)) (w.alloc (.cells (madeCells #[.int .u8 0] m) 5)) := by
  have h := run_convert_bytes_back (P := Try.prog) (w.alloc (.cells (madeCells #[.int .u8 0] m) 5)) 86 9 5 ⟨w.heap.size, 0, none⟩ m (noughtB m) Try.underlying86 Try.underlying5 Try.underlying9 (fun j hj => by
    have hj' : j < m := by simpa [noughtB] using hj
    rw [add_addr, Nat.zero_add, World.cell?_alloc_new]
    simp [madeCells, hj', Nat.mod_one, noughtB])
  rw [show (noughtB m).length = m by simp [noughtB]] at h
  exact h

set_option maxRecDepth 100000 in
theorem noughts_ok (w : World) (m : Nat) (hm : m ≤ 64) :
    Calls Try.prog 33 #[.int .i64 (m : Int)] w fun e w' => e = .returned (strC (noughtB m)) ∧ Below w.heap.size w w' := by
  have h1 := run_mk8 m (by omega)
  have h2 := conv_noughts
  go_enter Try.func33, Try.ntmps33
  go_wp2
  go_ret
  exact ⟨rfl, (Below.refl _ _).alloc (Nat.le_refl _) _⟩

end Go.Proofs.Ytjgodhfnnifchaa
