/- The reference's reading of what is no number's text. -/
import Derived.Test.YtkfgfodghnafgaaDoorReadA
namespace Go.Proofs.YtkfgfodghnafgaaDoor
open Go.RowKit Limbs Digs

set_option maxRecDepth 100000 in
set_option maxHeartbeats 3200000 in
theorem read_long (w : World) (s : ByteArray) (h : 400 < s.size) (hs : s.size ≤ 9223372036854775807) :
    Calls Tryd.prog 40 #[.string s] w fun e w' => ErrR w 2 e w' := by
  have HF : Hid (ErrR w 2 (.returned (.tuple #[.agg #[.int .i64 0, .slice none 0 0], .int .i64 2])) (w.alloc (.cells #[.int .i64 0, .slice none 0 0] 42))) := ⟨rfl, (Below.refl _ _).alloc (Nat.le_refl _) _⟩
  have hd : decide ((400 : Int) < (s.size : Int)) = true := decide_eq_true (by omega)
  go_enter Tryd.func40, Tryd.ntmps40
  go_wp2
  exact bodyPost_ret (v := .tuple #[.agg #[.int .i64 0, .slice none 0 0], .int .i64 2]) (by simp [results, Tryd.results40, go_sem]) rfl HF.out

set_option maxRecDepth 100000 in
set_option maxHeartbeats 3200000 in
theorem read_empty (w : World) (t : ByteArray) (h0 : t.size = 0) :
    Calls Tryd.prog 40 #[.string t] w fun e w' => ErrR w 5 e w' := by
  have HF : Hid (ErrR w 5 (.returned (.tuple #[.agg #[.int .i64 0, .slice none 0 0], .int .i64 5])) (w.alloc (.cells #[.int .i64 0, .slice none 0 0] 42))) := ⟨rfl, (Below.refl _ _).alloc (Nat.le_refl _) _⟩
  obtain rfl := size_zero h0
  go_enter Tryd.func40, Tryd.ntmps40
  go_wp2
  exact bodyPost_ret (v := .tuple #[.agg #[.int .i64 0, .slice none 0 0], .int .i64 5]) (by simp [results, Tryd.results40, go_sem]) rfl HF.out

set_option maxRecDepth 100000 in
set_option maxHeartbeats 3200000 in
theorem read_nought (w : World) (t : ByteArray) (hs : t.size ≤ 400) (h1 : 1 < t.size) (h48 : byt t 0 = 48) :
    Calls Tryd.prog 40 #[.string t] w fun e w' => ErrR w 5 e w' := by
  have HF : Hid (ErrR w 5 (.returned (.tuple #[.agg #[.int .i64 0, .slice none 0 0], .int .i64 5])) (w.alloc (.cells #[.int .i64 0, .slice none 0 0] 42))) := ⟨rfl, (Below.refl _ _).alloc (Nat.le_refl _) _⟩
  have hq0 : decide ((400 : Int) < (t.size : Int)) = false := decide_eq_false (by omega)
  have h00 : 0 < t.size := by omega
  have q1 : decide ((1 : Int) < (t.size : Int)) = true := decide_eq_true (by omega)
  have q2 : (((t[0]'h00).toNat : Int) == 45) = false := by rw [byt_eq h00, h48]; rfl
  have q3 : ((t.size : Int) == 0) = false := by rw [beq_eq_false_iff_ne]; omega
  have q4 : (((t[0]'h00).toNat : Int) == 48) = true := by rw [byt_eq h00]; simpa using h48
  go_enter Tryd.func40, Tryd.ntmps40
  go_wp2
  exact bodyPost_ret (v := .tuple #[.agg #[.int .i64 0, .slice none 0 0], .int .i64 5]) (by simp [results, Tryd.results40, go_sem]) rfl HF.out

set_option maxRecDepth 100000 in
set_option maxHeartbeats 3200000 in
theorem read_negnought (w : World) (s t : ByteArray) (hs : s.size ≤ 400) (h1 : 1 < s.size) (h45 : byt s 0 = 45) (ht : s.extract 1 s.size = t) (hts : t.size + 1 = s.size) (h48 : byt t 0 = 48) (ht1 : 1 < t.size) :
    Calls Tryd.prog 40 #[.string s] w fun e w' => ErrR w 5 e w' := by
  have HF : Hid (ErrR w 5 (.returned (.tuple #[.agg #[.int .i64 0, .slice none 0 0], .int .i64 5])) (w.alloc (.cells #[.int .i64 0, .slice none 0 0] 42))) := ⟨rfl, (Below.refl _ _).alloc (Nat.le_refl _) _⟩
  have hq0 : decide ((400 : Int) < (s.size : Int)) = false := decide_eq_false (by omega)
  have h00 : 0 < s.size := by omega
  have q1 : decide ((1 : Int) < (s.size : Int)) = true := decide_eq_true (by omega)
  have q2 : (((s[0]'h00).toNat : Int) == 45) = true := by rw [byt_eq h00]; simpa using h45
  have h01 : 0 < t.size := by omega
  have q3 : ((t.size : Int) == 0) = false := by rw [beq_eq_false_iff_ne]; omega
  have q4 : (((t[0]'h01).toNat : Int) == 48) = true := by rw [byt_eq h01]; simpa using h48
  have q6 : decide ((1 : Int) < (t.size : Int)) = true := decide_eq_true (by omega)
  go_enter Tryd.func40, Tryd.ntmps40
  go_wp2
  exact bodyPost_ret (v := .tuple #[.agg #[.int .i64 0, .slice none 0 0], .int .i64 5]) (by simp [results, Tryd.results40, go_sem]) rfl HF.out

set_option maxRecDepth 100000 in
set_option maxHeartbeats 3200000 in
theorem read_negzero (w : World) (s t : ByteArray) (_hs : s.size ≤ 400) (_h1 : 1 < s.size) (h45 : byt s 0 = 45) (ht : s.extract 1 s.size = t) (hts : t.size + 1 = s.size) (h48 : byt t 0 = 48) (ht1 : t.size = 1) (hz : t.toList = [48]) :
    Calls Tryd.prog 40 #[.string s] w fun e w' => ErrR w 5 e w' := by
  have HF : Hid (ErrR w 5 (.returned (.tuple #[.agg #[.int .i64 0, .slice none 0 0], .int .i64 5])) (w.alloc (.cells #[.int .i64 0, .slice none 0 0] 42))) := ⟨rfl, (Below.refl _ _).alloc (Nat.le_refl _) _⟩
  have hq0 : decide ((400 : Int) < (s.size : Int)) = false := decide_eq_false (by omega)
  have h00 : 0 < s.size := by omega
  have q1 : decide ((1 : Int) < (s.size : Int)) = true := decide_eq_true (by omega)
  have q2 : (((s[0]'h00).toNat : Int) == 45) = true := by rw [byt_eq h00]; simpa using h45
  have h01 : 0 < t.size := by omega
  have q3 : ((t.size : Int) == 0) = false := by rw [beq_eq_false_iff_ne]; omega
  have q4 : (((t[0]'h01).toNat : Int) == 48) = true := by rw [byt_eq h01]; simpa using h48
  have q6 : decide ((1 : Int) < (t.size : Int)) = false := decide_eq_false (by omega)
  have q5 : (t.toList == [48]) = true := by rw [beq_iff_eq]; exact hz
  go_enter Tryd.func40, Tryd.ntmps40
  go_wp2
  exact bodyPost_ret (v := .tuple #[.agg #[.int .i64 0, .slice none 0 0], .int .i64 5]) (by simp [results, Tryd.results40, go_sem]) rfl HF.out

end Go.Proofs.YtkfgfodghnafgaaDoor
