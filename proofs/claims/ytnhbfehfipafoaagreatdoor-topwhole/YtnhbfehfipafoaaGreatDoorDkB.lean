/- Four bytes of a number, and a number of four bytes. -/
import Derived.Test.YtnhbfehfipafoaaGreatDoorBpD
import Derived.Deep.Cut
import Derived.Deep.CutRange
import Derived.Test.YtnhbfehfipafoaaGreatDoorRows
import Derived.Test.YtnhbfehfipafoaaGreatDoorBpZ
import Derived.Test.YtnhbfehfipafoaaGreatDoorUpP
import Derived.WalkKit
import Derived.WalkSpells
import Derived.WalkLawsBesides
import Derived.Laws.AppendOwn
import Derived.OwnWalk

namespace Go.Proofs.YtnhbfehfipafoaaGreatDoor
open Go.RowKit

def fourB (n : Int) : List UInt8 := [lowB n, lowB (n / 256), lowB (n / 65536), lowB (n / 16777216)]

theorem fourB_len (n : Int) : (fourB n).length = 4 := rfl

def fourC (n : Int) (k : Nat) : List Value := [if 0 < k then .int .u8 (n % 256) else .int .u8 0, if 1 < k then .int .u8 (n / 256 % 256) else .int .u8 0, if 2 < k then .int .u8 (n / 65536 % 256) else .int .u8 0, if 3 < k then .int .u8 (n / 16777216 % 256) else .int .u8 0]

def FourS (w W : World) (n : Int) (k : Nat) : Prop := W.heap[w.heap.size]? = some (.cells (fourC n k).toArray 185 (0, 0)) ∧ Below w.heap.size w W

theorem FourS.set {w W : World} {n : Int} {k : Nat} (h : FourS w W n k) (v : Value) (hv : (fourC n k).set k v = fourC n (k + 1)) : FourS w (W.setCell ⟨w.heap.size, k, none⟩ v) n (k + 1) := by
 obtain ⟨h1, h2⟩ := h
 refine ⟨?_, h2.setCell (Nat.le_refl _) _⟩
 rw [heap_setCell_same W _ k _ _ v h1, List.setIfInBounds_toArray, hv]

theorem FourS.cell {w W : World} {n : Int} {k : Nat} (h : FourS w W n k) (i : Nat) : W.cell? ⟨w.heap.size, i, none⟩ = (fourC n k)[i]? ∧ W.frozen? ⟨w.heap.size, i, none⟩ = false := by
 refine ⟨?_, by simp [World.frozen?, h.1]⟩
 rw [cell_of_row W _ i _ _ _ h.1]
 simp

set_option linter.unusedSimpArgs false in
set_option maxRecDepth 100000 in
set_option maxHeartbeats 1600000 in
theorem four_any (w : World) (n : Int) (h0 : 0 ≤ n) (h1 : n < 4294967296) :
  Calls Tryz.prog 106 #[.int .u32 n] w fun e w' => e = .returned (.string ⟨(fourB n).toArray⟩) ∧ Below w.heap.size w w' := by
 have HF : Hid (FourS w (w.alloc (.cells #[.int .u8 0, .int .u8 0, .int .u8 0, .int .u8 0] 185)) n 0) := ⟨heap_alloc_new w _, alloc_below w _⟩
 go_enter Tryz.func106, Tryz.ntmps106
 go_wp2_with fail
 go_loopw [5] (fun i wr => ∃ k : Nat, k ≤ 4 ∧ i = .int .i64 k ∧ Hid (FourS w wr n k)) (fun i _ => 4 - (intOf i).toNat)
 case atStart => exact ⟨0, by omega, rfl, HF⟩
 case round =>
  clear HF
  obtain ⟨k, hk, rfl, HF⟩ := hrel
  by_cases hkl : k < 4
  ·obtain ⟨c0, c1⟩ := HF.out.cell k
   have HN := hide h0; have HM := hide h1
   clear h0 h1
   rcases (by omega : k = 0 ∨ k = 1 ∨ k = 2 ∨ k = 3) with rfl | rfl | rfl | rfl
   ·have HS := hide (HF.out.set (.int .u8 (n % 256)) rfl)
    clear hk hkl
    go_wp2
    go_roundw
    case rel => exact ⟨1, by omega, by go_num, HS⟩
    case measure => simp [intOf]
   ·have HS := hide (HF.out.set (.int .u8 (n / 256 % 256)) rfl)
    clear hk hkl
    go_wp2
    go_roundw
    case rel => exact ⟨2, by omega, by go_num, HS⟩
    case measure => simp [intOf]
   ·have HS := hide (HF.out.set (.int .u8 (n / 65536 % 256)) rfl)
    clear hk hkl
    go_wp2
    go_roundw
    case rel => exact ⟨3, by omega, by go_num, HS⟩
    case measure => simp [intOf]
   ·have HS := hide (HF.out.set (.int .u8 (n / 16777216 % 256)) rfl)
    clear hk hkl
    go_wp2
    go_roundw
    case rel => exact ⟨4, by omega, by go_num, HS⟩
    case measure => simp [intOf]
  ·obtain rfl : k = 4 := by omega
   have hcv := run_convert_bytes_back (P := Tryz.prog) wr 142 9 5 ⟨w.heap.size, 0, none⟩ 4 (fourB n) (by kernel_rfl) (by kernel_rfl) (by kernel_rfl) (fun j hj => by
    have h1 := (HF.out.cell j).1
    have h2 : (fourC n 4)[j]? = some (.int .u8 ((fourB n)[j].toNat : Int)) := by
     rw [fourB_len] at hj
     rcases (by omega : j = 0 ∨ j = 1 ∨ j = 2 ∨ j = 3) with rfl | rfl | rfl | rfl
     ·show some (Value.int .u8 (n % 256)) = some (.int .u8 ((lowB n).toNat : Int)); rw [lowB_nat]
     ·show some (Value.int .u8 (n / 256 % 256)) = some (.int .u8 ((lowB (n / 256)).toNat : Int)); rw [lowB_nat]
     ·show some (Value.int .u8 (n / 65536 % 256)) = some (.int .u8 ((lowB (n / 65536)).toNat : Int)); rw [lowB_nat]
     ·show some (Value.int .u8 (n / 16777216 % 256)) = some (.int .u8 ((lowB (n / 16777216)).toNat : Int)); rw [lowB_nat]
    have e : (⟨w.heap.size, 0, none⟩ : Addr).add j = ⟨w.heap.size, j, none⟩ := by unfold Addr.add; split <;> simp_all
    rw [e, h1, h2])
   have HB := hide HF.out.2
   rw [fourB_len] at hcv
   clear HF hk hkl h0 h1
   go_wp2
   go_ret
   exact ⟨rfl, HB.out⟩

def numB (s : ByteArray) : Int := byt s 0 + 256 * byt s 1 + 65536 * byt s 2 + 16777216 * byt s 3

theorem or32 (k x y : Nat) (hk : k = 0 ∨ k = 8 ∨ k = 16 ∨ k = 24) (hx : x < 2 ^ k) (hy : y ≤ 255) : bits BinOp.or IntKind.u32 (x : Int) ((y * 2 ^ k : Nat) : Int) = ((x + y * 2 ^ k : Nat) : Int) := by
 show IntKind.u32.wrap ((BitVec.ofInt 32 (x : Int) ||| BitVec.ofInt 32 ((y * 2 ^ k : Nat) : Int)).toNat : Nat) = _
 have hb : y * 2 ^ k + x < 2 ^ 32 := by
  rcases hk with rfl | rfl | rfl | rfl <;> simp at hx ⊢ <;> omega
 rw [BitVec.toNat_or, BitVec.ofInt_natCast, BitVec.ofInt_natCast, BitVec.toNat_ofNat, BitVec.toNat_ofNat, Nat.mod_eq_of_lt (by omega), Nat.mod_eq_of_lt (by omega)]
 have h4 : x ||| y * 2 ^ k = y * 2 ^ k + x := by
  rw [Nat.or_comm, Nat.mul_comm y]
  exact (Nat.two_pow_add_eq_or_of_lt hx y).symm
 rw [h4]
 show ((y * 2 ^ k + x : Nat) : Int) % 2 ^ 32 = _
 have : ((y * 2 ^ k + x : Nat) : Int) < 2 ^ 32 := by exact_mod_cast hb
 omega

def numTo (s : ByteArray) (k : Nat) : Int := (if 0 < k then byt s 0 else 0) + 256 * (if 1 < k then byt s 1 else 0) + 65536 * (if 2 < k then byt s 2 else 0) + 16777216 * (if 3 < k then byt s 3 else 0)

theorem byt_none (s : ByteArray) (i : Nat) (h : s.size ≤ i) : byt s i = 0 := by
 unfold byt
 rw [dif_neg (by omega)]

theorem numTo_nat (s : ByteArray) : ∃ b0 b1 b2 : Nat, byt s 0 = b0 ∧ byt s 1 = b1 ∧ byt s 2 = b2 ∧ b0 ≤ 255 ∧ b1 ≤ 255 ∧ b2 ≤ 255 := by
 obtain ⟨b0, h0, g0⟩ := byt_nat s 0
 obtain ⟨b1, h1, g1⟩ := byt_nat s 1
 obtain ⟨b2, h2, g2⟩ := byt_nat s 2
 exact ⟨b0, b1, b2, h0, h1, h2, g0, g1, g2⟩

theorem num_or0 (s : ByteArray) (b : Nat) (hb : byt s 0 = b) (h : b ≤ 255) : bits BinOp.or IntKind.u32 (numTo s 0) (b : Int) = numTo s 1 := by
 have e0 : numTo s 0 = ((0 : Nat) : Int) := by unfold numTo; simp
 have e1 : numTo s 1 = (b : Int) := by unfold numTo; rw [hb]; simp
 have := or32 0 0 b (.inl rfl) (by decide) h
 rw [Nat.pow_zero, Nat.mul_one, Nat.zero_add] at this
 rw [e0, e1, this]

theorem num_or1 (s : ByteArray) (b : Nat) (hb : byt s 1 = b) (h : b ≤ 255) : bits BinOp.or IntKind.u32 (numTo s 1) ((b : Int) * 256) = numTo s 2 := by
 obtain ⟨b0, b1, b2, h0, -, -, g0, -, -⟩ := numTo_nat s
 have e0 : numTo s 1 = (b0 : Int) := by unfold numTo; rw [h0]; simp
 have e1 : numTo s 2 = ((b0 + b * 2 ^ 8 : Nat) : Int) := by unfold numTo; rw [h0, hb]; simp; omega
 have e2 : (b : Int) * 256 = ((b * 2 ^ 8 : Nat) : Int) := by omega
 rw [e0, e1, e2, or32 8 b0 b (.inr (.inl rfl)) (by omega) h]

theorem num_or2 (s : ByteArray) (b : Nat) (hb : byt s 2 = b) (h : b ≤ 255) : bits BinOp.or IntKind.u32 (numTo s 2) ((b : Int) * 65536) = numTo s 3 := by
 obtain ⟨b0, b1, b2, h0, h1, -, g0, g1, -⟩ := numTo_nat s
 have e0 : numTo s 2 = ((b0 + 256 * b1 : Nat) : Int) := by unfold numTo; rw [h0, h1]; simp
 have e1 : numTo s 3 = ((b0 + 256 * b1 + b * 2 ^ 16 : Nat) : Int) := by unfold numTo; rw [h0, h1, hb]; simp; omega
 have e2 : (b : Int) * 65536 = ((b * 2 ^ 16 : Nat) : Int) := by omega
 rw [e0, e1, e2, or32 16 (b0 + 256 * b1) b (.inr (.inr (.inl rfl))) (by omega) h]

theorem num_or3 (s : ByteArray) (b : Nat) (hb : byt s 3 = b) (h : b ≤ 255) : bits BinOp.or IntKind.u32 (numTo s 3) ((b : Int) * 16777216) = numTo s 4 := by
 obtain ⟨b0, b1, b2, h0, h1, h2, g0, g1, g2⟩ := numTo_nat s
 have e0 : numTo s 3 = ((b0 + 256 * b1 + 65536 * b2 : Nat) : Int) := by unfold numTo; rw [h0, h1, h2]; simp
 have e1 : numTo s 4 = ((b0 + 256 * b1 + 65536 * b2 + b * 2 ^ 24 : Nat) : Int) := by unfold numTo; rw [h0, h1, h2, hb]; simp; omega
 have e2 : (b : Int) * 16777216 = ((b * 2 ^ 24 : Nat) : Int) := by omega
 rw [e0, e1, e2, or32 24 (b0 + 256 * b1 + 65536 * b2) b (.inr (.inr (.inr rfl))) (by omega) h]

theorem numTo_all (s : ByteArray) (m : Nat) (hm : m = min s.size 4) : numTo s m = numB s := by
 have h := byt_none s
 unfold numTo numB
 have g : ∀ i, i < 4 → (if i < m then byt s i else 0) = byt s i := fun i hi => by
  split
  ·rfl
  ·exact (h i (by omega)).symm
 rw [g 0 (by decide), g 1 (by decide), g 2 (by decide), g 3 (by decide)]

set_option linter.unusedSimpArgs false in
set_option maxRecDepth 100000 in
set_option maxHeartbeats 1600000 in
theorem number_any (w : World) (s : ByteArray) (hs : s.size ≤ 1000000) :
  Calls Tryz.prog 82 #[.string s] w fun e w' => e = .returned (.int .u32 (numB s)) ∧ w' = w := by
 obtain ⟨m, hm⟩ : ∃ m : Nat, m = min s.size 4 := ⟨_, rfl⟩
 have hmn : min (s.size : Int) 4 = (m : Int) := by omega
 go_enter Tryz.func82, Tryz.ntmps82
 go_upto_region 2 with fail
 go_cut [7, 8] from 4 (fun v i wx => v = .int .i64 m ∧ i = .int .i64 0 ∧ wx = w)
 case first =>
  by_cases h4 : s.size ≤ 4
  ·have e : m = s.size := by omega
   have g : (s.size : Int) ≤ 4 := by omega
   subst e
   clear hm hmn
   go_wp2
   go_meet
   case rel => exact ⟨rfl, rfl, rfl⟩
  ·have e : m = 4 := by omega
   have g : ¬ (s.size : Int) ≤ 4 := by omega
   subst e
   clear hm hmn
   go_wp2
   go_meet
   case rel => exact ⟨rfl, rfl, rfl⟩
 case rest =>
  obtain ⟨rfl, rfl, rfl⟩ := hcut
  apply_assumption
  clear hmn
  go_wp2_with fail
  go_loopw [3, 8] (fun v i wr => ∃ k : Nat, k ≤ m ∧ i = .int .i64 k ∧ v = .int .u32 (numTo s k) ∧ wr = wc) (fun _ i _ => m - (intOf i).toNat)
  case atStart => exact ⟨0, by omega, rfl, rfl, rfl⟩
  case round =>
   obtain ⟨k, hk, rfl, rfl, rfl⟩ := hrel
   by_cases hkl : k < m
   ·have hks : k < s.size := by omega
    have hb := byt_eq hks
    obtain ⟨b, hbn, hb255⟩ := byt_nat s k
    rcases (by omega : k = 0 ∨ k = 1 ∨ k = 2 ∨ k = 3) with rfl | rfl | rfl | rfl
    ·go_wp2
     go_roundw
     case rel => exact ⟨1, by omega, rfl, by rw [← num_or0 s b hbn hb255], trivial⟩
     case measure => simp [intOf]; omega
    ·go_wp2
     go_roundw
     case rel => exact ⟨2, by omega, rfl, by rw [← num_or1 s b hbn hb255], trivial⟩
     case measure => simp [intOf]; omega
    ·go_wp2
     go_roundw
     case rel => exact ⟨3, by omega, rfl, by rw [← num_or2 s b hbn hb255], trivial⟩
     case measure => simp [intOf]; omega
    ·go_wp2
     go_roundw
     case rel => exact ⟨4, by omega, rfl, by rw [← num_or3 s b hbn hb255], trivial⟩
     case measure => simp [intOf]; omega
   ·obtain rfl : k = m := by omega
    go_wp2
    go_ret
    exact ⟨by rw [numTo_all s k hm]; rfl, rfl⟩

end Go.Proofs.YtnhbfehfipafoaaGreatDoor

/- An operation's bytes say it: without memory. -/
namespace Go.Proofs.YtnhbfehfipafoaaGreatDoor
open Go.RowKit

theorem shapeB_ok {o : OpV} (h : shapeB o = true) : (1 ≤ o.kind ∧ o.kind ≤ 4) ∧ (0 ≤ o.n ∧ o.n ≤ 4) ∧ o.name.size ≤ 8 ∧ o.v.length ≤ 4 := by
 have h2 := shapeB_few h
 unfold shapeB at h
 simp only [Bool.and_eq_true, decide_eq_true_eq] at h
 exact ⟨h.1.1.1, h.1.2, h2⟩

theorem opF_ok {o : OpV} (h : opF o = 0) : shapeB o = true ∧ bigB o = false := by
 unfold opF at h
 cases h1 : shapeB o with
 | false => rw [if_pos h1] at h; cases h
 | true =>
  rw [if_neg (by rw [h1]; decide)] at h
  cases h2 : bigB o with
  | false => exact ⟨rfl, rfl⟩
  | true => rw [if_pos h2] at h; cases h

theorem byt_list (l : List UInt8) (k : Nat) : byt ⟨l.toArray⟩ k = ((l.getD k 0).toNat : Int) := by
 unfold byt
 by_cases h : k < l.length
 ·rw [dif_pos (show k < (⟨l.toArray⟩ : ByteArray).size from h), List.getD_eq_getElem?_getD, List.getElem?_eq_getElem h]
  rfl
 ·rw [dif_neg (show ¬ k < (⟨l.toArray⟩ : ByteArray).size from h), List.getD_eq_getElem?_getD, List.getElem?_eq_none (by omega)]
  rfl

theorem two_len (v : List Int) : (v.flatMap twoB).length = 2 * v.length := by
 induction v with
 | nil => rfl
 | cons z t ih => rw [List.flatMap_cons, List.length_append, ih, List.length_cons]; show 2 + 2 * t.length = _; omega

theorem two_at (v : List Int) (k : Nat) (hk : k < v.length) : (v.flatMap twoB).getD (2 * k) 0 = lowB v[k] ∧ (v.flatMap twoB).getD (2 * k + 1) 0 = lowB (v[k] / 256) := by
 induction v generalizing k with
 | nil => cases hk
 | cons z t ih =>
  rw [List.flatMap_cons]
  show ([lowB z, lowB (z / 256)] ++ t.flatMap twoB).getD _ 0 = _ ∧ ([lowB z, lowB (z / 256)] ++ t.flatMap twoB).getD _ 0 = _
  match k with
  | 0 => exact ⟨rfl, rfl⟩
  | k + 1 =>
   have := ih k (by simpa using hk)
   simpa [Nat.mul_add] using this

theorem s16_two (z : Int) (h1 : -32768 ≤ z) (h2 : z ≤ 32767) : s16 (z % 256 + 256 * (z / 256 % 256)) = z := by
 unfold s16
 split <;> omega

theorem opB_len (o : OpV) : (opB o).length = o.name.size + 4 + 2 * o.v.length := by
 unfold opB headB
 rw [List.length_append, two_len]
 simp

theorem unB_opB {o : OpV} (h : opF o = 0) : unB ⟨(opB o).toArray⟩ = some o := by
 obtain ⟨hs, hb⟩ := opF_ok h
 obtain ⟨⟨k1, k4⟩, ⟨n0, n4⟩, h8, hl4⟩ := shapeB_ok hs
 have hlen := opB_len o
 have hsz : (⟨(opB o).toArray⟩ : ByteArray).size = o.name.size + 4 + 2 * o.v.length := hlen
 have hnl : o.name.data.toList.length = o.name.size := by simp
 obtain ⟨kd, nm, n, v⟩ := o
 dsimp only at *
 have g0 : byt ⟨(opB ⟨kd, nm, n, v⟩).toArray⟩ 0 = kd := by
  rw [byt_list]
  show ((lowB kd).toNat : Int) = kd
  rw [lowB_nat]; omega
 have g1 : byt ⟨(opB ⟨kd, nm, n, v⟩).toArray⟩ 1 = nm.size := by
  rw [byt_list]
  show ((lowB nm.size).toNat : Int) = _
  rw [lowB_nat]; omega
 have e : opB ⟨kd, nm, n, v⟩ = ([lowB kd, lowB nm.size] ++ nm.data.toList) ++ ([lowB n, lowB v.length] ++ v.flatMap twoB) := by
  unfold opB headB
  simp
 have hpre : ([lowB kd, lowB nm.size] ++ nm.data.toList).length = nm.size + 2 := by rw [List.length_append, hnl]; show 2 + _ = _; omega
 have g2 : byt ⟨(opB ⟨kd, nm, n, v⟩).toArray⟩ (nm.size + 2) = n := by
  rw [byt_list, e, List.getD_eq_getElem?_getD, List.getElem?_append_right (by omega), hpre, Nat.sub_self]
  show ((lowB n).toNat : Int) = n
  rw [lowB_nat]; omega
 have g3 : byt ⟨(opB ⟨kd, nm, n, v⟩).toArray⟩ (nm.size + 3) = v.length := by
  rw [byt_list, e, List.getD_eq_getElem?_getD, List.getElem?_append_right (by omega), hpre, show nm.size + 3 - (nm.size + 2) = 1 by omega]
  show ((lowB v.length).toNat : Int) = _
  rw [lowB_nat]; omega
 have g4 : (⟨(opB ⟨kd, nm, n, v⟩).toArray⟩ : ByteArray).extract (nm.size + 4) (⟨(opB ⟨kd, nm, n, v⟩).toArray⟩ : ByteArray).size = ⟨(v.flatMap twoB).toArray⟩ := by
  apply ByteArray.ext
  apply Array.toList_inj.1
  rw [ByteArray.data_extract, Array.toList_extract, hsz]
  show List.take _ (List.drop _ (opB _)) = v.flatMap twoB
  rw [e, ← List.append_assoc, List.drop_append_of_le_length (by rw [List.length_append, hpre]; show _ ≤ _ + 2; omega), List.drop_of_length_le (by rw [List.length_append, hpre]; show _ + 2 ≤ _; omega), List.nil_append, List.take_of_length_le (by rw [two_len]; omega)]
 have g5 : (⟨(opB ⟨kd, nm, n, v⟩).toArray⟩ : ByteArray).extract 2 (nm.size + 2) = nm := by
  apply ByteArray.ext
  apply Array.toList_inj.1
  rw [ByteArray.data_extract, Array.toList_extract]
  show List.take _ (List.drop _ (opB _)) = nm.data.toList
  rw [e, List.append_assoc]
  show List.take (nm.size + 2 - 2) (nm.data.toList ++ _) = _
  rw [List.take_append_of_le_length (by omega), List.take_of_length_le (by omega)]
 unfold unB
 rw [hsz, g1, Int.toNat_natCast, if_neg (by omega), if_neg (by omega), g3, Int.toNat_natCast, if_neg (by omega), g0, g2, g5, ← hsz, g4]
 congr 2
 apply List.ext_getElem (by simp)
 intro i hi1 hi2
 rw [List.getElem_map, List.getElem_range, byt_list, byt_list, (two_at v i hi2).1, (two_at v i hi2).2, lowB_nat, lowB_nat]
 have hm : ¬ (v[i] < -999 ∨ 999 < v[i]) := fun hh => by
  have : bigB ⟨kd, nm, n, v⟩ = true := List.any_eq_true.2 ⟨v[i], List.getElem_mem hi2, decide_eq_true hh⟩
  rw [this] at hb; cases hb
 exact s16_two _ (by omega) (by omega)

end Go.Proofs.YtnhbfehfipafoaaGreatDoor

/- pack.Unop: bytes as an operation. -/
namespace Go.Proofs.YtnhbfehfipafoaaGreatDoor
open Go.RowKit

def UnopPost (w : World) (s : ByteArray) (e : Ending) (w' : World) : Prop :=
 (((∀ o, opF o = 0 → opB o ≠ s.data.toList) ∧ e = .returned (.tuple #[.agg #[.int .i64 0, .string ⟨#[]⟩, .int .i64 0, .slice none 0 0], errV 5])) ∨
  ∃ (o : OpV) (vo : Option Addr) (vc : Nat), opF o = 0 ∧ opB o = s.data.toList ∧ e = .returned (.tuple #[.agg #[.int .i64 o.kind, .string o.name, .int .i64 o.n, .slice vo o.v.length vc], .nilIface]) ∧ ∃ base, w.heap.size ≤ base ∧ RowAt base w' vo o.v.length vc o.v) ∧ Below w.heap.size w w'

theorem back_data (s : ByteArray) : (⟨s.data.toList.toArray⟩ : ByteArray) = s := by
 apply ByteArray.ext
 simp

theorem unB_none {s : ByteArray} (h : unB s = none) : ∀ o, opF o = 0 → opB o ≠ s.data.toList := fun o h0 e => by
 have h1 := unB_opB h0
 rw [e, back_data, h] at h1
 cases h1

theorem unB_not {s : ByteArray} {o : OpV} (h : unB s = some o) (hno : opF o ≠ 0 ∨ opS o ≠ s) : ∀ o, opF o = 0 → opB o ≠ s.data.toList := fun o' h0 e => by
 have h1 := unB_opB h0
 rw [e, back_data, h] at h1
 obtain rfl := Option.some.inj h1
 rcases hno with h2 | h2
 ·exact h2 h0
 ·apply h2
  unfold opS
  rw [if_pos h0, e, back_data]

set_option linter.unusedSimpArgs false in
set_option maxRecDepth 100000 in
set_option maxHeartbeats 1600000 in
theorem unop_any (w : World) (s : ByteArray) (hs : s.size ≤ 1000000) : Calls Tryz.prog 129 #[.string s] w fun e w' => UnopPost w s e w' := by
 have HB := hide (alloc_below w (.cells #[.int .i64 0, .string ⟨#[]⟩, .int .i64 0, .slice none 0 0] 43))
 have X2 := hide (BoxQ.new w (.int .i64 0) (.string ⟨#[]⟩) (.int .i64 0) (.slice none 0 0) 43)
 go_enter Tryz.func129, Tryz.ntmps129
 go_wp2_with fail
 generalize w.alloc (.cells #[.int .i64 0, .string ⟨#[]⟩, .int .i64 0, .slice none 0 0] 43) = W0 at *
 refine (unpacked_any W0 s hs).mono ?_
 rintro e w1 ⟨h, hb1⟩
 have X2b := hide (X2.out.later hb1); have HBb := hide (HB.out.trans (hb1.mono HB.out.size))
 have hW0 : w.heap.size < W0.heap.size := X2.out.1.2.2.2.2
 clear hb1 X2 HB
 rcases h with ⟨hn, rfl⟩ | ⟨o, vo, vc, ho, rfl, base, hbase, hrow⟩
 ·have HN := hide (unB_none hn)
  have hbA := alloc_below w1 (.cells #[.int .i64 0, .string ⟨#[]⟩, .int .i64 0, .slice none 0 0] 43)
  have X2c := hide (X2b.out.later hbA); have HBc := hide (HBb.out.trans (hbA.mono HBb.out.size))
  clear hbA X2b HBb hn
  obtain ⟨⟨r0, r1, r2, r3, -⟩, hfz⟩ := X2c.out
  have z0 := hfz 0; have z1 := hfz 1; have z2 := hfz 2; have z3 := hfz 3
  clear hfz
  go_wp2
  exact bodyPost_ret (v := .tuple #[.agg #[.int .i64 0, .string ⟨#[]⟩, .int .i64 0, .slice none 0 0], .iface 80 (.int .i64 5)]) (by simp [results, Tryz.results129, go_sem, r0, r1, r2, r3]) rfl ⟨.inl ⟨HN.out, rfl⟩, by first | exact HBc.out | exact below_fill4 HBc.out (Nat.le_refl _) _ _ _ _⟩
 ·have HO := hide ho; have HROW := hide hrow; have HBA := hide hbase
  have hbA := alloc_below w1 (.cells #[.int .i64 o.kind, .string o.name, .int .i64 o.n, .slice vo o.v.length vc] 43)
  have X4 := hide (BoxQ.new w1 (.int .i64 o.kind) (.string o.name) (.int .i64 o.n) (.slice vo o.v.length vc) 43)
  have X2c := hide (X2b.out.later hbA); have HBc := hide (HBb.out.trans (hbA.mono HBb.out.size)); have HROWc := hide (HROW.out.later hbA)
  clear hbA X2b HBb HROW ho hrow hbase
  obtain ⟨⟨c0, c1, c2, c3, -⟩, -⟩ := X4.out
  go_wp2_with fail
  clear c0 c1 c2 c3
  generalize w1.alloc (.cells #[.int .i64 o.kind, .string o.name, .int .i64 o.n, .slice vo o.v.length vc] 43) = W2 at *
  generalize w1.heap.size = B4 at *
  refine (packOp_any W2 o vo vc HROWc.out.row).mono ?_
  rintro e w3 ⟨rfl, hb3⟩
  have X4d := hide (X4.out.later hb3); have X2d := hide (X2c.out.later hb3); have HBd := hide (HBc.out.trans (hb3.mono HBc.out.size)); have HROWd := hide (HROWc.out.later hb3)
  clear hb3 X4 X2c HBc HROWc
  obtain ⟨⟨r0, r1, r2, r3, -⟩, hfz⟩ := X2d.out
  have z0 := hfz 0; have z1 := hfz 1; have z2 := hfz 2; have z3 := hfz 3
  clear hfz
  obtain ⟨⟨c0, c1, c2, c3, -⟩, -⟩ := X4d.out
  by_cases hF : opF o = 0
  ·by_cases hS : opS o = s
   ·have HFIN : Hid (opB o = s.data.toList) := by
     have h := hS
     unfold opS at h
     rw [if_pos hF] at h
     show _ = _
     rw [← h]
    have HF := hide hF
    rw [hF, hS]
    have e0 : errV 0 = .nilIface := rfl
    rw [e0]
    have hRow : ∀ v0 v1 v2 v3, RowAt base ((((w3.setCell ⟨w.heap.size, 0, none⟩ v0).setCell ⟨w.heap.size, 1, none⟩ v1).setCell ⟨w.heap.size, 2, none⟩ v2).setCell ⟨w.heap.size, 3, none⟩ v3) vo o.v.length vc o.v := fun v0 v1 v2 v3 =>
     have hlt : w.heap.size < base := Nat.lt_of_lt_of_le hW0 HBA.out
     ((((HROWd.out.set (p := ⟨w.heap.size, 0, none⟩) hlt v0).set (p := ⟨w.heap.size, 1, none⟩) hlt v1).set (p := ⟨w.heap.size, 2, none⟩) hlt v2).set (p := ⟨w.heap.size, 3, none⟩) hlt v3)
    have HRR := hide hRow
    clear hF hS e0 hRow
    go_wp2
    exact bodyPost_ret (v := .tuple #[.agg #[.int .i64 o.kind, .string o.name, .int .i64 o.n, .slice vo o.v.length vc], .nilIface]) (by simp [results, Tryz.results129, go_sem, r0, r1, r2, r3]) rfl ⟨.inr ⟨o, vo, vc, HF.out, HFIN.out, rfl, base, by have := HBA.out; omega, HRR.out _ _ _ _⟩, below_fill4 HBd.out (Nat.le_refl _) _ _ _ _⟩
   ·have HN := hide (unB_not HO.out (.inr hS))
    have g1 : ((opS o).toList == s.toList) = false := by rw [toList_beq]; exact decide_eq_false hS
    have g2 : ((opS o).toList != s.toList) = true := by rw [bne, g1]; rfl
    have g3 : decide (opS o = s) = false := decide_eq_false hS
    rw [hF]
    have e0 : errV 0 = .nilIface := rfl
    rw [e0]
    clear hF e0
    go_wp2
    exact bodyPost_ret (v := .tuple #[.agg #[.int .i64 0, .string ⟨#[]⟩, .int .i64 0, .slice none 0 0], .iface 80 (.int .i64 5)]) (by simp [results, Tryz.results129, go_sem, r0, r1, r2, r3]) rfl ⟨.inl ⟨HN.out, rfl⟩, by first | exact HBd.out | exact below_fill4 HBd.out (Nat.le_refl _) _ _ _ _⟩
  ·have HN := hide (unB_not HO.out (.inl hF))
   have e0 : errV (opF o) = .iface 80 (.int .i64 ((opF o : Nat) : Int)) := if_neg hF
   rw [e0]
   clear hF e0
   go_wp2
   exact bodyPost_ret (v := .tuple #[.agg #[.int .i64 0, .string ⟨#[]⟩, .int .i64 0, .slice none 0 0], .iface 80 (.int .i64 5)]) (by simp [results, Tryz.results129, go_sem, r0, r1, r2, r3]) rfl ⟨.inl ⟨HN.out, rfl⟩, by first | exact HBd.out | exact below_fill4 HBd.out (Nat.le_refl _) _ _ _ _⟩

end Go.Proofs.YtnhbfehfipafoaaGreatDoor

/- A disk: what it is, and how it lies in memory. -/
namespace Go.Proofs.YtnhbfehfipafoaaGreatDoor
open Go.RowKit

def byteC (b : UInt8) : Value := .int .u8 (b.toNat : Int)

structure Sec where
 kept : List UInt8
 loose : List (Int × List UInt8)

structure Dsk where
 secs : List Sec
 number : Nat
 left : Int
 down : Bool

def wcells (p : Int × List UInt8) : List Value := .int .u64 p.1 :: p.2.map byteC
def scells (s : Sec) (v : Value) : List Value := s.kept.map byteC ++ [v]

def dcells : List Sec → List Value → List Value
 | s :: ss, v :: vs => scells s v ++ dcells ss vs
 | _, _ => []

def Sec.ok (s : Sec) : Prop := s.kept.length = 64 ∧ ∀ p ∈ s.loose, p.2.length = 64 ∧ 0 ≤ p.1 ∧ p.1 < 18446744073709551616

def diskT (t : TypeId) : Prop := t = 83 ∨ t = 87 ∨ t = 144

theorem ownsLater {W W' : World} {base : Nat} {e : TypeId} {size : Nat} {v : Value} {n : Nat} {xs : List Value} (h : W.ownsRow base e size v n xs) (hb : Below W.heap.size W W') : W'.ownsRow base e size v n xs := by
 refine ⟨h.1, ?_⟩
 rcases h.2 with hn | ⟨g, cap, cur, e, hbg, hh, rest⟩
 ·exact .inl hn
 ·exact .inr ⟨g, cap, cur, e, hbg, (hb.block _ (heap_lt hh)).trans hh, rest⟩

structure Own where
 h : Nat
 O : Nat → Prop

def Own.mine (base : Own) (b : Nat) : Prop := base.h ≤ b ∨ base.O b

@[reducible] def one (h : Nat) : Own := ⟨h, fun _ => False⟩

theorem one_le {K h : Nat} (hk : K ≤ h) : ∀ b, (one h).mine b → K ≤ b := fun _ hb => hb.elim (fun x => Nat.le_trans hk x) (fun x => x.elim)

theorem ownsZero {W : World} {base : Nat} {e : TypeId} {size : Nat} {v : Value} {n : Nat} {xs : List Value} (h : W.ownsRow base e size v n xs) : W.ownsRow 0 e size v n xs := by
 refine ⟨h.1, ?_⟩
 rcases h.2 with hn | ⟨g, cap, cur, e, -, rest⟩
 ·exact .inl hn
 ·exact .inr ⟨g, cap, cur, e, Nat.zero_le _, rest⟩

structure DiskM (W : World) (base : Own) (B : Nat) (D : Dsk) (sv : Value) (ls : List Value) : Prop where
 low : base.mine B
 head : W.heap[B]? = some (.cells #[sv, .int .i64 (D.number : Int), .int .i64 D.left, .bool D.down] 83 (0, 0))
 len : ls.length = D.secs.length
 own : W.ownsRow 0 87 65 sv D.secs.length (dcells D.secs ls)
 loose : ∀ (i : Nat) (s : Sec) (v : Value), D.secs[i]? = some s → ls[i]? = some v → W.ownsRow 0 144 65 v s.loose.length (s.loose.flatMap wcells)
 apart : ∀ (i j : Nat) (v v' : Value) (g : Nat), i ≠ j → ls[i]? = some v → ls[j]? = some v' → v.ownBlock = some g → v'.ownBlock ≠ some g
 ok : ∀ s ∈ D.secs, s.ok
 num : D.number < 64
 left : -9223372036854775808 ≤ D.left ∧ D.left ≤ 9223372036854775807
 mine : (∀ b, sv.ownBlock = some b → base.mine b) ∧ ∀ v, v ∈ ls → ∀ b, v.ownBlock = some b → base.mine b

def DiskO (W : World) (base : Own) (B : Nat) (D : Dsk) : Prop := ∃ sv ls, DiskM W base B D sv ls

structure Kept (base : Own) (W W' : World) : Prop where
 os : W'.os = W.os
 tape : W'.tape = W.tape
 output : W'.output = W.output
 size : W.heap.size ≤ W'.heap.size
 block : ∀ b, b < W.heap.size → (¬ base.mine b ∨ ∀ cs t fz, W.heap[b]? = some (.cells cs t fz) → ¬ diskT t) → W'.heap[b]? = W.heap[b]?

theorem Kept.refl (base : Own) (W : World) : Kept base W W := ⟨rfl, rfl, rfl, Nat.le_refl _, fun _ _ _ => rfl⟩

theorem Kept.trans {base : Own} {a b c : World} (h : Kept base a b) (k : Kept base b c) : Kept base a c :=
 ⟨k.os.trans h.os, k.tape.trans h.tape, k.output.trans h.output, Nat.le_trans h.size k.size, fun i hi ho => by
  have e := h.block i hi ho
  refine (k.block i (Nat.lt_of_lt_of_le hi h.size) ?_).trans e
  rcases ho with ho | ho
  ·exact .inl ho
  ·exact .inr fun cs t fz hx => ho cs t fz (by rw [← e]; exact hx)⟩

theorem Kept.below {base : Own} {K : Nat} {W W' : World} (h : Kept base W W') (hb : K ≤ W.heap.size) (hK : ∀ b, base.mine b → K ≤ b) : Below K W W' :=
 ⟨h.os, h.tape, h.output, h.size, fun b hlt => h.block b (by omega) (.inl fun hm => by have := hK b hm; omega)⟩

theorem Kept.of_below {base : Own} {W W' : World} (h : Below W.heap.size W W') : Kept base W W' :=
 ⟨h.os, h.tape, h.output, h.size, fun b hb _ => h.block b hb⟩

theorem DiskM.lt {W : World} {base : Own} {B : Nat} {D : Dsk} {sv : Value} {ls : List Value} (h : DiskM W base B D sv ls) : B < W.heap.size := heap_lt h.head

theorem DiskM.later {W W' : World} {base : Own} {B : Nat} {D : Dsk} {sv : Value} {ls : List Value} (h : DiskM W base B D sv ls) (hb : Below W.heap.size W W') : DiskM W' base B D sv ls where
 low := h.low
 head := (hb.block _ (heap_lt h.head)).trans h.head
 len := h.len
 own := ownsLater h.own hb
 loose := fun i s v hs hv => ownsLater (h.loose i s v hs hv) hb
 apart := h.apart
 ok := h.ok
 num := h.num
 left := h.left
 mine := h.mine

theorem DiskM.cells {W : World} {base : Own} {B : Nat} {D : Dsk} {sv : Value} {ls : List Value} (h : DiskM W base B D sv ls) :
  W.cell? ⟨B, 0, none⟩ = some sv ∧ W.cell? ⟨B, 1, none⟩ = some (.int .i64 (D.number : Int)) ∧ W.cell? ⟨B, 2, none⟩ = some (.int .i64 D.left) ∧ W.cell? ⟨B, 3, none⟩ = some (.bool D.down) ∧ ∀ k, W.frozen? ⟨B, k, none⟩ = false := by
 refine ⟨?_, ?_, ?_, ?_, fun k => by simp [World.frozen?, h.head]⟩
 ·rw [cell_of_row W B 0 _ _ _ h.head]; rfl
 ·rw [cell_of_row W B 1 _ _ _ h.head]; rfl
 ·rw [cell_of_row W B 2 _ _ _ h.head]; rfl
 ·rw [cell_of_row W B 3 _ _ _ h.head]; rfl

theorem DiskM.list {W : World} {base : Own} {B : Nat} {D : Dsk} {sv : Value} {ls : List Value} (h : DiskM W base B D sv ls) (h0 : 0 < D.secs.length) : ∃ g cap, sv = .slice (some ⟨g, 0, none⟩) D.secs.length cap ∧ base.mine g ∧ g < W.heap.size ∧ D.secs.length ≤ cap := by
 rcases h.own.2 with ⟨-, e⟩ | ⟨g, cap, cur, e, hb, hh, h1, -⟩
 ·omega
 ·exact ⟨g, cap, e, h.mine.1 g (by rw [e]; rfl), heap_lt hh, h1⟩

theorem DiskM.re {W : World} {base base' : Own} {B : Nat} {D : Dsk} {sv : Value} {ls : List Value} (h : DiskM W base B D sv ls) (hm : ∀ b, b < W.heap.size → base.mine b → base'.mine b) : DiskM W base' B D sv ls where
 low := hm _ (heap_lt h.head) h.low
 head := h.head
 len := h.len
 own := h.own
 loose := h.loose
 apart := h.apart
 ok := h.ok
 num := h.num
 left := h.left
 mine := by
  refine ⟨fun b hb => hm b ?_ (h.mine.1 b hb), fun v hv b hb => hm b ?_ (h.mine.2 v hv b hb)⟩
  ·rcases h.own.2 with ⟨e, -⟩ | ⟨g, cap, cur, e, -, hh, -⟩
   ·rw [e] at hb; cases hb
   ·rw [e] at hb
    obtain rfl : g = b := by simpa [Value.ownBlock] using hb
    exact heap_lt hh
  ·obtain ⟨i, hi⟩ := List.getElem?_of_mem hv
   have hlt : i < D.secs.length := by rw [← h.len]; exact (List.getElem?_eq_some_iff.1 hi).1
   rcases (h.loose i _ v (List.getElem?_eq_getElem hlt) hi).2 with ⟨e, -⟩ | ⟨g, cap, cur, e, -, hh, -⟩
   ·rw [e] at hb; cases hb
   ·rw [e] at hb
    obtain rfl : g = b := by simpa [Value.ownBlock] using hb
    exact heap_lt hh

end Go.Proofs.YtnhbfehfipafoaaGreatDoor

/- A disk: its small methods. -/
namespace Go.Proofs.YtnhbfehfipafoaaGreatDoor
open Go.RowKit

theorem Kept.set {base : Own} {b : Nat} {W : World} {cs : Array Value} {t : TypeId} (hb : base.mine b) (hh : W.heap[b]? = some (.cells cs t (0, 0))) (ht : diskT t) (k : Nat) (v : Value) : Kept base W (W.setCell ⟨b, k, none⟩ v) := by
 refine ⟨rfl, rfl, rfl, by simp, fun c _ ho => heap_setCell_other _ _ _ _ (fun e => ?_)⟩
 simp only at e
 subst e
 rcases ho with ho | ho
 ·exact ho hb
 ·exact ho _ _ _ hh ht

theorem ownsOther {W : World} {base : Nat} {e : TypeId} {size : Nat} {v : Value} {n : Nat} {xs : List Value} (h : W.ownsRow base e size v n xs) {b : Nat} {cs : Array Value} {t : TypeId} (hh : W.heap[b]? = some (.cells cs t (0, 0))) (ht : t ≠ e) (k : Nat) (u : Value) : (W.setCell ⟨b, k, none⟩ u).ownsRow base e size v n xs := by
 refine ⟨h.1, ?_⟩
 rcases h.2 with hn | ⟨g, cap, cur, ev, hbg, hg, rest⟩
 ·exact .inl hn
 ·refine .inr ⟨g, cap, cur, ev, hbg, (heap_setCell_other _ _ _ _ (fun e => ?_)).trans hg, rest⟩
  simp only at e
  subst e
  rw [hh] at hg
  simp only [Option.some.injEq, Obj.cells.injEq] at hg
  exact ht hg.2.1

theorem DiskM.field {W : World} {base : Own} {B : Nat} {D D' : Dsk} {sv : Value} {ls : List Value} (h : DiskM W base B D sv ls) (k : Nat) (v : Value) (hs : D'.secs = D.secs) (hn : D'.number < 64) (hl : -9223372036854775808 ≤ D'.left ∧ D'.left ≤ 9223372036854775807)
  (hc : (#[sv, .int .i64 (D.number : Int), .int .i64 D.left, .bool D.down] : Array Value).setIfInBounds k v = #[sv, .int .i64 (D'.number : Int), .int .i64 D'.left, .bool D'.down]) : DiskM (W.setCell ⟨B, k, none⟩ v) base B D' sv ls := by
 obtain ⟨secs, number, left, down⟩ := D'
 simp only at hs hn hl hc
 subst hs
 refine ⟨h.low, ?_, h.len, ownsOther h.own h.head (by decide) _ _, fun i s v hs hv => ownsOther (h.loose i s v hs hv) h.head (by decide) _ _, h.apart, h.ok, hn, hl, h.mine⟩
 rw [heap_setCell_same W B k _ _ v h.head, hc]

theorem DiskM.shape {W : World} {base : Own} {B : Nat} {D : Dsk} {sv : Value} {ls : List Value} (h : DiskM W base B D sv ls) : ∃ so cap, sv = .slice so D.secs.length cap := by
 rcases h.own.2 with ⟨rfl, e⟩ | ⟨g, cap, cur, rfl, -⟩
 ·exact ⟨none, 0, by rw [e]⟩
 ·exact ⟨_, _, rfl⟩

set_option maxRecDepth 100000 in
theorem sectors_any (w : World) (base : Own) (B : Nat) (D : Dsk) (h : DiskO w base B D) :
  Calls Tryz.prog 45 #[.pointer (some ⟨B, 0, none⟩)] w fun e w' => e = .returned (.int .i64 (D.secs.length : Int)) ∧ Below w.heap.size w w' := by
 obtain ⟨sv, ls, h⟩ := h
 obtain ⟨so, cap, rfl⟩ := h.shape
 obtain ⟨c0, -⟩ := h.cells
 clear h
 go_enter Tryz.func45, Tryz.ntmps45
 go_wp2
 go_ret
 exact ⟨rfl, Below.refl _ _⟩

set_option maxRecDepth 100000 in
theorem has_any (w : World) (base : Own) (B : Nat) (D : Dsk) (at' : Int) (h : DiskO w base B D) :
  Calls Tryz.prog 80 #[.pointer (some ⟨B, 0, none⟩), .int .i64 at'] w fun e w' => e = .returned (.bool (decide (0 ≤ at' ∧ at' < D.secs.length))) ∧ Below w.heap.size w w' := by
 obtain ⟨sv, ls, h⟩ := h
 obtain ⟨so, cap, rfl⟩ := h.shape
 obtain ⟨c0, -⟩ := h.cells
 clear h
 generalize D.secs.length = n at *
 by_cases h1 : 0 ≤ at'
 ·have g1 : decide (0 ≤ at') = true := decide_eq_true h1
  have e : decide (0 ≤ at' ∧ at' < n) = decide (at' < n) := by simp [h1]
  rw [e]
  clear e
  generalize hb : decide (at' < (n : Int)) = b
  go_enter Tryz.func80, Tryz.ntmps80
  go_wp2
  go_ret
  exact ⟨rfl, Below.refl _ _⟩
 ·have g1 : decide (0 ≤ at') = false := decide_eq_false h1
  have e : decide (0 ≤ at' ∧ at' < n) = false := by simp [h1]
  rw [e]
  clear e
  go_enter Tryz.func80, Tryz.ntmps80
  go_wp2
  go_ret
  exact ⟨rfl, Below.refl _ _⟩

def Dsk.stepped (D : Dsk) : Dsk := if D.left = 0 then { D with down := true } else if D.down = false ∧ 0 < D.left then { D with left := D.left - 1 } else D

def Dsk.steps (D : Dsk) : Bool := !D.down && !decide (D.left = 0)

@[reducible] def errno (z : Int) : Value := .iface 80 (.int .i64 z)

def stepErr (D : Dsk) : Value := if D.steps = true then .nilIface else errno 9

set_option maxRecDepth 100000 in
theorem step_any (w : World) (base : Own) (B : Nat) (D : Dsk) (h : DiskO w base B D) :
  Calls Tryz.prog 116 #[.pointer (some ⟨B, 0, none⟩)] w fun e w' => e = .returned (stepErr D) ∧ DiskO w' base B D.stepped ∧ Kept base w w' := by
 obtain ⟨sv, ls, h⟩ := h
 have H := hide h
 obtain ⟨-, -, c2, c3, hf⟩ := h.cells
 have f2 := hf 2
 have f3 := hf 3
 have HL := hide h.left
 clear h hf
 obtain ⟨secs, number, left, down⟩ := D
 simp only at *
 by_cases h0 : left = 0
 ·subst h0
  have HK := hide (Kept.set H.out.low H.out.head (.inl rfl) 3 (.bool true))
  have HD : Hid (DiskO (w.setCell ⟨B, 3, none⟩ (.bool true)) base B ⟨secs, number, 0, true⟩) := ⟨sv, ls, H.out.field 3 _ rfl H.out.num HL.out rfl⟩
  have e : stepErr ⟨secs, number, 0, down⟩ = errno 9 := by simp [stepErr, Dsk.steps]
  have e2 : Dsk.stepped ⟨secs, number, 0, down⟩ = ⟨secs, number, 0, true⟩ := by simp [Dsk.stepped]
  rw [e, e2]
  clear e e2
  have c3' : (w.setCell ⟨B, 3, none⟩ (.bool true)).cell? ⟨B, 3, none⟩ = some (.bool true) := World.cell?_setCell_same (h := c3) ..
  go_enter Tryz.func116, Tryz.ntmps116
  go_wp2
  go_ret
  exact ⟨rfl, HD.out, HK.out⟩
 ·have g0 : (left == 0) = false := beq_false_of_ne h0
  cases down with
  | true =>
   have e : stepErr ⟨secs, number, left, true⟩ = errno 9 := by simp [stepErr, Dsk.steps]
   have e2 : Dsk.stepped ⟨secs, number, left, true⟩ = ⟨secs, number, left, true⟩ := by simp [Dsk.stepped, h0]
   rw [e, e2]
   clear e e2
   go_enter Tryz.func116, Tryz.ntmps116
   go_wp2
   go_ret
   exact ⟨rfl, ⟨_, _, H.out⟩, Kept.refl _ _⟩
  | false =>
   have e : stepErr ⟨secs, number, left, false⟩ = .nilIface := by simp [stepErr, Dsk.steps, h0]
   rw [e]
   clear e
   by_cases h1 : 0 < left
   ·have g1 : decide (0 < left) = true := decide_eq_true h1
    have e2 : Dsk.stepped ⟨secs, number, left, false⟩ = ⟨secs, number, left - 1, false⟩ := by simp [Dsk.stepped, h0, h1]
    rw [e2]
    clear e2
    have HK := hide (Kept.set H.out.low H.out.head (.inl rfl) 2 (.int .i64 (left - 1)))
    have HD : Hid (DiskO (w.setCell ⟨B, 2, none⟩ (.int .i64 (left - 1))) base B ⟨secs, number, left - 1, false⟩) := ⟨sv, ls, H.out.field 2 _ rfl H.out.num (by have := HL.out; simp only; omega) rfl⟩
    have hb := HL.out
    go_enter Tryz.func116, Tryz.ntmps116
    go_wp2
    go_ret
    exact ⟨rfl, HD.out, HK.out⟩
   ·have g1 : decide (0 < left) = false := decide_eq_false h1
    have e2 : Dsk.stepped ⟨secs, number, left, false⟩ = ⟨secs, number, left, false⟩ := by simp [Dsk.stepped, h0, h1]
    rw [e2]
    clear e2
    go_enter Tryz.func116, Tryz.ntmps116
    go_wp2
    go_ret
    exact ⟨rfl, ⟨_, _, H.out⟩, Kept.refl _ _⟩

end Go.Proofs.YtnhbfehfipafoaaGreatDoor
