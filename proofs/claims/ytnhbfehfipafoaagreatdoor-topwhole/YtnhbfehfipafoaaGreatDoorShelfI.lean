/- A head: where its text begins; its bytes. -/
import Derived.Test.YtnhbfehfipafoaaGreatDoorDetRg
import Derived.Lib.Strings
import Derived.Lib.Slices
import Derived.Lib.Walk
import Derived.Shelf.LaysM
import Derived.Shelf.Strconv.Itoa3
import Derived.Test.YtnhbfehfipafoaaGreatDoorProg

namespace Go.Proofs.YtnhbfehfipafoaaGreatDoor
open Go.RowKit

def hdV (h : Hd) : Value := .agg #[.int .i64 (h.pl : Int), .int .u32 h.age, .int .u32 h.first, .int .u32 h.long]

def HdB (W : World) (B : Nat) (u0 u1 u2 u3 : Value) : Prop := W.heap[B]? = some (.cells #[u0, u1, u2, u3] 91 (0, 0))

theorem HdB.new (W : World) (u0 u1 u2 u3 : Value) : HdB (W.alloc (.cells #[u0, u1, u2, u3] 91)) W.heap.size u0 u1 u2 u3 := heap_alloc_new W _

theorem HdB.later {W W' : World} {B : Nat} {u0 u1 u2 u3 : Value} (h : HdB W B u0 u1 u2 u3) (hb : Below W.heap.size W W') : HdB W' B u0 u1 u2 u3 := (hb.block _ (heap_lt h)).trans h

theorem HdB.cells {W : World} {B : Nat} {u0 u1 u2 u3 : Value} (h : HdB W B u0 u1 u2 u3) :
  W.cell? ⟨B, 0, none⟩ = some u0 ∧ W.cell? ⟨B, 1, none⟩ = some u1 ∧ W.cell? ⟨B, 2, none⟩ = some u2 ∧ W.cell? ⟨B, 3, none⟩ = some u3 ∧ W.frozen? ⟨B, 0, none⟩ = false ∧ W.frozen? ⟨B, 1, none⟩ = false ∧ W.frozen? ⟨B, 2, none⟩ = false ∧ W.frozen? ⟨B, 3, none⟩ = false := by
 have hf : ∀ k, W.frozen? ⟨B, k, none⟩ = false := fun k => by simp [World.frozen?, show W.heap[B]? = _ from h]
 refine ⟨?_, ?_, ?_, ?_, hf 0, hf 1, hf 2, hf 3⟩
 ·rw [cell_of_row W B 0 _ _ _ h]; rfl
 ·rw [cell_of_row W B 1 _ _ _ h]; rfl
 ·rw [cell_of_row W B 2 _ _ _ h]; rfl
 ·rw [cell_of_row W B 3 _ _ _ h]; rfl

theorem HdB.wrote {W : World} {B : Nat} {u0 u1 u2 u3 : Value} (h : HdB W B u0 u1 u2 u3) (v0 v1 v2 v3 : Value) : HdB ((((W.setCell ⟨B, 0, none⟩ v0).setCell ⟨B, 1, none⟩ v1).setCell ⟨B, 2, none⟩ v2).setCell ⟨B, 3, none⟩ v3) B v0 v1 v2 v3 := by
 have h0 := heap_setCell_same W B 0 _ _ v0 h
 have h1 := heap_setCell_same _ B 1 _ _ v1 h0
 have h2 := heap_setCell_same _ B 2 _ _ v2 h1
 exact heap_setCell_same _ B 3 _ _ v3 h2

theorem HdB.set0 {W : World} {B : Nat} {u0 u1 u2 u3 : Value} (h : HdB W B u0 u1 u2 u3) (v : Value) : HdB (W.setCell ⟨B, 0, none⟩ v) B v u1 u2 u3 := heap_setCell_same W B 0 _ _ v h

theorem HdB.aside {W : World} {B : Nat} {u0 u1 u2 u3 : Value} (h : HdB W B u0 u1 u2 u3) {p : Addr} (hp : p.block ≠ B) (v : Value) : HdB (W.setCell p v) B u0 u1 u2 u3 := (heap_setCell_other _ _ _ _ (fun e => hp e.symm)).trans h

theorem below_four {base : Nat} {w W : World} (h : Below base w W) {B : Nat} (hB : base ≤ B) (v0 v1 v2 v3 : Value) : Below base w ((((W.setCell ⟨B, 0, none⟩ v0).setCell ⟨B, 1, none⟩ v1).setCell ⟨B, 2, none⟩ v2).setCell ⟨B, 3, none⟩ v3) :=
 (((h.setCell (p := ⟨B, 0, none⟩) hB v0).setCell (p := ⟨B, 1, none⟩) hB v1).setCell (p := ⟨B, 2, none⟩) hB v2).setCell (p := ⟨B, 3, none⟩) hB v3

def pkdD : Nat → List Nat
 | 1 => [0]
 | 2 => [1]
 | 3 => [2]
 | 5 => [4]
 | 6 => [5]
 | 7 => [3, 6]
 | 9 => [8]
 | 10 => [9]
 | 11 => [7, 10]
 | 12 => [11]
 | _ => []

set_option linter.unusedSimpArgs false in
set_option maxRecDepth 100000 in
set_option maxHeartbeats 1600000 in
theorem hfrom_any (w : World) (h : Hd) (hp : h.pl ≤ 1) :
  Calls Tryz.prog 83 #[hdV h] w fun e w' => e = .returned (.int .i64 ((2 + h.pl * 40 : Nat) : Int)) ∧ Below w.heap.size w w' := by
 obtain ⟨pl, age, first, long⟩ := h
 unfold hdV
 dsimp only at hp ⊢
 have X := hide (FourV.new w (.int .i64 (pl : Int)) (.int .u32 age) (.int .u32 first) (.int .u32 long) 91)
 have HB := hide (alloc_below w (.cells #[.int .i64 (pl : Int), .int .u32 age, .int .u32 first, .int .u32 long] 91))
 rcases (show pl = 0 ∨ pl = 1 by omega) with rfl | rfl
 ·obtain ⟨x0, -⟩ := X.out
  go_enter Tryz.func83, Tryz.ntmps83
  go_wp2
  go_ret
  exact ⟨rfl, HB.out⟩
 ·obtain ⟨x0, -⟩ := X.out
  go_enter Tryz.func83, Tryz.ntmps83
  go_wp2
  go_ret
  exact ⟨rfl, HB.out⟩

set_option linter.unusedSimpArgs false in
set_option maxRecDepth 100000 in
set_option maxHeartbeats 1600000 in
theorem hpacked_any (w : World) (h : Hd) (ok : h.ok) :
  Calls Tryz.prog 95 #[hdV h] w fun e w' => e = .returned (.string (secB (hdB h))) ∧ Below w.heap.size w w' := by
 unfold hdV
 have X := hide (FourV.new w (.int .i64 (h.pl : Int)) (.int .u32 h.age) (.int .u32 h.first) (.int .u32 h.long) 91)
 have HB := hide (alloc_below w (.cells #[.int .i64 (h.pl : Int), .int .u32 h.age, .int .u32 h.first, .int .u32 h.long] 91))
 have HA := hide (fun w => four_any w h.age ok.age.1 ok.age.2)
 have HF := hide (fun w => four_any w h.first (by have := ok.first.1; omega) ok.first.2)
 have HL := hide (fun w => four_any w h.long ok.long.1 (by have := ok.long.2; omega))
 have hfin : (⟨#[98, 97, 115, 105, 115, 107, 101, 101, 112]⟩ : ByteArray) ++ ⟨(fourB h.age).toArray⟩ ++ ⟨(fourB h.first).toArray⟩ ++ ⟨(fourB h.long).toArray⟩ = secB (hdB h) := rfl
 obtain ⟨FA, hFA⟩ : ∃ FA : ByteArray, ⟨(fourB h.age).toArray⟩ = FA := ⟨_, rfl⟩
 obtain ⟨FF, hFF⟩ : ∃ FF : ByteArray, ⟨(fourB h.first).toArray⟩ = FF := ⟨_, rfl⟩
 obtain ⟨FL, hFL⟩ : ∃ FL : ByteArray, ⟨(fourB h.long).toArray⟩ = FL := ⟨_, rfl⟩
 have nFA : FA.size = 4 := by rw [← hFA]; rfl
 have nFF : FF.size = 4 := by rw [← hFF]; rfl
 have nFL : FL.size = 4 := by rw [← hFL]; rfl
 rw [hFA, hFF, hFL] at hfin
 rw [hFA] at HA
 rw [hFF] at HF
 rw [hFL] at HL
 obtain ⟨MA, hMA⟩ : ∃ MA : ByteArray, (⟨#[98, 97, 115, 105, 115, 107, 101, 101, 112]⟩ : ByteArray) ++ FA = MA := ⟨_, rfl⟩
 have nMA : MA.size = 13 := by rw [← hMA, ByteArray.size_append, nFA]; rfl
 rw [hMA] at hfin
 obtain ⟨MF, hMF⟩ : ∃ MF : ByteArray, MA ++ FF = MF := ⟨_, rfl⟩
 have nMF : MF.size = 17 := by rw [← hMF, ByteArray.size_append, nMA, nFF]
 rw [hMF] at hfin
 obtain ⟨ML, hML⟩ : ∃ ML : ByteArray, MF ++ FL = ML := ⟨_, rfl⟩
 rw [hML] at hfin
 rw [← hfin]
 clear hfin hFA hFF hFL ok
 go_enter Tryz.func95, Tryz.ntmps95
 go_wp2_with fail
 obtain ⟨W1, hW1⟩ : ∃ W1, w.alloc (.cells #[.int .i64 (h.pl : Int), .int .u32 h.age, .int .u32 h.first, .int .u32 h.long] 91) = W1 := ⟨_, rfl⟩
 rw [hW1] at X HB ⊢
 clear hW1
 refine region_inv (by kernel_rfl) (by kernel_rfl) (fun L a' w' => ∃ (c : Nat → Value), a' = (⟨#[(.agg #[.int .i64 (h.pl : Int), .int .u32 h.age, .int .u32 h.first, .int .u32 h.long]), (.pointer (some ⟨w.heap.size, 0, none⟩)), c 12, c 0, c 1, c 2, c 3, c 4, c 5, c 6, c 7, c 8, c 9, c 10, c 11], []⟩ : Act) ∧ FS pkdD (fun i => List.getD [some (.pointer (some ⟨w.heap.size, 1, none⟩)), some (.int .u32 h.age), some (.string FA), some (.string MA), some (.pointer (some ⟨w.heap.size, 2, none⟩)), some (.int .u32 h.first), some (.string FF), some (.string MF), some (.pointer (some ⟨w.heap.size, 3, none⟩)), some (.int .u32 h.long), some (.string FL), some (.string ML), some (.string ML)] i none) (fun _ _ _ => True) W1 L c w') ⟨fun i => List.getD [undef, undef, undef, undef, undef, undef, undef, undef, undef, undef, undef, undef, (.string ⟨#[]⟩)] i undef, rfl, FS.start _ _ _⟩ ?_ ?_
 ·rintro L a' w' i o ⟨c, rfl, R⟩ ho hn hdep K hK
  have hi : i < 13 := (Array.getElem?_eq_some_iff.1 ho).1
  have hst : Stays pkdD (fun _ _ _ => True) := ⟨fun _ _ _ _ _ h => h, fun _ _ _ _ _ _ _ h => h⟩
  rcases (by omega : i = 0 ∨ i = 1 ∨ i = 2 ∨ i = 3 ∨ i = 4 ∨ i = 5 ∨ i = 6 ∨ i = 7 ∨ i = 8 ∨ i = 9 ∨ i = 10 ∨ i = 11 ∨ i = 12) with rfl | rfl | rfl | rfl | rfl | rfl | rfl | rfl | rfl | rfl | rfl | rfl | rfl
  ·obtain rfl := Option.some.inj ho
   have R' := R.made hst hn (fun j hj => absurd hj (by simp [pkdD])) (Below.refl _ _) (v := (.pointer (some ⟨w.heap.size, 1, none⟩))) (fun u h => Option.some.inj h) trivial
   clear R
   go_simp
   first
   | exact hK.out _ _ ⟨_, by simp [upd], R'⟩
   | (go_wp2_with fail; exact hK.out _ _ ⟨_, by simp [upd], R'⟩)
  ·obtain rfl := Option.some.inj ho
   have e0 : c 0 = (.pointer (some ⟨w.heap.size, 1, none⟩)) := R.plain 0 _ (hdep ⟨0, .data⟩ (by simp) rfl) rfl
   obtain ⟨-, p1, -⟩ := X.out.later R.below
   have R' := R.made hst hn (fun j hj => by simp [pkdD] at hj; subst hj; exact hdep ⟨_, .data⟩ (by simp) rfl) (Below.refl _ _) (v := (.int .u32 h.age)) (fun u h => Option.some.inj h) trivial
   clear R
   rw [e0]
   go_simp
   first
   | exact hK.out _ _ ⟨_, by simp [upd, e0], R'⟩
   | (go_wp2_with fail; exact hK.out _ _ ⟨_, by simp [upd, e0], R'⟩)
  ·obtain rfl := Option.some.inj ho
   have e1 : c 1 = (.int .u32 h.age) := R.plain 1 _ (hdep ⟨1, .data⟩ (by simp) rfl) rfl
   rw [e1]
   go_simp
   refine (HA.out w').mono ?_
   rintro e w2 ⟨rfl, hb2⟩
   have R' := R.made hst hn (fun j hj => by simp [pkdD] at hj; subst hj; exact hdep ⟨_, .data⟩ (by simp) rfl) hb2 (v := (.string FA)) (fun u h => Option.some.inj h) trivial
   clear R hb2
   go_wp2_with fail
   exact hK.out _ _ ⟨_, by simp [upd, e1], R'⟩
  ·obtain rfl := Option.some.inj ho
   have e2 : c 2 = (.string FA) := R.plain 2 _ (hdep ⟨2, .data⟩ (by simp) rfl) rfl
   have R' := R.made hst hn (fun j hj => by simp [pkdD] at hj; subst hj; exact hdep ⟨_, .data⟩ (by simp) rfl) (Below.refl _ _) (v := (.string MA)) (fun u h => Option.some.inj h) trivial
   clear R
   rw [e2]
   go_simp
   first
   | exact hK.out _ _ ⟨_, by simp [upd, e2], R'⟩
   | (go_wp2_with fail; exact hK.out _ _ ⟨_, by simp [upd, e2], R'⟩)
  ·obtain rfl := Option.some.inj ho
   have R' := R.made hst hn (fun j hj => absurd hj (by simp [pkdD])) (Below.refl _ _) (v := (.pointer (some ⟨w.heap.size, 2, none⟩))) (fun u h => Option.some.inj h) trivial
   clear R
   go_simp
   first
   | exact hK.out _ _ ⟨_, by simp [upd], R'⟩
   | (go_wp2_with fail; exact hK.out _ _ ⟨_, by simp [upd], R'⟩)
  ·obtain rfl := Option.some.inj ho
   have e4 : c 4 = (.pointer (some ⟨w.heap.size, 2, none⟩)) := R.plain 4 _ (hdep ⟨4, .data⟩ (by simp) rfl) rfl
   obtain ⟨-, -, p2, -⟩ := X.out.later R.below
   have R' := R.made hst hn (fun j hj => by simp [pkdD] at hj; subst hj; exact hdep ⟨_, .data⟩ (by simp) rfl) (Below.refl _ _) (v := (.int .u32 h.first)) (fun u h => Option.some.inj h) trivial
   clear R
   rw [e4]
   go_simp
   first
   | exact hK.out _ _ ⟨_, by simp [upd, e4], R'⟩
   | (go_wp2_with fail; exact hK.out _ _ ⟨_, by simp [upd, e4], R'⟩)
  ·obtain rfl := Option.some.inj ho
   have e5 : c 5 = (.int .u32 h.first) := R.plain 5 _ (hdep ⟨5, .data⟩ (by simp) rfl) rfl
   rw [e5]
   go_simp
   refine (HF.out w').mono ?_
   rintro e w2 ⟨rfl, hb2⟩
   have R' := R.made hst hn (fun j hj => by simp [pkdD] at hj; subst hj; exact hdep ⟨_, .data⟩ (by simp) rfl) hb2 (v := (.string FF)) (fun u h => Option.some.inj h) trivial
   clear R hb2
   go_wp2_with fail
   exact hK.out _ _ ⟨_, by simp [upd, e5], R'⟩
  ·obtain rfl := Option.some.inj ho
   have e3 : c 3 = (.string MA) := R.plain 3 _ (hdep ⟨3, .data⟩ (by simp) rfl) rfl
   have e6 : c 6 = (.string FF) := R.plain 6 _ (hdep ⟨6, .data⟩ (by simp) rfl) rfl
   have R' := R.made hst hn (fun j hj => by simp [pkdD] at hj; rcases hj with rfl | rfl <;> exact hdep ⟨_, .data⟩ (by simp) rfl) (Below.refl _ _) (v := (.string MF)) (fun u h => Option.some.inj h) trivial
   clear R
   rw [e3, e6]
   go_simp
   first
   | exact hK.out _ _ ⟨_, by simp [upd, e3, e6], R'⟩
   | (go_wp2_with fail; exact hK.out _ _ ⟨_, by simp [upd, e3, e6], R'⟩)
  ·obtain rfl := Option.some.inj ho
   have R' := R.made hst hn (fun j hj => absurd hj (by simp [pkdD])) (Below.refl _ _) (v := (.pointer (some ⟨w.heap.size, 3, none⟩))) (fun u h => Option.some.inj h) trivial
   clear R
   go_simp
   first
   | exact hK.out _ _ ⟨_, by simp [upd], R'⟩
   | (go_wp2_with fail; exact hK.out _ _ ⟨_, by simp [upd], R'⟩)
  ·obtain rfl := Option.some.inj ho
   have e8 : c 8 = (.pointer (some ⟨w.heap.size, 3, none⟩)) := R.plain 8 _ (hdep ⟨8, .data⟩ (by simp) rfl) rfl
   obtain ⟨-, -, -, p3, -⟩ := X.out.later R.below
   have R' := R.made hst hn (fun j hj => by simp [pkdD] at hj; subst hj; exact hdep ⟨_, .data⟩ (by simp) rfl) (Below.refl _ _) (v := (.int .u32 h.long)) (fun u h => Option.some.inj h) trivial
   clear R
   rw [e8]
   go_simp
   first
   | exact hK.out _ _ ⟨_, by simp [upd, e8], R'⟩
   | (go_wp2_with fail; exact hK.out _ _ ⟨_, by simp [upd, e8], R'⟩)
  ·obtain rfl := Option.some.inj ho
   have e9 : c 9 = (.int .u32 h.long) := R.plain 9 _ (hdep ⟨9, .data⟩ (by simp) rfl) rfl
   rw [e9]
   go_simp
   refine (HL.out w').mono ?_
   rintro e w2 ⟨rfl, hb2⟩
   have R' := R.made hst hn (fun j hj => by simp [pkdD] at hj; subst hj; exact hdep ⟨_, .data⟩ (by simp) rfl) hb2 (v := (.string FL)) (fun u h => Option.some.inj h) trivial
   clear R hb2
   go_wp2_with fail
   exact hK.out _ _ ⟨_, by simp [upd, e9], R'⟩
  ·obtain rfl := Option.some.inj ho
   have e7 : c 7 = (.string MF) := R.plain 7 _ (hdep ⟨7, .data⟩ (by simp) rfl) rfl
   have e10 : c 10 = (.string FL) := R.plain 10 _ (hdep ⟨10, .data⟩ (by simp) rfl) rfl
   have R' := R.made hst hn (fun j hj => by simp [pkdD] at hj; rcases hj with rfl | rfl <;> exact hdep ⟨_, .data⟩ (by simp) rfl) (Below.refl _ _) (v := (.string ML)) (fun u h => Option.some.inj h) trivial
   clear R
   rw [e7, e10]
   go_simp
   first
   | exact hK.out _ _ ⟨_, by simp [upd, e7, e10], R'⟩
   | (go_wp2_with fail; exact hK.out _ _ ⟨_, by simp [upd, e7, e10], R'⟩)
  ·obtain rfl := Option.some.inj ho
   have e11 : c 11 = (.string ML) := R.plain 11 _ (hdep ⟨11, .data⟩ (by simp) rfl) rfl
   have R' := R.made hst hn (fun j hj => by simp [pkdD] at hj; subst hj; exact hdep ⟨_, .data⟩ (by simp) rfl) (Below.refl _ _) (v := (.string ML)) (fun u h => Option.some.inj h) trivial
   clear R
   rw [e11]
   go_simp
   first
   | exact hK.out _ _ ⟨_, by simp [upd, e11], R'⟩
   | (go_wp2_with fail; exact hK.out _ _ ⟨_, by simp [upd, e11], R'⟩)
 rintro L a' w2 ⟨c, rfl, R⟩ hall
 have hb2 := R.below
 have f12 : c 12 = (.string ML) := R.plain 12 _ (hall 12 (by decide)) rfl
 rw [f12]
 have HB2 := hide (HB.out.trans (hb2.mono HB.out.size))
 clear hb2 f12 R hall
 go_wp2
 go_ret
 exact ⟨rfl, HB2.out⟩

end Go.Proofs.YtnhbfehfipafoaaGreatDoor

/- The head that a sector has. -/
namespace Go.Proofs.YtnhbfehfipafoaaGreatDoor
open Go.RowKit

set_option linter.unusedSimpArgs false in
set_option maxRecDepth 100000 in
set_option maxHeartbeats 1600000 in
theorem hasPrefL_any (s p : ByteArray) (w : World) :
  Calls Tryz.prog 108 #[.string s, .string p] w fun e w' => e = .returned (.bool (Lib.hasPrefix s.data.toList p.data.toList)) ∧ w' = w := by
 rw [← Lib.hasPrefix_of_take, ← Lib.size_eq, ← Lib.size_eq]
 go_enter Tryz.func108, Tryz.ntmps108
 go_wp2
 ·rename_i h
  go_ret
  refine ⟨?_, rfl⟩
  show Ending.returned (Value.bool ((s.extract 0 p.size).toList == p.toList)) = _
  rw [Lib.extract_toList, Lib.toList_data]
  simp [h]
 ·rename_i h
  go_ret
  refine ⟨?_, rfl⟩
  show Ending.returned (Value.bool false) = _
  simp [h]

set_option linter.unusedSimpArgs false in
set_option maxRecDepth 100000 in
set_option maxHeartbeats 1600000 in
theorem hasPref_any (s p : ByteArray) (w : World) :
  Calls Tryz.prog 81 #[.string s, .string p] w fun e w' => e = .returned (.bool (Lib.hasPrefix s.data.toList p.data.toList)) ∧ w' = w := by
 go_enter Tryz.func81, Tryz.ntmps81
 go_wp2_with fail
 refine (hasPrefL_any s p w).mono ?_
 rintro e w1 ⟨rfl, rfl⟩
 go_wp2
 go_ret
 exact ⟨rfl, rfl⟩

theorem hasPref_mark {l : List UInt8} (hl : l.length = 64) : Lib.hasPrefix (secB l).data.toList (⟨#[98, 97, 115, 105, 115, 107, 101, 101, 112]⟩ : ByteArray).data.toList = decide (l.take 9 = markB) := by
 rw [← Lib.hasPrefix_of_take]
 show (decide (9 ≤ l.length) && (l.take 9 == markB)) = _
 rw [decide_eq_true (by omega)]
 rw [Bool.eq_iff_iff]
 simp

def UnP (l : List UInt8) (w : World) (e : Ending) (w' : World) : Prop := ∃ (a f g : Int) (b : Bool), e = .returned (.tuple #[.agg #[.int .i64 0, .int .u32 a, .int .u32 f, .int .u32 g], .bool b]) ∧ (∀ p, unHd p l = if b = true then some ⟨p, a, f, g⟩ else none) ∧ Below w.heap.size w w'

theorem UnP.drew {l : List UInt8} {w w' : World} {e : Ending} (h : UnP l w e w') : UnP l w e w'.drew := by
 obtain ⟨a, f, g, b, h1, h2, h3⟩ := h
 exact ⟨a, f, g, b, h1, h2, h3.drew⟩

theorem numB_drop {l : List UInt8} (k : Nat) : numB (secB (l.drop k)) = numAt l k := by
 unfold numB numAt
 rw [byt_sec, byt_sec, byt_sec, byt_sec]
 have : ∀ i, bt (l.drop k) i = bt l (k + i) := fun i => by
  unfold bt
  rw [List.getD_eq_getElem?_getD, List.getD_eq_getElem?_getD, List.getElem?_drop]
 rw [this, this, this, this, Nat.add_zero]

def unhD : Nat → List Nat
 | 1 => [0]
 | 3 => [2]
 | 4 => [3]
 | 6 => [5]
 | 7 => [6]
 | 8 => [1, 4, 7]
 | 10 => [8, 9]
 | _ => []

set_option linter.unusedSimpArgs false in
set_option maxRecDepth 100000 in
set_option maxHeartbeats 1600000 in
theorem hdunp_any (w : World) (l : List UInt8) (hl : l.length = 64) :
  Calls Tryz.prog 61 #[.string (secB l)] w fun e w' => UnP l w e w' := by
 have X0 := hide (HdB.new w (.int .i64 0) (.int .u32 0) (.int .u32 0) (.int .u32 0))
 have HB0 := hide (alloc_below w (.cells #[.int .i64 0, .int .u32 0, .int .u32 0, .int .u32 0] 91))
 have HP := hide (hasPref_any (secB l) ⟨#[98, 97, 115, 105, 115, 107, 101, 101, 112]⟩)
 rw [hasPref_mark hl] at HP
 have hsz : (secB l).size = 64 := by rw [secB_size]; exact hl
 obtain ⟨bm, hbm⟩ : ∃ b, decide (l.take 9 = markB) = b := ⟨_, rfl⟩
 rw [hbm] at HP
 cases bm with
 | false =>
  have hno := of_decide_eq_false hbm
  have HN : Hid (∀ p, unHd p l = none) := fun p => by unfold unHd; rw [if_neg (fun h => hno h.1)]
  clear hbm hno
  go_enter Tryz.func61, Tryz.ntmps61
  go_wp2_with fail
  refine (HP.out _).mono ?_
  rintro e w1 ⟨rfl, rfl⟩
  obtain ⟨W1, hW1⟩ : ∃ W1, w.alloc (.cells #[.int .i64 0, .int .u32 0, .int .u32 0, .int .u32 0] 91) = W1 := ⟨_, rfl⟩
  rw [hW1] at X0 HB0 ⊢
  obtain ⟨z0, z1, z2, z3, z4, z5, z6, z7⟩ := HdB.cells X0.out
  obtain ⟨y0, y1, y2, y3, -⟩ := HdB.cells (HdB.wrote X0.out (.int .i64 0) (.int .u32 0) (.int .u32 0) (.int .u32 0))
  have HB1 := hide (below_four HB0.out (Nat.le_refl _) (.int .i64 0) (.int .u32 0) (.int .u32 0) (.int .u32 0))
  clear hW1
  go_wp2
  exact bodyPost_ret (v := .tuple #[.agg #[.int .i64 0, .int .u32 0, .int .u32 0, .int .u32 0], .bool false]) (by simp [results, Tryz.results61, go_sem, y0, y1, y2, y3]) rfl ⟨0, 0, 0, false, rfl, HN.out, HB1.out⟩
 | true =>
  have hyes := of_decide_eq_true hbm
  obtain ⟨A, hA⟩ : ∃ A, numAt l 9 = A := ⟨_, rfl⟩
  obtain ⟨F, hF⟩ : ∃ F, numAt l 13 = F := ⟨_, rfl⟩
  obtain ⟨G, hG⟩ : ∃ G, numAt l 17 = G := ⟨_, rfl⟩
  obtain ⟨S9, hS9⟩ : ∃ S, secB (l.drop 9) = S := ⟨_, rfl⟩
  obtain ⟨S13, hS13⟩ : ∃ S, secB (l.drop 13) = S := ⟨_, rfl⟩
  obtain ⟨S17, hS17⟩ : ∃ S, secB (l.drop 17) = S := ⟨_, rfl⟩
  have e9 : (secB l).extract 9 64 = S9 := by rw [← hS9, extract_sec, List.take_of_length_le (by omega)]
  have n9 : S9.size = 55 := by rw [← hS9, secB_size, List.length_drop]; omega
  have e13 : S9.extract 4 55 = S13 := by rw [← hS9, ← hS13, extract_sec, List.take_of_length_le (by rw [List.length_drop]; omega), List.drop_drop]
  have e17 : S9.extract 8 55 = S17 := by rw [← hS9, ← hS17, extract_sec, List.take_of_length_le (by rw [List.length_drop]; omega), List.drop_drop]
  have n13 : S13.size ≤ 1000000 := by rw [← hS13, secB_size, List.length_drop]; omega
  have n17 : S17.size ≤ 1000000 := by rw [← hS17, secB_size, List.length_drop]; omega
  have q9 : numB S9 = A := by rw [← hS9, numB_drop, hA]
  have q13 : numB S13 = F := by rw [← hS13, numB_drop, hF]
  have q17 : numB S17 = G := by rw [← hS17, numB_drop, hG]
  have HA : Hid (∀ w, Calls Tryz.prog 82 #[.string S9] w fun e w' => e = .returned (.int .u32 A) ∧ Below w.heap.size w w') := fun w => (number_any w S9 (by omega)).mono fun e w' h => ⟨by rw [h.1, q9], by rw [h.2]; exact Below.refl _ _⟩
  have HF : Hid (∀ w, Calls Tryz.prog 82 #[.string S13] w fun e w' => e = .returned (.int .u32 F) ∧ Below w.heap.size w w') := fun w => (number_any w S13 n13).mono fun e w' h => ⟨by rw [h.1, q13], by rw [h.2]; exact Below.refl _ _⟩
  have HG : Hid (∀ w, Calls Tryz.prog 82 #[.string S17] w fun e w' => e = .returned (.int .u32 G) ∧ Below w.heap.size w w') := fun w => (number_any w S17 n17).mono fun e w' h => ⟨by rw [h.1, q17], by rw [h.2]; exact Below.refl _ _⟩
  have hun : ∀ p, unHd p l = if (decide (0 < F) && decide (G ≤ 2560)) = true then some ⟨p, A, F, G⟩ else none := fun p => by
   unfold unHd
   rw [hA, hF, hG]
   by_cases h1 : 0 < F
   ·by_cases h2 : G ≤ 2560
    ·rw [if_pos ⟨hyes, h1, h2⟩, if_pos (by simp [h1, h2])]
    ·rw [if_neg (fun h => h2 h.2.2), if_neg (by simp [h2])]
   ·rw [if_neg (fun h => h1 h.2.1), if_neg (by simp [h1])]
  have HUN := hide hun
  clear hun hbm hyes hA hF hG hS9 hS13 hS17 q9 q13 q17 n13 n17
  go_enter Tryz.func61, Tryz.ntmps61
  go_wp2_with fail
  refine (HP.out _).mono ?_
  rintro e w1 ⟨rfl, rfl⟩
  obtain ⟨W1, hW1⟩ : ∃ W1, w.alloc (.cells #[.int .i64 0, .int .u32 0, .int .u32 0, .int .u32 0] 91) = W1 := ⟨_, rfl⟩
  rw [hW1] at X0 HB0 ⊢
  have hsz1 : W1.heap.size = w.heap.size + 1 := by rw [← hW1]; simp
  clear hW1
  go_wp2_with fail
  refine region_inv (by kernel_rfl) (by kernel_rfl) (fun L a' w' => ∃ (c : Nat → Value) (fl : Bool), a' = (⟨#[(.string S9), undef, (.pointer (some ⟨w.heap.size, 0, none⟩)), (.bool false), c 9, (.string (secB l)), (.bool true), (.bool false), undef, (.string (secB l)), (.string S9), c 0, c 1, c 2, c 3, c 4, c 5, c 6, c 7, c 8, undef, undef, undef, undef, undef, undef, undef, undef, undef], []⟩ : Act) ∧ L.getD 10 false = fl ∧ FS unhD (fun i => List.getD [some (.string S9), some (.int .u32 A), some (.string S9), some (.string S13), some (.int .u32 F), some (.string S9), some (.string S17), some (.int .u32 G), some (.agg #[.int .i64 0, .int .u32 A, .int .u32 F, .int .u32 G]), none, none] i none) (rgS 9 10 (fun W B => HdB W B (.int .i64 0) (.int .u32 0) (.int .u32 0) (.int .u32 0)) (fun W B => HdB W B (.int .i64 0) (.int .u32 A) (.int .u32 F) (.int .u32 G)) W1.heap.size fl) W1 L c w') ⟨fun i => List.getD [undef, undef, undef, undef, undef, undef, undef, undef, undef, undef, undef] i undef, false, rfl, by simp [Array.getD], FS.start _ _ _⟩ ?_ ?_
  ·rintro L a' w' i o ⟨c, fl, rfl, hbf, R⟩ ho hn hdep K hK
   have hi : i < 11 := (Array.getElem?_eq_some_iff.1 ho).1
   have hst := rgStays (ds := unhD) 9 10 (fun W B => HdB W B (.int .i64 0) (.int .u32 0) (.int .u32 0) (.int .u32 0)) (fun W B => HdB W B (.int .i64 0) (.int .u32 A) (.int .u32 F) (.int .u32 G)) (fun _ _ _ hb h => HdB.later h hb) (fun _ _ _ hb h => HdB.later h hb) W1.heap.size fl (fun h => by simp [unhD] at h) (fun h => by simp [unhD] at h)
   rcases (by omega : i = 0 ∨ i = 1 ∨ i = 2 ∨ i = 3 ∨ i = 4 ∨ i = 5 ∨ i = 6 ∨ i = 7 ∨ i = 8 ∨ i = 9 ∨ i = 10) with rfl | rfl | rfl | rfl | rfl | rfl | rfl | rfl | rfl | rfl | rfl
   ·obtain rfl := Option.some.inj ho
    have R' := R.made hst hn (fun j hj => absurd hj (by simp [unhD])) (Below.refl _ _) (v := (.string S9)) (fun u h => Option.some.inj h) (rgS_p (by decide) (by decide))
    clear R
    go_simp
    first
    | exact hK.out _ _ ⟨_, fl, by simp [upd], by rw [getD_set_ne false (by decide)]; exact hbf, R'⟩
    | (go_wp2_with fail; exact hK.out _ _ ⟨_, fl, by simp [upd], by rw [getD_set_ne false (by decide)]; exact hbf, R'⟩)
   ·obtain rfl := Option.some.inj ho
    have e0 : c 0 = (.string S9) := R.plain 0 _ (hdep ⟨0, .data⟩ (by simp) rfl) rfl
    rw [e0]
    go_simp
    refine (HA.out w').mono ?_
    rintro e w2 ⟨rfl, hb2⟩
    have R' := R.made hst hn (fun j hj => by simp [unhD] at hj; subst hj; exact hdep ⟨_, .data⟩ (by simp) rfl) hb2 (v := (.int .u32 A)) (fun u h => Option.some.inj h) (rgS_p (by decide) (by decide))
    clear R hb2
    go_wp2_with fail
    exact hK.out _ _ ⟨_, fl, by simp [upd, e0], by rw [getD_set_ne false (by decide)]; exact hbf, R'⟩
   ·obtain rfl := Option.some.inj ho
    have R' := R.made hst hn (fun j hj => absurd hj (by simp [unhD])) (Below.refl _ _) (v := (.string S9)) (fun u h => Option.some.inj h) (rgS_p (by decide) (by decide))
    clear R
    go_simp
    first
    | exact hK.out _ _ ⟨_, fl, by simp [upd], by rw [getD_set_ne false (by decide)]; exact hbf, R'⟩
    | (go_wp2_with fail; exact hK.out _ _ ⟨_, fl, by simp [upd], by rw [getD_set_ne false (by decide)]; exact hbf, R'⟩)
   ·obtain rfl := Option.some.inj ho
    have e2 : c 2 = (.string S9) := R.plain 2 _ (hdep ⟨2, .data⟩ (by simp) rfl) rfl
    have R' := R.made hst hn (fun j hj => by simp [unhD] at hj; subst hj; exact hdep ⟨_, .data⟩ (by simp) rfl) (Below.refl _ _) (v := (.string S13)) (fun u h => Option.some.inj h) (rgS_p (by decide) (by decide))
    clear R
    rw [e2]
    go_simp
    first
    | exact hK.out _ _ ⟨_, fl, by simp [upd, e2], by rw [getD_set_ne false (by decide)]; exact hbf, R'⟩
    | (go_wp2_with fail; exact hK.out _ _ ⟨_, fl, by simp [upd, e2], by rw [getD_set_ne false (by decide)]; exact hbf, R'⟩)
   ·obtain rfl := Option.some.inj ho
    have e3 : c 3 = (.string S13) := R.plain 3 _ (hdep ⟨3, .data⟩ (by simp) rfl) rfl
    rw [e3]
    go_simp
    refine (HF.out w').mono ?_
    rintro e w2 ⟨rfl, hb2⟩
    have R' := R.made hst hn (fun j hj => by simp [unhD] at hj; subst hj; exact hdep ⟨_, .data⟩ (by simp) rfl) hb2 (v := (.int .u32 F)) (fun u h => Option.some.inj h) (rgS_p (by decide) (by decide))
    clear R hb2
    go_wp2_with fail
    exact hK.out _ _ ⟨_, fl, by simp [upd, e3], by rw [getD_set_ne false (by decide)]; exact hbf, R'⟩
   ·obtain rfl := Option.some.inj ho
    have R' := R.made hst hn (fun j hj => absurd hj (by simp [unhD])) (Below.refl _ _) (v := (.string S9)) (fun u h => Option.some.inj h) (rgS_p (by decide) (by decide))
    clear R
    go_simp
    first
    | exact hK.out _ _ ⟨_, fl, by simp [upd], by rw [getD_set_ne false (by decide)]; exact hbf, R'⟩
    | (go_wp2_with fail; exact hK.out _ _ ⟨_, fl, by simp [upd], by rw [getD_set_ne false (by decide)]; exact hbf, R'⟩)
   ·obtain rfl := Option.some.inj ho
    have e5 : c 5 = (.string S9) := R.plain 5 _ (hdep ⟨5, .data⟩ (by simp) rfl) rfl
    have R' := R.made hst hn (fun j hj => by simp [unhD] at hj; subst hj; exact hdep ⟨_, .data⟩ (by simp) rfl) (Below.refl _ _) (v := (.string S17)) (fun u h => Option.some.inj h) (rgS_p (by decide) (by decide))
    clear R
    rw [e5]
    go_simp
    first
    | exact hK.out _ _ ⟨_, fl, by simp [upd, e5], by rw [getD_set_ne false (by decide)]; exact hbf, R'⟩
    | (go_wp2_with fail; exact hK.out _ _ ⟨_, fl, by simp [upd, e5], by rw [getD_set_ne false (by decide)]; exact hbf, R'⟩)
   ·obtain rfl := Option.some.inj ho
    have e6 : c 6 = (.string S17) := R.plain 6 _ (hdep ⟨6, .data⟩ (by simp) rfl) rfl
    rw [e6]
    go_simp
    refine (HG.out w').mono ?_
    rintro e w2 ⟨rfl, hb2⟩
    have R' := R.made hst hn (fun j hj => by simp [unhD] at hj; subst hj; exact hdep ⟨_, .data⟩ (by simp) rfl) hb2 (v := (.int .u32 G)) (fun u h => Option.some.inj h) (rgS_p (by decide) (by decide))
    clear R hb2
    go_wp2_with fail
    exact hK.out _ _ ⟨_, fl, by simp [upd, e6], by rw [getD_set_ne false (by decide)]; exact hbf, R'⟩
   ·obtain rfl := Option.some.inj ho
    have e1 : c 1 = (.int .u32 A) := R.plain 1 _ (hdep ⟨1, .data⟩ (by simp) rfl) rfl
    have e4 : c 4 = (.int .u32 F) := R.plain 4 _ (hdep ⟨4, .data⟩ (by simp) rfl) rfl
    have e7 : c 7 = (.int .u32 G) := R.plain 7 _ (hdep ⟨7, .data⟩ (by simp) rfl) rfl
    have R' := R.made hst hn (fun j hj => by simp [unhD] at hj; rcases hj with rfl | rfl | rfl <;> exact hdep ⟨_, .data⟩ (by simp) rfl) (Below.refl _ _) (v := (.agg #[.int .i64 0, .int .u32 A, .int .u32 F, .int .u32 G])) (fun u h => Option.some.inj h) (rgS_p (by decide) (by decide))
    clear R
    rw [e1, e4, e7]
    go_simp
    first
    | exact hK.out _ _ ⟨_, fl, by simp [upd, e1, e4, e7], by rw [getD_set_ne false (by decide)]; exact hbf, R'⟩
    | (go_wp2_with fail; exact hK.out _ _ ⟨_, fl, by simp [upd, e1, e4, e7], by rw [getD_set_ne false (by decide)]; exact hbf, R'⟩)
   ·obtain rfl := Option.some.inj ho
    have m7 := HdB.new w' (.int .i64 0) (.int .u32 0) (.int .u32 0) (.int .u32 0)
    have R' := R.made hst hn (fun j hj => absurd hj (by simp [unhD])) (alloc_below w' (.cells #[.int .i64 0, .int .u32 0, .int .u32 0, .int .u32 0] 91)) (v := .pointer (some ⟨w'.heap.size, 0, none⟩)) (fun u h => by cases h) (rgS_a (by decide) ⟨w'.heap.size, upd_self .., R.below.size, fun _ => m7⟩)
    clear R m7
    go_simp
    exact hK.out _ _ ⟨_, fl, by simp [upd], by rw [getD_set_ne false (by decide)]; exact hbf, R'⟩
   ·obtain rfl := Option.some.inj ho
    have e8 : c 8 = (.agg #[.int .i64 0, .int .u32 A, .int .u32 F, .int .u32 G]) := R.plain 8 _ (hdep ⟨8, .data⟩ (by simp) rfl) rfl
    have t4 := hdep ⟨9, .data⟩ (by simp) rfl
    have hb0 : fl = false := by
     cases fl with
     | false => rfl
     | true => exact absurd hbf (listed_not hn)
    subst hb0
    obtain ⟨B, e4, hCB, hbx⟩ := (R.spec 9 t4).1 rfl
    have hbx := hbx rfl
    have R' := R.put (Sp' := (rgS 9 10 (fun W B => HdB W B (.int .i64 0) (.int .u32 0) (.int .u32 0) (.int .u32 0)) (fun W B => HdB W B (.int .i64 0) (.int .u32 A) (.int .u32 F) (.int .u32 G)) W1.heap.size true)) (v := undef) hn (fun j hj => by simp [unhD] at hj; rcases hj with rfl | rfl <;> exact hdep ⟨_, .data⟩ (by simp) rfl) (below_four R.below hCB (.int .i64 0) (.int .u32 A) (.int .u32 F) (.int .u32 G)) (fun u h => by cases h) (rgS_keep (by decide) (upd_ne _ _ (by decide))) (rgS_s (by decide) ⟨B, (upd_ne _ _ (by decide)).trans e4, hCB, HdB.wrote hbx (.int .i64 0) (.int .u32 A) (.int .u32 F) (.int .u32 G)⟩)
    obtain ⟨z0, z1, z2, z3, z4, z5, z6, z7⟩ := HdB.cells hbx
    clear R hst t4
    rw [e8, e4]
    go_simp
    exact hK.out _ _ ⟨_, true, by simp [upd, e8, e4], by first | exact listed_new hn | simp [hn], R'⟩
  rintro L a' w2 ⟨c, fl, rfl, hbf, R⟩ hall
  obtain rfl : true = fl := (hall 10 (by decide)).symm.trans hbf
  obtain ⟨BD, eB, hCB, hBD⟩ := (R.spec 10 (hall 10 (by decide))).2 rfl
  have hb2 := R.below
  have hw1 : W1.heap.size ≤ BD := hCB
  have X1 : HdB w2 w.heap.size (.int .i64 0) (.int .u32 0) (.int .u32 0) (.int .u32 0) := HdB.later X0.out (hb2.mono (Nat.le_refl _))
  have HB2 := hide (HB0.out.trans (hb2.mono HB0.out.size))
  have HD := hide hBD
  clear hb2 R hall hBD hCB
  rw [eB]
  obtain ⟨z0, z1, z2, z3, z4, z5, z6, z7⟩ := HdB.cells X1
  obtain ⟨y0, y1, y2, y3, y4, y5, y6, y7⟩ := HdB.cells HD.out
  clear eB
  have hne : BD ≠ w.heap.size := by omega
  obtain ⟨x0, x1, x2, x3, -⟩ := HdB.cells (HdB.wrote X1 (.int .i64 0) (.int .u32 A) (.int .u32 F) (.int .u32 G))
  have HB3 := hide (below_four HB2.out (Nat.le_refl _) (.int .i64 0) (.int .u32 A) (.int .u32 F) (.int .u32 G))
  have hfin : Hid (UnP l w (.returned (.tuple #[.agg #[.int .i64 0, .int .u32 A, .int .u32 F, .int .u32 G], .bool (decide (0 < F) && decide (G ≤ 2560))])) ((((w2.setCell ⟨w.heap.size, 0, none⟩ (.int .i64 0)).setCell ⟨w.heap.size, 1, none⟩ (.int .u32 A)).setCell ⟨w.heap.size, 2, none⟩ (.int .u32 F)).setCell ⟨w.heap.size, 3, none⟩ (.int .u32 G))) := ⟨A, F, G, _, rfl, HUN.out, HB3.out⟩
  obtain ⟨b1, h1⟩ : ∃ b, decide (0 < F) = b := ⟨_, rfl⟩
  obtain ⟨b2, h2⟩ : ∃ b, decide (G ≤ 2560) = b := ⟨_, rfl⟩
  rw [h1, h2] at hfin
  clear HB3 HUN HB2 HB0 HA HF HG HP HD
  cases b1 with
  | false =>
   go_wp2_with go_region
   all_goals first
    | exact bodyPost_ret (v := .tuple #[.agg #[.int .i64 0, .int .u32 A, .int .u32 F, .int .u32 G], .bool false]) (by simp [results, Tryz.results61, go_sem, x0, x1, x2, x3]) rfl hfin.out
    | exact bodyPost_ret (v := .tuple #[.agg #[.int .i64 0, .int .u32 A, .int .u32 F, .int .u32 G], .bool false]) (by simp [results, Tryz.results61, go_sem, x0, x1, x2, x3]) rfl hfin.out.drew
  | true =>
   go_wp2_with go_region
   all_goals first
    | exact bodyPost_ret (v := .tuple #[.agg #[.int .i64 0, .int .u32 A, .int .u32 F, .int .u32 G], .bool b2]) (by simp [results, Tryz.results61, go_sem, x0, x1, x2, x3]) rfl hfin.out
    | exact bodyPost_ret (v := .tuple #[.agg #[.int .i64 0, .int .u32 A, .int .u32 F, .int .u32 G], .bool b2]) (by simp [results, Tryz.results61, go_sem, x0, x1, x2, x3]) rfl hfin.out.drew

end Go.Proofs.YtnhbfehfipafoaaGreatDoor

/- strconv.Itoa in general, laid at this translation. -/
namespace Go.Proofs
open Go.Shelf Go.RowKit Go.Sort
def Tryz.laysM171_ren : Go.Shelf.Ren := ⟨fun | 171 => 114 | 243 => 135 | 246 => 153 | 283 => 164 | 284 => 165 | 285 => 166 | 286 => 167 | 129 => 175 | 317 => 174 | 318 => 176 | 319 => 177 | 320 => 178 | 337 => 181 | 338 => 182 | n => n, fun | 3 => 3 | 9 => 9 | 2 => 2 | 4 => 4 | 171 => 225 | 0 => 0 | 53 => 40 | 37 => 142 | 5 => 5 | 173 => 228 | 212 => 237 | 51 => 89 | 20 => 20 | 213 => 238 | 46 => 184 | 232 => 246 | 233 => 84 | n => n, fun | 17 => 3 | 18 => 6 | 19 => 7 | n => n⟩
theorem Tryz.laysM171 : Go.Proofs.LaysM.n171 Tryz.prog Tryz.laysM171_ren := {
 mixed := by kernel_rfl
 f129 := Tryz.func175.trans (congrArg some (by kernel_rfl))
 f171 := Tryz.func114.trans (congrArg some (by kernel_rfl))
 f243 := Tryz.func135.trans (congrArg some (by kernel_rfl))
 f246 := Tryz.func153.trans (congrArg some (by kernel_rfl))
 f283 := Tryz.func164.trans (congrArg some (by kernel_rfl))
 f284 := Tryz.func165.trans (congrArg some (by kernel_rfl))
 f285 := Tryz.func166.trans (congrArg some (by kernel_rfl))
 f286 := Tryz.func167.trans (congrArg some (by kernel_rfl))
 f317 := Tryz.func174.trans (congrArg some (by kernel_rfl))
 f318 := Tryz.func176.trans (congrArg some (by kernel_rfl))
 f319 := Tryz.func177.trans (congrArg some (by kernel_rfl))
 f320 := Tryz.func178.trans (congrArg some (by kernel_rfl))
 f337 := Tryz.func181.trans (congrArg some (by kernel_rfl))
 f338 := Tryz.func182.trans (congrArg some (by kernel_rfl))
 t0 := Tryz.underlying0
 a0 := Tryz.isAgg0
 z0 := Tryz.sizeOf0
 v0 := Tryz.zeroValue0
 t2 := Tryz.underlying2
 a2 := Tryz.isAgg2
 z2 := Tryz.sizeOf2
 v2 := Tryz.zeroValue2
 t3 := Tryz.underlying3
 a3 := Tryz.isAgg3
 z3 := Tryz.sizeOf3
 v3 := Tryz.zeroValue3
 t4 := Tryz.underlying4
 a4 := Tryz.isAgg4
 z4 := Tryz.sizeOf4
 v4 := Tryz.zeroValue4
 t5 := Tryz.underlying5
 a5 := Tryz.isAgg5
 z5 := Tryz.sizeOf5
 v5 := Tryz.zeroValue5
 t9 := Tryz.underlying9
 a9 := Tryz.isAgg9
 z9 := Tryz.sizeOf9
 v9 := Tryz.zeroValue9
 t20 := Tryz.underlying20
 a20 := Tryz.isAgg20
 z20 := Tryz.sizeOf20
 v20 := Tryz.zeroValue20
 t37 := Tryz.underlying142
 a37 := Tryz.isAgg142
 z37 := Tryz.sizeOf142
 v37 := Tryz.zeroValue142
 t46 := Tryz.underlying184
 a46 := Tryz.isAgg184
 z46 := Tryz.sizeOf184
 v46 := Tryz.zeroValue184
 t51 := Tryz.underlying89
 a51 := Tryz.isAgg89
 z51 := Tryz.sizeOf89
 v51 := Tryz.zeroValue89
 t53 := Tryz.underlying40
 a53 := Tryz.isAgg40
 z53 := Tryz.sizeOf40
 v53 := Tryz.zeroValue40
 t171 := Tryz.underlying225
 a171 := Tryz.isAgg225
 z171 := Tryz.sizeOf225
 v171 := Tryz.zeroValue225
 t173 := Tryz.underlying228
 a173 := Tryz.isAgg228
 z173 := Tryz.sizeOf228
 v173 := Tryz.zeroValue228
 t212 := Tryz.underlying237
 a212 := Tryz.isAgg237
 z212 := Tryz.sizeOf237
 v212 := Tryz.zeroValue237
 t213 := Tryz.underlying238
 a213 := Tryz.isAgg238
 z213 := Tryz.sizeOf238
 t232 := Tryz.underlying246
 a232 := Tryz.isAgg246
 z232 := Tryz.sizeOf246
 v232 := Tryz.zeroValue246
 t233 := Tryz.underlying84
 a233 := Tryz.isAgg84
 z233 := Tryz.sizeOf84
 v233 := Tryz.zeroValue84
 g17 := by kernel_rfl
 g18 := by kernel_rfl
 g19 := by kernel_rfl
 i0 := by kernel_rfl
 i2 := by kernel_rfl
 i3 := by kernel_rfl
 i4 := by kernel_rfl
 i5 := by kernel_rfl
 i9 := by kernel_rfl
 i20 := by kernel_rfl
 i37 := by kernel_rfl
 i46 := by kernel_rfl
 i51 := by kernel_rfl
 i53 := by kernel_rfl
 i171 := by kernel_rfl
 i173 := by kernel_rfl
 i212 := by kernel_rfl
 i232 := by kernel_rfl
 i233 := by kernel_rfl
 m17 := by kernel_rfl
 m18 := by kernel_rfl
 m19 := by kernel_rfl }
open Go.RowKit Go.Sort Go.Lib in
theorem Tryz.strconv_Itoa (n : Int) (h0 : -9223372036854775808 ≤ n) (h1 : n ≤ 9223372036854775807) (w : World) (htab : Lib.TabIs Tryz.prog w "internal/strconv.uint64pow10" .u64 Lib.pow10Tab) :
  Calls Tryz.prog 114 #[.int .i64 n] w fun e w' => e = .returned (.string ⟨(Lib.itoa n).toArray⟩) ∧ ∃ k os, w' = grow (w.drewN k) os := Any.strconv_Itoa Tryz.laysM171 n h0 h1 w htab
end Go.Proofs
