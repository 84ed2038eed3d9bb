/- The reference: the text of an expression of two parts. -/
import Derived.Test.YtanjajjjancggaaDoorRxE
import Derived.Test.YtanjajjjancggaaDoorQxG
namespace Go.Proofs.YtanjajjjancggaaDoor
open Go.RowKit

def wvD : Nat → List Nat
 | 1 => [0] | 2 => [1] | 3 => [2] | 4 => [3] | 5 => [4] | 6 => [5] | 8 => [7] | 9 => [8] | 10 => [9] | 11 => [10] | 12 => [6, 11] | 13 => [12] | 14 => [13]
 | _ => []

def wvS (_ : Nat) (_ : Nat → Value) (_ : World) : Prop := True

theorem wvStays : Stays wvD wvS where
 later := fun _ _ _ _ _ _ => trivial
 other := fun _ _ _ _ _ _ _ _ => trivial

set_option linter.unusedSimpArgs false in
set_option maxRecDepth 100000 in
set_option maxHeartbeats 3200000 in
theorem wroteR_sum (w : World) (x y : Ex) (cs : List Value) (tx ty : List UInt8) (hlx : tx.length ≤ 1000000) (hly : ty.length ≤ 1000000) (d : Nat) (h : ExD w (d + 1) (.mk 2 0 ⟨#[]⟩ [x, y]) cs)
  (hx : ∀ W ys, ExD W d x ys → Calls Tryd.prog 11 #[.agg ys.toArray] W fun e w' => e = .returned (strV tx) ∧ Below W.heap.size W w')
  (hy : ∀ W ys, ExD W d y ys → Calls Tryd.prog 11 #[.agg ys.toArray] W fun e w' => e = .returned (strV ty) ∧ Below W.heap.size W w') :
  Calls Tryd.prog 11 #[.agg cs.toArray] w fun e w' => e = .returned (strV (40 :: (tx ++ (spacedB false ++ (ty ++ [41]))))) ∧ Below w.heap.size w w' := by
 obtain ⟨d', o, cap, ed, rfl, -, hat⟩ := h.shape
 obtain rfl : d = d' := by omega
 obtain ⟨b, off, ys, k0, m0, z0, v0, rfl, hlt, rfl, hx0, c0, c1, c2, c3, -⟩ := hat 0 x rfl
 obtain ⟨b', off', ys, k1, m1, z1, v1, eb, -, rfl, hy0, d0, d1, d2, d3, -⟩ := hat 1 y rfl
 simp only [Option.some.injEq, Addr.mk.injEq, and_true] at eb
 obtain ⟨rfl, rfl⟩ := eb
 rw [show off + 0 * 4 = off by omega] at c0
 rw [show off + 0 * 4 + 1 = off + 1 by omega] at c1
 rw [show off + 0 * 4 + 2 = off + 2 by omega] at c2
 rw [show off + 0 * 4 + 3 = off + 3 by omega] at c3
 rw [show off + 1 * 4 = off + 4 by omega] at d0
 rw [show off + 1 * 4 + 1 = off + 5 by omega] at d1
 rw [show off + 1 * 4 + 2 = off + 6 by omega] at d2
 rw [show off + 1 * 4 + 3 = off + 7 by omega] at d3
 have hb1 := alloc_below w (.cells #[.int .i64 (2), .int .i64 0, .string ⟨#[]⟩, .slice (some ⟨b, off, none⟩) 2 cap] 24)
 have hX := ExB.new w 2 0 ⟨#[]⟩ (.slice (some ⟨b, off, none⟩) 2 cap)
 have HTM : Hid (TwoM (w.alloc (.cells #[.int .i64 (2), .int .i64 0, .string ⟨#[]⟩, .slice (some ⟨b, off, none⟩) 2 cap] 24)) w.heap.size b off cap (2) k0 m0 k1 m1 z0 z1 v0 v1) :=
  ⟨by simp, Nat.lt_of_lt_of_le hlt hb1.size, hX.cells.1, hX.cells.2.2.2.1, TwoM.later_lt hlt c0 hb1, TwoM.later_lt hlt c1 hb1, TwoM.later_lt hlt c2 hb1, TwoM.later_lt hlt c3 hb1, TwoM.later_lt hlt d0 hb1, TwoM.later_lt hlt d1 hb1, TwoM.later_lt hlt d2 hb1, TwoM.later_lt hlt d3 hb1⟩
 have HX := hide (fun W (hb : Below w.heap.size w W) => hx W _ (hx0.below hb)); have HY := hide (fun W (hb : Below w.heap.size w W) => hy W _ (hy0.below hb)); have HB1 := hide hb1
 have hk := HTM.out.kind
 clear hx hy hx0 hy0 c0 c1 c2 c3 d0 d1 d2 d3 hat h hX hb1
 go_enter Tryd.func11, Tryd.ntmps11
 go_wp2_with fail
 refine region_inv (by kernel_rfl) (by kernel_rfl) (fun L a' w' => ∃ c : Nat → Value, a' = (⟨#[.agg (exC 2 0 ⟨#[]⟩ (.slice (some ⟨b, off, none⟩) 2 cap)).toArray, .pointer (some ⟨w.heap.size, 0, none⟩), c 14, .pointer (some ⟨w.heap.size, 0, none⟩), .int .i64 2, .bool true, .bool true, c 0, c 1, c 2, c 3, c 4, c 5, c 6, c 7, c 8, c 9, c 10, c 11, c 12, c 13, undef, undef, undef, undef, undef, undef, undef, undef, undef, undef, undef, undef, undef, undef, undef, undef, undef, undef, undef, undef, undef, undef, undef, undef, undef, undef, undef, undef, undef, undef, undef, undef], []⟩ : Act) ∧ FS wvD (fun i => List.getD [some (.pointer (some ⟨w.heap.size, 3, none⟩)), some (.slice (some ⟨b, off, none⟩) 2 cap), some (.pointer (some ⟨b, off, none⟩)), some (.agg #[.int .i64 k0, .int .i64 m0, .string z0, v0]), some (strV tx), some (.string ((⟨#[40]⟩ : ByteArray) ++ ⟨tx.toArray⟩)), some (.string (((⟨#[40]⟩ : ByteArray) ++ ⟨tx.toArray⟩) ++ ⟨#[32, 43, 32]⟩)), some (.pointer (some ⟨w.heap.size, 3, none⟩)), some (.slice (some ⟨b, off, none⟩) 2 cap), some (.pointer (some ⟨b, off + 4, none⟩)), some (.agg #[.int .i64 k1, .int .i64 m1, .string z1, v1]), some (strV ty), some (.string ((((⟨#[40]⟩ : ByteArray) ++ ⟨tx.toArray⟩) ++ ⟨#[32, 43, 32]⟩) ++ ⟨ty.toArray⟩)), some (.string (((((⟨#[40]⟩ : ByteArray) ++ ⟨tx.toArray⟩) ++ ⟨#[32, 43, 32]⟩) ++ ⟨ty.toArray⟩) ++ ⟨#[41]⟩)), some (.string (((((⟨#[40]⟩ : ByteArray) ++ ⟨tx.toArray⟩) ++ ⟨#[32, 43, 32]⟩) ++ ⟨ty.toArray⟩) ++ ⟨#[41]⟩))] i none) wvS (w.alloc (.cells #[.int .i64 2, .int .i64 0, .string ⟨#[]⟩, .slice (some ⟨b, off, none⟩) 2 cap] 24)) L c w') ⟨fun i => List.getD [undef, undef, undef, undef, undef, undef, undef, undef, undef, undef, undef, undef, undef, undef, .string ⟨#[]⟩] i undef, rfl, FS.start _ _ _⟩ ?_ ?_
 ·rintro L a' w' i o ⟨c, rfl, R⟩ ho hn hdep K hK
  have hi : i < 15 := (Array.getElem?_eq_some_iff.1 ho).1
  have hst := wvStays
  have TM := hide (HTM.out.later R.below)
  have HBW := hide (HB1.out.trans (R.below.mono HB1.out.size))
  rcases (by omega : i = 0 ∨ i = 1 ∨ i = 2 ∨ i = 3 ∨ i = 4 ∨ i = 5 ∨ i = 6 ∨ i = 7 ∨ i = 8 ∨ i = 9 ∨ i = 10 ∨ i = 11 ∨ i = 12 ∨ i = 13 ∨ i = 14) with rfl | rfl | rfl | rfl | rfl | rfl | rfl | rfl | rfl | rfl | rfl | rfl | rfl | rfl | rfl
  ·obtain rfl := Option.some.inj ho
   have R' := R.made hst hn (fun j hj => absurd hj (by simp [wvD])) (Below.refl _ _) (v := .pointer (some ⟨w.heap.size, 3, none⟩)) (fun u h => Option.some.inj (show some (.pointer (some ⟨w.heap.size, 3, none⟩)) = some u from h)) trivial
   clear R
   go_simp
   exact hK.out _ _ ⟨_, by simp [upd], R'⟩
  ·obtain rfl := Option.some.inj ho
   have e0 : c 0 = .pointer (some ⟨w.heap.size, 3, none⟩) := R.plain 0 _ (hdep ⟨0, .data⟩ (by simp) rfl) rfl
   have t := TM.out.list
   have R' := R.made hst hn (fun j hj => by simp [wvD] at hj; subst hj; exact hdep ⟨_, .data⟩ (by simp) rfl) (Below.refl _ _) (v := .slice (some ⟨b, off, none⟩) 2 cap) (fun u h => Option.some.inj (show some (.slice (some ⟨b, off, none⟩) 2 cap) = some u from h)) trivial
   clear R
   rw [e0]
   go_simp
   exact hK.out _ _ ⟨_, by simp [upd, e0], R'⟩
  ·obtain rfl := Option.some.inj ho
   have e1 : c 1 = .slice (some ⟨b, off, none⟩) 2 cap := R.plain 1 _ (hdep ⟨1, .data⟩ (by simp) rfl) rfl
   have R' := R.made hst hn (fun j hj => by simp [wvD] at hj; subst hj; exact hdep ⟨_, .data⟩ (by simp) rfl) (Below.refl _ _) (v := .pointer (some ⟨b, off, none⟩)) (fun u h => Option.some.inj (show some (.pointer (some ⟨b, off, none⟩)) = some u from h)) trivial
   clear R
   rw [e1]
   go_simp
   exact hK.out _ _ ⟨_, by simp [upd, e1], R'⟩
  ·obtain rfl := Option.some.inj ho
   have e2 : c 2 = .pointer (some ⟨b, off, none⟩) := R.plain 2 _ (hdep ⟨2, .data⟩ (by simp) rfl) rfl
   have t0 := TM.out.c0; have t1 := TM.out.c1; have t2 := TM.out.c2; have t3 := TM.out.c3
   have R' := R.made hst hn (fun j hj => by simp [wvD] at hj; subst hj; exact hdep ⟨_, .data⟩ (by simp) rfl) (Below.refl _ _) (v := .agg #[.int .i64 k0, .int .i64 m0, .string z0, v0]) (fun u h => Option.some.inj (show some (.agg #[.int .i64 k0, .int .i64 m0, .string z0, v0]) = some u from h)) trivial
   clear R
   rw [e2]
   go_simp
   exact hK.out _ _ ⟨_, by simp [upd, e2], R'⟩
  ·obtain rfl := Option.some.inj ho
   have e3 : c 3 = .agg #[.int .i64 k0, .int .i64 m0, .string z0, v0] := R.plain 3 _ (hdep ⟨3, .data⟩ (by simp) rfl) rfl
   rw [e3]
   go_simp
   refine (HX.out w' HBW.out).mono ?_
   rintro e w2 ⟨rfl, hb2⟩
   have R' := R.made hst hn (fun j hj => by simp [wvD] at hj; subst hj; exact hdep ⟨_, .data⟩ (by simp) rfl) hb2 (v := strV tx) (fun u h => Option.some.inj h) trivial
   clear R
   go_wp2_with fail
   exact hK.out _ _ ⟨_, by simp [upd, e3], R'⟩
  ·obtain rfl := Option.some.inj ho
   have e4 : c 4 = strV tx := R.plain 4 _ (hdep ⟨4, .data⟩ (by simp) rfl) rfl
   have hq : ¬ (9223372036854775807 < 1 + tx.length) := by omega
   have R' := R.made hst hn (fun j hj => by simp [wvD] at hj; subst hj; exact hdep ⟨_, .data⟩ (by simp) rfl) (Below.refl _ _) (v := .string ((⟨#[40]⟩ : ByteArray) ++ ⟨tx.toArray⟩)) (fun u h => Option.some.inj (show some (.string ((⟨#[40]⟩ : ByteArray) ++ ⟨tx.toArray⟩)) = some u from h)) trivial
   clear R
   rw [e4]
   go_simp
   exact hK.out _ _ ⟨_, by simp [upd, e4], R'⟩
  ·obtain rfl := Option.some.inj ho
   have e5 : c 5 = .string ((⟨#[40]⟩ : ByteArray) ++ ⟨tx.toArray⟩) := R.plain 5 _ (hdep ⟨5, .data⟩ (by simp) rfl) rfl
   have hq : ¬ (9223372036854775807 < 1 + tx.length + 3) := by omega
   have R' := R.made hst hn (fun j hj => by simp [wvD] at hj; subst hj; exact hdep ⟨_, .data⟩ (by simp) rfl) (Below.refl _ _) (v := .string (((⟨#[40]⟩ : ByteArray) ++ ⟨tx.toArray⟩) ++ ⟨#[32, 43, 32]⟩)) (fun u h => Option.some.inj (show some (.string (((⟨#[40]⟩ : ByteArray) ++ ⟨tx.toArray⟩) ++ ⟨#[32, 43, 32]⟩)) = some u from h)) trivial
   clear R
   rw [e5]
   go_simp
   exact hK.out _ _ ⟨_, by simp [upd, e5], R'⟩
  ·obtain rfl := Option.some.inj ho
   have R' := R.made hst hn (fun j hj => absurd hj (by simp [wvD])) (Below.refl _ _) (v := .pointer (some ⟨w.heap.size, 3, none⟩)) (fun u h => Option.some.inj (show some (.pointer (some ⟨w.heap.size, 3, none⟩)) = some u from h)) trivial
   clear R
   go_simp
   exact hK.out _ _ ⟨_, by simp [upd], R'⟩
  ·obtain rfl := Option.some.inj ho
   have e7 : c 7 = .pointer (some ⟨w.heap.size, 3, none⟩) := R.plain 7 _ (hdep ⟨7, .data⟩ (by simp) rfl) rfl
   have t := TM.out.list
   have R' := R.made hst hn (fun j hj => by simp [wvD] at hj; subst hj; exact hdep ⟨_, .data⟩ (by simp) rfl) (Below.refl _ _) (v := .slice (some ⟨b, off, none⟩) 2 cap) (fun u h => Option.some.inj (show some (.slice (some ⟨b, off, none⟩) 2 cap) = some u from h)) trivial
   clear R
   rw [e7]
   go_simp
   exact hK.out _ _ ⟨_, by simp [upd, e7], R'⟩
  ·obtain rfl := Option.some.inj ho
   have e8 : c 8 = .slice (some ⟨b, off, none⟩) 2 cap := R.plain 8 _ (hdep ⟨8, .data⟩ (by simp) rfl) rfl
   have R' := R.made hst hn (fun j hj => by simp [wvD] at hj; subst hj; exact hdep ⟨_, .data⟩ (by simp) rfl) (Below.refl _ _) (v := .pointer (some ⟨b, off + 4, none⟩)) (fun u h => Option.some.inj (show some (.pointer (some ⟨b, off + 4, none⟩)) = some u from h)) trivial
   clear R
   rw [e8]
   go_simp
   exact hK.out _ _ ⟨_, by simp [upd, e8], R'⟩
  ·obtain rfl := Option.some.inj ho
   have e9 : c 9 = .pointer (some ⟨b, off + 4, none⟩) := R.plain 9 _ (hdep ⟨9, .data⟩ (by simp) rfl) rfl
   have t0 := TM.out.d0; have t1 := TM.out.d1; have t2 := TM.out.d2; have t3 := TM.out.d3
   have R' := R.made hst hn (fun j hj => by simp [wvD] at hj; subst hj; exact hdep ⟨_, .data⟩ (by simp) rfl) (Below.refl _ _) (v := .agg #[.int .i64 k1, .int .i64 m1, .string z1, v1]) (fun u h => Option.some.inj (show some (.agg #[.int .i64 k1, .int .i64 m1, .string z1, v1]) = some u from h)) trivial
   clear R
   rw [e9]
   go_simp
   exact hK.out _ _ ⟨_, by simp [upd, e9], R'⟩
  ·obtain rfl := Option.some.inj ho
   have e10 : c 10 = .agg #[.int .i64 k1, .int .i64 m1, .string z1, v1] := R.plain 10 _ (hdep ⟨10, .data⟩ (by simp) rfl) rfl
   rw [e10]
   go_simp
   refine (HY.out w' HBW.out).mono ?_
   rintro e w2 ⟨rfl, hb2⟩
   have R' := R.made hst hn (fun j hj => by simp [wvD] at hj; subst hj; exact hdep ⟨_, .data⟩ (by simp) rfl) hb2 (v := strV ty) (fun u h => Option.some.inj h) trivial
   clear R
   go_wp2_with fail
   exact hK.out _ _ ⟨_, by simp [upd, e10], R'⟩
  ·obtain rfl := Option.some.inj ho
   have e6 : c 6 = .string (((⟨#[40]⟩ : ByteArray) ++ ⟨tx.toArray⟩) ++ ⟨#[32, 43, 32]⟩) := R.plain 6 _ (hdep ⟨6, .data⟩ (by simp) rfl) rfl
   have e11 : c 11 = strV ty := R.plain 11 _ (hdep ⟨11, .data⟩ (by simp) rfl) rfl
   have hq : ¬ (9223372036854775807 < 1 + tx.length + 3 + ty.length) := by omega
   have R' := R.made hst hn (fun j hj => by simp [wvD] at hj; rcases hj with rfl | rfl <;> exact hdep ⟨_, .data⟩ (by simp) rfl) (Below.refl _ _) (v := .string ((((⟨#[40]⟩ : ByteArray) ++ ⟨tx.toArray⟩) ++ ⟨#[32, 43, 32]⟩) ++ ⟨ty.toArray⟩)) (fun u h => Option.some.inj (show some (.string ((((⟨#[40]⟩ : ByteArray) ++ ⟨tx.toArray⟩) ++ ⟨#[32, 43, 32]⟩) ++ ⟨ty.toArray⟩)) = some u from h)) trivial
   clear R
   rw [e6, e11]
   go_simp
   exact hK.out _ _ ⟨_, by simp [upd, e6, e11], R'⟩
  ·obtain rfl := Option.some.inj ho
   have e12 : c 12 = .string ((((⟨#[40]⟩ : ByteArray) ++ ⟨tx.toArray⟩) ++ ⟨#[32, 43, 32]⟩) ++ ⟨ty.toArray⟩) := R.plain 12 _ (hdep ⟨12, .data⟩ (by simp) rfl) rfl
   have hq : ¬ (9223372036854775807 < 1 + tx.length + 3 + ty.length + 1) := by omega
   have R' := R.made hst hn (fun j hj => by simp [wvD] at hj; subst hj; exact hdep ⟨_, .data⟩ (by simp) rfl) (Below.refl _ _) (v := .string (((((⟨#[40]⟩ : ByteArray) ++ ⟨tx.toArray⟩) ++ ⟨#[32, 43, 32]⟩) ++ ⟨ty.toArray⟩) ++ ⟨#[41]⟩)) (fun u h => Option.some.inj (show some (.string (((((⟨#[40]⟩ : ByteArray) ++ ⟨tx.toArray⟩) ++ ⟨#[32, 43, 32]⟩) ++ ⟨ty.toArray⟩) ++ ⟨#[41]⟩)) = some u from h)) trivial
   clear R
   rw [e12]
   go_simp
   exact hK.out _ _ ⟨_, by simp [upd, e12], R'⟩
  ·obtain rfl := Option.some.inj ho
   have e13 : c 13 = .string (((((⟨#[40]⟩ : ByteArray) ++ ⟨tx.toArray⟩) ++ ⟨#[32, 43, 32]⟩) ++ ⟨ty.toArray⟩) ++ ⟨#[41]⟩) := R.plain 13 _ (hdep ⟨13, .data⟩ (by simp) rfl) rfl
   have R' := R.made hst hn (fun j hj => by simp [wvD] at hj; subst hj; exact hdep ⟨_, .data⟩ (by simp) rfl) (Below.refl _ _) (v := .string (((((⟨#[40]⟩ : ByteArray) ++ ⟨tx.toArray⟩) ++ ⟨#[32, 43, 32]⟩) ++ ⟨ty.toArray⟩) ++ ⟨#[41]⟩)) (fun u h => Option.some.inj (show some (.string (((((⟨#[40]⟩ : ByteArray) ++ ⟨tx.toArray⟩) ++ ⟨#[32, 43, 32]⟩) ++ ⟨ty.toArray⟩) ++ ⟨#[41]⟩)) = some u from h)) trivial
   clear R
   rw [e13]
   go_simp
   exact hK.out _ _ ⟨_, by simp [upd, e13], R'⟩
 rintro L a' w2 ⟨c, rfl, R⟩ hall
 have e14 : c 14 = .string (((((⟨#[40]⟩ : ByteArray) ++ ⟨tx.toArray⟩) ++ ⟨#[32, 43, 32]⟩) ++ ⟨ty.toArray⟩) ++ ⟨#[41]⟩) := R.plain 14 _ (hall 14 (by decide)) rfl
 have hb2 := hide (HB1.out.trans (R.below.mono HB1.out.size))
 clear R hall
 rw [e14]
 have eS : ((((((⟨#[40]⟩ : ByteArray) ++ ⟨tx.toArray⟩) ++ ⟨#[32, 43, 32]⟩) ++ ⟨ty.toArray⟩) ++ ⟨#[41]⟩) : ByteArray) = ⟨(40 :: (tx ++ (spacedB false ++ (ty ++ [41])))).toArray⟩ := by
  apply ByteArray.ext
  simp [spacedB, signB]
 rw [eS]
 go_wp2
 go_ret
 exact ⟨rfl, hb2.out⟩

set_option linter.unusedSimpArgs false in
set_option maxRecDepth 100000 in
set_option maxHeartbeats 3200000 in
theorem wroteR_meet (w : World) (x y : Ex) (cs : List Value) (tx ty : List UInt8) (hlx : tx.length ≤ 1000000) (hly : ty.length ≤ 1000000) (d : Nat) (h : ExD w (d + 1) (.mk (3) 0 ⟨#[]⟩ [x, y]) cs)
  (hx : ∀ W ys, ExD W d x ys → Calls Tryd.prog 11 #[.agg ys.toArray] W fun e w' => e = .returned (strV tx) ∧ Below W.heap.size W w')
  (hy : ∀ W ys, ExD W d y ys → Calls Tryd.prog 11 #[.agg ys.toArray] W fun e w' => e = .returned (strV ty) ∧ Below W.heap.size W w') :
  Calls Tryd.prog 11 #[.agg cs.toArray] w fun e w' => e = .returned (strV (40 :: (tx ++ (spacedB true ++ (ty ++ [41]))))) ∧ Below w.heap.size w w' := by
 obtain ⟨d', o, cap, ed, rfl, -, hat⟩ := h.shape
 obtain rfl : d = d' := by omega
 obtain ⟨b, off, ys, k0, m0, z0, v0, rfl, hlt, rfl, hx0, c0, c1, c2, c3, -⟩ := hat 0 x rfl
 obtain ⟨b', off', ys, k1, m1, z1, v1, eb, -, rfl, hy0, d0, d1, d2, d3, -⟩ := hat 1 y rfl
 simp only [Option.some.injEq, Addr.mk.injEq, and_true] at eb
 obtain ⟨rfl, rfl⟩ := eb
 rw [show off + 0 * 4 = off by omega] at c0
 rw [show off + 0 * 4 + 1 = off + 1 by omega] at c1
 rw [show off + 0 * 4 + 2 = off + 2 by omega] at c2
 rw [show off + 0 * 4 + 3 = off + 3 by omega] at c3
 rw [show off + 1 * 4 = off + 4 by omega] at d0
 rw [show off + 1 * 4 + 1 = off + 5 by omega] at d1
 rw [show off + 1 * 4 + 2 = off + 6 by omega] at d2
 rw [show off + 1 * 4 + 3 = off + 7 by omega] at d3
 have hb1 := alloc_below w (.cells #[.int .i64 (3), .int .i64 0, .string ⟨#[]⟩, .slice (some ⟨b, off, none⟩) 2 cap] 24)
 have hX := ExB.new w (3) 0 ⟨#[]⟩ (.slice (some ⟨b, off, none⟩) 2 cap)
 have HTM : Hid (TwoM (w.alloc (.cells #[.int .i64 (3), .int .i64 0, .string ⟨#[]⟩, .slice (some ⟨b, off, none⟩) 2 cap] 24)) w.heap.size b off cap (3) k0 m0 k1 m1 z0 z1 v0 v1) :=
  ⟨by simp, Nat.lt_of_lt_of_le hlt hb1.size, hX.cells.1, hX.cells.2.2.2.1, TwoM.later_lt hlt c0 hb1, TwoM.later_lt hlt c1 hb1, TwoM.later_lt hlt c2 hb1, TwoM.later_lt hlt c3 hb1, TwoM.later_lt hlt d0 hb1, TwoM.later_lt hlt d1 hb1, TwoM.later_lt hlt d2 hb1, TwoM.later_lt hlt d3 hb1⟩
 have HX := hide (fun W (hb : Below w.heap.size w W) => hx W _ (hx0.below hb)); have HY := hide (fun W (hb : Below w.heap.size w W) => hy W _ (hy0.below hb)); have HB1 := hide hb1
 have hk := HTM.out.kind
 clear hx hy hx0 hy0 c0 c1 c2 c3 d0 d1 d2 d3 hat h hX hb1
 go_enter Tryd.func11, Tryd.ntmps11
 go_wp2_with fail
 refine region_inv (by kernel_rfl) (by kernel_rfl) (fun L a' w' => ∃ c : Nat → Value, a' = (⟨#[.agg (exC 3 0 ⟨#[]⟩ (.slice (some ⟨b, off, none⟩) 2 cap)).toArray, .pointer (some ⟨w.heap.size, 0, none⟩), c 14, .pointer (some ⟨w.heap.size, 0, none⟩), .int .i64 3, .bool false, .bool false, undef, undef, undef, undef, undef, undef, undef, undef, undef, undef, undef, undef, undef, undef, .bool true, .bool true, c 0, c 1, c 2, c 3, c 4, c 5, c 6, c 7, c 8, c 9, c 10, c 11, c 12, c 13, undef, undef, undef, undef, undef, undef, undef, undef, undef, undef, undef, undef, undef, undef, undef, undef], []⟩ : Act) ∧ FS wvD (fun i => List.getD [some (.pointer (some ⟨w.heap.size, 3, none⟩)), some (.slice (some ⟨b, off, none⟩) 2 cap), some (.pointer (some ⟨b, off, none⟩)), some (.agg #[.int .i64 k0, .int .i64 m0, .string z0, v0]), some (strV tx), some (.string ((⟨#[40]⟩ : ByteArray) ++ ⟨tx.toArray⟩)), some (.string (((⟨#[40]⟩ : ByteArray) ++ ⟨tx.toArray⟩) ++ ⟨#[32, 38, 32]⟩)), some (.pointer (some ⟨w.heap.size, 3, none⟩)), some (.slice (some ⟨b, off, none⟩) 2 cap), some (.pointer (some ⟨b, off + 4, none⟩)), some (.agg #[.int .i64 k1, .int .i64 m1, .string z1, v1]), some (strV ty), some (.string ((((⟨#[40]⟩ : ByteArray) ++ ⟨tx.toArray⟩) ++ ⟨#[32, 38, 32]⟩) ++ ⟨ty.toArray⟩)), some (.string (((((⟨#[40]⟩ : ByteArray) ++ ⟨tx.toArray⟩) ++ ⟨#[32, 38, 32]⟩) ++ ⟨ty.toArray⟩) ++ ⟨#[41]⟩)), some (.string (((((⟨#[40]⟩ : ByteArray) ++ ⟨tx.toArray⟩) ++ ⟨#[32, 38, 32]⟩) ++ ⟨ty.toArray⟩) ++ ⟨#[41]⟩))] i none) wvS (w.alloc (.cells #[.int .i64 3, .int .i64 0, .string ⟨#[]⟩, .slice (some ⟨b, off, none⟩) 2 cap] 24)) L c w') ⟨fun i => List.getD [undef, undef, undef, undef, undef, undef, undef, undef, undef, undef, undef, undef, undef, undef, .string ⟨#[]⟩] i undef, rfl, FS.start _ _ _⟩ ?_ ?_
 ·rintro L a' w' i o ⟨c, rfl, R⟩ ho hn hdep K hK
  have hi : i < 15 := (Array.getElem?_eq_some_iff.1 ho).1
  have hst := wvStays
  have TM := hide (HTM.out.later R.below)
  have HBW := hide (HB1.out.trans (R.below.mono HB1.out.size))
  rcases (by omega : i = 0 ∨ i = 1 ∨ i = 2 ∨ i = 3 ∨ i = 4 ∨ i = 5 ∨ i = 6 ∨ i = 7 ∨ i = 8 ∨ i = 9 ∨ i = 10 ∨ i = 11 ∨ i = 12 ∨ i = 13 ∨ i = 14) with rfl | rfl | rfl | rfl | rfl | rfl | rfl | rfl | rfl | rfl | rfl | rfl | rfl | rfl | rfl
  ·obtain rfl := Option.some.inj ho
   have R' := R.made hst hn (fun j hj => absurd hj (by simp [wvD])) (Below.refl _ _) (v := .pointer (some ⟨w.heap.size, 3, none⟩)) (fun u h => Option.some.inj (show some (.pointer (some ⟨w.heap.size, 3, none⟩)) = some u from h)) trivial
   clear R
   go_simp
   exact hK.out _ _ ⟨_, by simp [upd], R'⟩
  ·obtain rfl := Option.some.inj ho
   have e0 : c 0 = .pointer (some ⟨w.heap.size, 3, none⟩) := R.plain 0 _ (hdep ⟨0, .data⟩ (by simp) rfl) rfl
   have t := TM.out.list
   have R' := R.made hst hn (fun j hj => by simp [wvD] at hj; subst hj; exact hdep ⟨_, .data⟩ (by simp) rfl) (Below.refl _ _) (v := .slice (some ⟨b, off, none⟩) 2 cap) (fun u h => Option.some.inj (show some (.slice (some ⟨b, off, none⟩) 2 cap) = some u from h)) trivial
   clear R
   rw [e0]
   go_simp
   exact hK.out _ _ ⟨_, by simp [upd, e0], R'⟩
  ·obtain rfl := Option.some.inj ho
   have e1 : c 1 = .slice (some ⟨b, off, none⟩) 2 cap := R.plain 1 _ (hdep ⟨1, .data⟩ (by simp) rfl) rfl
   have R' := R.made hst hn (fun j hj => by simp [wvD] at hj; subst hj; exact hdep ⟨_, .data⟩ (by simp) rfl) (Below.refl _ _) (v := .pointer (some ⟨b, off, none⟩)) (fun u h => Option.some.inj (show some (.pointer (some ⟨b, off, none⟩)) = some u from h)) trivial
   clear R
   rw [e1]
   go_simp
   exact hK.out _ _ ⟨_, by simp [upd, e1], R'⟩
  ·obtain rfl := Option.some.inj ho
   have e2 : c 2 = .pointer (some ⟨b, off, none⟩) := R.plain 2 _ (hdep ⟨2, .data⟩ (by simp) rfl) rfl
   have t0 := TM.out.c0; have t1 := TM.out.c1; have t2 := TM.out.c2; have t3 := TM.out.c3
   have R' := R.made hst hn (fun j hj => by simp [wvD] at hj; subst hj; exact hdep ⟨_, .data⟩ (by simp) rfl) (Below.refl _ _) (v := .agg #[.int .i64 k0, .int .i64 m0, .string z0, v0]) (fun u h => Option.some.inj (show some (.agg #[.int .i64 k0, .int .i64 m0, .string z0, v0]) = some u from h)) trivial
   clear R
   rw [e2]
   go_simp
   exact hK.out _ _ ⟨_, by simp [upd, e2], R'⟩
  ·obtain rfl := Option.some.inj ho
   have e3 : c 3 = .agg #[.int .i64 k0, .int .i64 m0, .string z0, v0] := R.plain 3 _ (hdep ⟨3, .data⟩ (by simp) rfl) rfl
   rw [e3]
   go_simp
   refine (HX.out w' HBW.out).mono ?_
   rintro e w2 ⟨rfl, hb2⟩
   have R' := R.made hst hn (fun j hj => by simp [wvD] at hj; subst hj; exact hdep ⟨_, .data⟩ (by simp) rfl) hb2 (v := strV tx) (fun u h => Option.some.inj h) trivial
   clear R
   go_wp2_with fail
   exact hK.out _ _ ⟨_, by simp [upd, e3], R'⟩
  ·obtain rfl := Option.some.inj ho
   have e4 : c 4 = strV tx := R.plain 4 _ (hdep ⟨4, .data⟩ (by simp) rfl) rfl
   have hq : ¬ (9223372036854775807 < 1 + tx.length) := by omega
   have R' := R.made hst hn (fun j hj => by simp [wvD] at hj; subst hj; exact hdep ⟨_, .data⟩ (by simp) rfl) (Below.refl _ _) (v := .string ((⟨#[40]⟩ : ByteArray) ++ ⟨tx.toArray⟩)) (fun u h => Option.some.inj (show some (.string ((⟨#[40]⟩ : ByteArray) ++ ⟨tx.toArray⟩)) = some u from h)) trivial
   clear R
   rw [e4]
   go_simp
   exact hK.out _ _ ⟨_, by simp [upd, e4], R'⟩
  ·obtain rfl := Option.some.inj ho
   have e5 : c 5 = .string ((⟨#[40]⟩ : ByteArray) ++ ⟨tx.toArray⟩) := R.plain 5 _ (hdep ⟨5, .data⟩ (by simp) rfl) rfl
   have hq : ¬ (9223372036854775807 < 1 + tx.length + 3) := by omega
   have R' := R.made hst hn (fun j hj => by simp [wvD] at hj; subst hj; exact hdep ⟨_, .data⟩ (by simp) rfl) (Below.refl _ _) (v := .string (((⟨#[40]⟩ : ByteArray) ++ ⟨tx.toArray⟩) ++ ⟨#[32, 38, 32]⟩)) (fun u h => Option.some.inj (show some (.string (((⟨#[40]⟩ : ByteArray) ++ ⟨tx.toArray⟩) ++ ⟨#[32, 38, 32]⟩)) = some u from h)) trivial
   clear R
   rw [e5]
   go_simp
   exact hK.out _ _ ⟨_, by simp [upd, e5], R'⟩
  ·obtain rfl := Option.some.inj ho
   have R' := R.made hst hn (fun j hj => absurd hj (by simp [wvD])) (Below.refl _ _) (v := .pointer (some ⟨w.heap.size, 3, none⟩)) (fun u h => Option.some.inj (show some (.pointer (some ⟨w.heap.size, 3, none⟩)) = some u from h)) trivial
   clear R
   go_simp
   exact hK.out _ _ ⟨_, by simp [upd], R'⟩
  ·obtain rfl := Option.some.inj ho
   have e7 : c 7 = .pointer (some ⟨w.heap.size, 3, none⟩) := R.plain 7 _ (hdep ⟨7, .data⟩ (by simp) rfl) rfl
   have t := TM.out.list
   have R' := R.made hst hn (fun j hj => by simp [wvD] at hj; subst hj; exact hdep ⟨_, .data⟩ (by simp) rfl) (Below.refl _ _) (v := .slice (some ⟨b, off, none⟩) 2 cap) (fun u h => Option.some.inj (show some (.slice (some ⟨b, off, none⟩) 2 cap) = some u from h)) trivial
   clear R
   rw [e7]
   go_simp
   exact hK.out _ _ ⟨_, by simp [upd, e7], R'⟩
  ·obtain rfl := Option.some.inj ho
   have e8 : c 8 = .slice (some ⟨b, off, none⟩) 2 cap := R.plain 8 _ (hdep ⟨8, .data⟩ (by simp) rfl) rfl
   have R' := R.made hst hn (fun j hj => by simp [wvD] at hj; subst hj; exact hdep ⟨_, .data⟩ (by simp) rfl) (Below.refl _ _) (v := .pointer (some ⟨b, off + 4, none⟩)) (fun u h => Option.some.inj (show some (.pointer (some ⟨b, off + 4, none⟩)) = some u from h)) trivial
   clear R
   rw [e8]
   go_simp
   exact hK.out _ _ ⟨_, by simp [upd, e8], R'⟩
  ·obtain rfl := Option.some.inj ho
   have e9 : c 9 = .pointer (some ⟨b, off + 4, none⟩) := R.plain 9 _ (hdep ⟨9, .data⟩ (by simp) rfl) rfl
   have t0 := TM.out.d0; have t1 := TM.out.d1; have t2 := TM.out.d2; have t3 := TM.out.d3
   have R' := R.made hst hn (fun j hj => by simp [wvD] at hj; subst hj; exact hdep ⟨_, .data⟩ (by simp) rfl) (Below.refl _ _) (v := .agg #[.int .i64 k1, .int .i64 m1, .string z1, v1]) (fun u h => Option.some.inj (show some (.agg #[.int .i64 k1, .int .i64 m1, .string z1, v1]) = some u from h)) trivial
   clear R
   rw [e9]
   go_simp
   exact hK.out _ _ ⟨_, by simp [upd, e9], R'⟩
  ·obtain rfl := Option.some.inj ho
   have e10 : c 10 = .agg #[.int .i64 k1, .int .i64 m1, .string z1, v1] := R.plain 10 _ (hdep ⟨10, .data⟩ (by simp) rfl) rfl
   rw [e10]
   go_simp
   refine (HY.out w' HBW.out).mono ?_
   rintro e w2 ⟨rfl, hb2⟩
   have R' := R.made hst hn (fun j hj => by simp [wvD] at hj; subst hj; exact hdep ⟨_, .data⟩ (by simp) rfl) hb2 (v := strV ty) (fun u h => Option.some.inj h) trivial
   clear R
   go_wp2_with fail
   exact hK.out _ _ ⟨_, by simp [upd, e10], R'⟩
  ·obtain rfl := Option.some.inj ho
   have e6 : c 6 = .string (((⟨#[40]⟩ : ByteArray) ++ ⟨tx.toArray⟩) ++ ⟨#[32, 38, 32]⟩) := R.plain 6 _ (hdep ⟨6, .data⟩ (by simp) rfl) rfl
   have e11 : c 11 = strV ty := R.plain 11 _ (hdep ⟨11, .data⟩ (by simp) rfl) rfl
   have hq : ¬ (9223372036854775807 < 1 + tx.length + 3 + ty.length) := by omega
   have R' := R.made hst hn (fun j hj => by simp [wvD] at hj; rcases hj with rfl | rfl <;> exact hdep ⟨_, .data⟩ (by simp) rfl) (Below.refl _ _) (v := .string ((((⟨#[40]⟩ : ByteArray) ++ ⟨tx.toArray⟩) ++ ⟨#[32, 38, 32]⟩) ++ ⟨ty.toArray⟩)) (fun u h => Option.some.inj (show some (.string ((((⟨#[40]⟩ : ByteArray) ++ ⟨tx.toArray⟩) ++ ⟨#[32, 38, 32]⟩) ++ ⟨ty.toArray⟩)) = some u from h)) trivial
   clear R
   rw [e6, e11]
   go_simp
   exact hK.out _ _ ⟨_, by simp [upd, e6, e11], R'⟩
  ·obtain rfl := Option.some.inj ho
   have e12 : c 12 = .string ((((⟨#[40]⟩ : ByteArray) ++ ⟨tx.toArray⟩) ++ ⟨#[32, 38, 32]⟩) ++ ⟨ty.toArray⟩) := R.plain 12 _ (hdep ⟨12, .data⟩ (by simp) rfl) rfl
   have hq : ¬ (9223372036854775807 < 1 + tx.length + 3 + ty.length + 1) := by omega
   have R' := R.made hst hn (fun j hj => by simp [wvD] at hj; subst hj; exact hdep ⟨_, .data⟩ (by simp) rfl) (Below.refl _ _) (v := .string (((((⟨#[40]⟩ : ByteArray) ++ ⟨tx.toArray⟩) ++ ⟨#[32, 38, 32]⟩) ++ ⟨ty.toArray⟩) ++ ⟨#[41]⟩)) (fun u h => Option.some.inj (show some (.string (((((⟨#[40]⟩ : ByteArray) ++ ⟨tx.toArray⟩) ++ ⟨#[32, 38, 32]⟩) ++ ⟨ty.toArray⟩) ++ ⟨#[41]⟩)) = some u from h)) trivial
   clear R
   rw [e12]
   go_simp
   exact hK.out _ _ ⟨_, by simp [upd, e12], R'⟩
  ·obtain rfl := Option.some.inj ho
   have e13 : c 13 = .string (((((⟨#[40]⟩ : ByteArray) ++ ⟨tx.toArray⟩) ++ ⟨#[32, 38, 32]⟩) ++ ⟨ty.toArray⟩) ++ ⟨#[41]⟩) := R.plain 13 _ (hdep ⟨13, .data⟩ (by simp) rfl) rfl
   have R' := R.made hst hn (fun j hj => by simp [wvD] at hj; subst hj; exact hdep ⟨_, .data⟩ (by simp) rfl) (Below.refl _ _) (v := .string (((((⟨#[40]⟩ : ByteArray) ++ ⟨tx.toArray⟩) ++ ⟨#[32, 38, 32]⟩) ++ ⟨ty.toArray⟩) ++ ⟨#[41]⟩)) (fun u h => Option.some.inj (show some (.string (((((⟨#[40]⟩ : ByteArray) ++ ⟨tx.toArray⟩) ++ ⟨#[32, 38, 32]⟩) ++ ⟨ty.toArray⟩) ++ ⟨#[41]⟩)) = some u from h)) trivial
   clear R
   rw [e13]
   go_simp
   exact hK.out _ _ ⟨_, by simp [upd, e13], R'⟩
 rintro L a' w2 ⟨c, rfl, R⟩ hall
 have e14 : c 14 = .string (((((⟨#[40]⟩ : ByteArray) ++ ⟨tx.toArray⟩) ++ ⟨#[32, 38, 32]⟩) ++ ⟨ty.toArray⟩) ++ ⟨#[41]⟩) := R.plain 14 _ (hall 14 (by decide)) rfl
 have hb2 := hide (HB1.out.trans (R.below.mono HB1.out.size))
 clear R hall
 rw [e14]
 have eS : ((((((⟨#[40]⟩ : ByteArray) ++ ⟨tx.toArray⟩) ++ ⟨#[32, 38, 32]⟩) ++ ⟨ty.toArray⟩) ++ ⟨#[41]⟩) : ByteArray) = ⟨(40 :: (tx ++ (spacedB true ++ (ty ++ [41])))).toArray⟩ := by
  apply ByteArray.ext
  simp [spacedB, signB]
 rw [eS]
 go_wp2
 go_ret
 exact ⟨rfl, hb2.out⟩

end Go.Proofs.YtanjajjjancggaaDoor
