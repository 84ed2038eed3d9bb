/- package query: an expression's text. -/
import Derived.Test.YtanjajjjancggaaDoorQxE
import Derived.Test.YtanjajjjancggaaDoorSwap
import Derived.Laws.IdiomStrings
import Derived.Lib.Strings

namespace Go.Proofs.YtanjajjjancggaaDoor
open Go.RowKit

@[reducible] def strV (l : List UInt8) : Value := .string ⟨l.toArray⟩

theorem strV_of (s : ByteArray) : strV s.data.toList = .string s := by
 unfold strV
 rw [Array.toArray_toList]

set_option linter.unusedSimpArgs false in
set_option maxRecDepth 100000 in
theorem spaced_any (w : World) (b : UInt8) : Calls Tryd.prog 26 #[.int .u8 (b.toNat : Int)] w fun e w' => e = .returned (strV [32, b, 32]) ∧ Below w.heap.size w w' := by
 have hb := alloc_below w (.cells #[.int .u8 32, .int .u8 (b.toNat : Int), .int .u8 32] 5)
 have hc := run_convert_bytes_back (P := Tryd.prog) (w.alloc (.cells #[.int .u8 32, .int .u8 (b.toNat : Int), .int .u8 32] 5)) 67 9 5 ⟨w.heap.size, 0, none⟩ 3 [32, b, 32] Tryd.underlying67 Tryd.underlying5 Tryd.underlying9 (fun j hj => by
  have hh := heap_alloc_new w (.cells #[.int .u8 32, .int .u8 (b.toNat : Int), .int .u8 32] 5)
  have e : (⟨w.heap.size, 0, none⟩ : Addr).add j = ⟨w.heap.size, j, none⟩ := by unfold Addr.add; split <;> simp_all
  rw [e, cell_of_row _ _ _ _ _ _ hh]
  match j, hj with
  | 0, _ => rfl
  | 1, _ => rfl
  | 2, _ => rfl)
 rw [show ([32, b, 32] : List UInt8).length = 3 from rfl] at hc
 have HB := hide hb
 clear hb
 go_enter Tryd.func26, Tryd.ntmps26
 go_wp2
 go_ret
 exact ⟨rfl, HB.out⟩

theorem TwoM.later_lt {W W' : World} {b k : Nat} {v : Value} (hl : b < W.heap.size) (h : W.cell? ⟨b, k, none⟩ = some v) (hb : Below W.heap.size W W') : W'.cell? ⟨b, k, none⟩ = some v := (hb.cell (p := ⟨b, k, none⟩) hl).trans h

structure TwoM (W : World) (B b off cap : Nat) (k k0 m0 k1 m1 : Int) (z0 z1 : ByteArray) (v0 v1 : Value) : Prop where
 lB : B < W.heap.size
 lb : b < W.heap.size
 kind : W.cell? ⟨B, 0, none⟩ = some (.int .i64 k)
 list : W.cell? ⟨B, 3, none⟩ = some (.slice (some ⟨b, off, none⟩) 2 cap)
 c0 : W.cell? ⟨b, off, none⟩ = some (.int .i64 k0)
 c1 : W.cell? ⟨b, off + 1, none⟩ = some (.int .i64 m0)
 c2 : W.cell? ⟨b, off + 2, none⟩ = some (.string z0)
 c3 : W.cell? ⟨b, off + 3, none⟩ = some v0
 d0 : W.cell? ⟨b, off + 4, none⟩ = some (.int .i64 k1)
 d1 : W.cell? ⟨b, off + 5, none⟩ = some (.int .i64 m1)
 d2 : W.cell? ⟨b, off + 6, none⟩ = some (.string z1)
 d3 : W.cell? ⟨b, off + 7, none⟩ = some v1

theorem TwoM.later {W W' : World} {B b off cap : Nat} {k k0 m0 k1 m1 : Int} {z0 z1 : ByteArray} {v0 v1 : Value} (h : TwoM W B b off cap k k0 m0 k1 m1 z0 z1 v0 v1) (hb : Below W.heap.size W W') : TwoM W' B b off cap k k0 m0 k1 m1 z0 z1 v0 v1 :=
 ⟨Nat.lt_of_lt_of_le h.lB hb.size, Nat.lt_of_lt_of_le h.lb hb.size, TwoM.later_lt h.lB h.kind hb, TwoM.later_lt h.lB h.list hb, TwoM.later_lt h.lb h.c0 hb, TwoM.later_lt h.lb h.c1 hb, TwoM.later_lt h.lb h.c2 hb, TwoM.later_lt h.lb h.c3 hb, TwoM.later_lt h.lb h.d0 hb, TwoM.later_lt h.lb h.d1 hb, TwoM.later_lt h.lb h.d2 hb, TwoM.later_lt h.lb h.d3 hb⟩

def wrD : Nat → List Nat
 | 1 => [0] | 2 => [1] | 3 => [2] | 4 => [3] | 5 => [4] | 8 => [7] | 9 => [6, 8] | 10 => [9] | 11 => [5, 10] | 13 => [12] | 14 => [13] | 15 => [14] | 16 => [15] | 17 => [11, 16] | 18 => [17] | 19 => [18]
 | _ => []

def wrS (i : Nat) (c : Nat → Value) (W : World) : Prop := i = 6 → ∃ b, c 6 = .map (some b) ∧ SgM W b

theorem wrStays : Stays wrD wrS where
 later := fun i c W W' hb h e => by
  obtain ⟨b, h1, h2⟩ := h e
  exact ⟨b, h1, h2.later hb⟩
 other := fun i j c v W hji hd h e => by
  obtain ⟨b, h1, h2⟩ := h e
  subst e
  exact ⟨b, by rw [upd_ne _ _ hji]; exact h1, h2⟩

set_option linter.unusedSimpArgs false in
set_option maxRecDepth 100000 in
set_option maxHeartbeats 3200000 in
theorem written_two (w : World) (k : Bool) (x y : Ex) (cs : List Value) (tx ty : List UInt8) (hlx : tx.length ≤ 1000000) (hly : ty.length ≤ 1000000) (d : Nat) (h : ExD w (d + 1) (.mk (kindQ k) 0 ⟨#[]⟩ [x, y]) cs)
  (hx : ∀ W ys, ExD W d x ys → Calls Tryd.prog 18 #[.agg ys.toArray] W fun e w' => e = .returned (strV tx) ∧ Below W.heap.size W w')
  (hy : ∀ W ys, ExD W d y ys → Calls Tryd.prog 18 #[.agg ys.toArray] W fun e w' => e = .returned (strV ty) ∧ Below W.heap.size W w') :
  Calls Tryd.prog 18 #[.agg cs.toArray] w fun e w' => e = .returned (strV (40 :: (tx ++ (spacedB k ++ (ty ++ [41]))))) ∧ Below w.heap.size w w' := by
 obtain ⟨d', o, cap, ed, rfl, -, hat⟩ := h.shape
 obtain rfl : d = d' := by omega
 obtain ⟨b, off, ys, k0, m0, z0, v0, rfl, hlt, rfl, hx0, c0, c1, c2, c3, -⟩ := hat 0 x rfl
 obtain ⟨b', off', ys, k1, m1, z1, v1, eb, -, rfl, hy0, d0, d1, d2, d3, -⟩ := hat 1 y rfl
 simp only [Option.some.injEq, Addr.mk.injEq, and_true] at eb
 obtain ⟨rfl, rfl⟩ := eb
 rw [show off + 0 * 4 = off by omega] at c0
 rw [show off + 0 * 4 + 1 = off + 1 by omega] at c1
 rw [show off + 0 * 4 + 2 = off + 2 by omega] at c2
 rw [show off + 0 * 4 + 3 = off + 3 by omega] at c3
 rw [show off + 1 * 4 = off + 4 by omega] at d0
 rw [show off + 1 * 4 + 1 = off + 5 by omega] at d1
 rw [show off + 1 * 4 + 2 = off + 6 by omega] at d2
 rw [show off + 1 * 4 + 3 = off + 7 by omega] at d3
 have hb1 := alloc_below w (.cells #[.int .i64 (kindQ k), .int .i64 0, .string ⟨#[]⟩, .slice (some ⟨b, off, none⟩) 2 cap] 24)
 have hX := ExB.new w (kindQ k) 0 ⟨#[]⟩ (.slice (some ⟨b, off, none⟩) 2 cap)
 have HTM : Hid (TwoM (w.alloc (.cells #[.int .i64 (kindQ k), .int .i64 0, .string ⟨#[]⟩, .slice (some ⟨b, off, none⟩) 2 cap] 24)) w.heap.size b off cap (kindQ k) k0 m0 k1 m1 z0 z1 v0 v1) :=
  ⟨by simp, Nat.lt_of_lt_of_le hlt hb1.size, hX.cells.1, hX.cells.2.2.2.1, TwoM.later_lt hlt c0 hb1, TwoM.later_lt hlt c1 hb1, TwoM.later_lt hlt c2 hb1, TwoM.later_lt hlt c3 hb1, TwoM.later_lt hlt d0 hb1, TwoM.later_lt hlt d1 hb1, TwoM.later_lt hlt d2 hb1, TwoM.later_lt hlt d3 hb1⟩
 have HX := hide (fun W (hb : Below w.heap.size w W) => hx W _ (hx0.below hb)); have HY := hide (fun W (hb : Below w.heap.size w W) => hy W _ (hy0.below hb)); have HB1 := hide hb1
 have hk := HTM.out.kind
 clear hx hy hx0 hy0 c0 c1 c2 c3 d0 d1 d2 d3 hat h hX hb1
 have g1 : (kindQ k == 1) = false := by cases k <;> rfl
 have g4 : (kindQ k == 4) = false := by cases k <;> rfl
 have g5 : (kindQ k == 5) = false := by cases k <;> rfl
 generalize hkk : kindQ k = kk at *
 have HKK := hide hkk
 clear hkk
 go_enter Tryd.func18, Tryd.ntmps18
 go_wp2_with fail
 refine region_inv (by kernel_rfl) (by kernel_rfl) (fun L a' w' => ∃ c : Nat → Value, a' = (⟨#[.agg (exC kk 0 ⟨#[]⟩ (.slice (some ⟨b, off, none⟩) 2 cap)).toArray, .pointer (some ⟨w.heap.size, 0, none⟩), c 19, .pointer (some ⟨w.heap.size, 0, none⟩), .int .i64 kk, .bool false, .bool false, undef, undef, .bool false, .bool false, undef, undef, undef, undef, undef, undef, .bool false, .bool false, undef, undef, undef, undef, c 0, c 1, c 2, c 3, c 4, c 5, c 6, c 7, c 8, c 9, c 10, c 11, c 12, c 13, c 14, c 15, c 16, c 17, c 18], []⟩ : Act) ∧ FS wrD (fun i => List.getD [some (.pointer (some ⟨w.heap.size, 3, none⟩)), some (.slice (some ⟨b, off, none⟩) 2 cap), some (.pointer (some ⟨b, off, none⟩)), some (.agg #[.int .i64 k0, .int .i64 m0, .string z0, v0]), some (strV tx), some (.string ((⟨#[40]⟩ : ByteArray) ++ ⟨tx.toArray⟩)), none, some (.pointer (some ⟨w.heap.size, 0, none⟩)), some (.int .i64 kk), some (.int .u8 ((signB k).toNat : Int)), some (strV [32, signB k, 32]), some (.string (((⟨#[40]⟩ : ByteArray) ++ ⟨tx.toArray⟩) ++ ⟨#[32, signB k, 32]⟩)), some (.pointer (some ⟨w.heap.size, 3, none⟩)), some (.slice (some ⟨b, off, none⟩) 2 cap), some (.pointer (some ⟨b, off + 4, none⟩)), some (.agg #[.int .i64 k1, .int .i64 m1, .string z1, v1]), some (strV ty), some (.string ((((⟨#[40]⟩ : ByteArray) ++ ⟨tx.toArray⟩) ++ ⟨#[32, signB k, 32]⟩) ++ ⟨ty.toArray⟩)), some (.string (((((⟨#[40]⟩ : ByteArray) ++ ⟨tx.toArray⟩) ++ ⟨#[32, signB k, 32]⟩) ++ ⟨ty.toArray⟩) ++ ⟨#[41]⟩)), some (.string (((((⟨#[40]⟩ : ByteArray) ++ ⟨tx.toArray⟩) ++ ⟨#[32, signB k, 32]⟩) ++ ⟨ty.toArray⟩) ++ ⟨#[41]⟩))] i none) wrS (w.alloc (.cells #[.int .i64 kk, .int .i64 0, .string ⟨#[]⟩, .slice (some ⟨b, off, none⟩) 2 cap] 24)) L c w') ⟨fun i => List.getD [undef, undef, undef, undef, undef, undef, undef, undef, undef, undef, undef, undef, undef, undef, undef, undef, undef, undef, undef, .string ⟨#[]⟩] i undef, rfl, FS.start _ _ _⟩ ?_ ?_
 ·rintro L a' w' i o ⟨c, rfl, R⟩ ho hn hdep K hK
  have hi : i < 20 := (Array.getElem?_eq_some_iff.1 ho).1
  have hst := wrStays
  have TM := hide (HTM.out.later R.below)
  have HBW := hide (HB1.out.trans (R.below.mono HB1.out.size))
  rcases (by omega : i = 0 ∨ i = 1 ∨ i = 2 ∨ i = 3 ∨ i = 4 ∨ i = 5 ∨ i = 6 ∨ i = 7 ∨ i = 8 ∨ i = 9 ∨ i = 10 ∨ i = 11 ∨ i = 12 ∨ i = 13 ∨ i = 14 ∨ i = 15 ∨ i = 16 ∨ i = 17 ∨ i = 18 ∨ i = 19) with rfl | rfl | rfl | rfl | rfl | rfl | rfl | rfl | rfl | rfl | rfl | rfl | rfl | rfl | rfl | rfl | rfl | rfl | rfl | rfl
  ·obtain rfl := Option.some.inj ho
   have R' := R.made hst hn (fun j hj => absurd hj (by simp [wrD])) (Below.refl _ _) (v := .pointer (some ⟨w.heap.size, 3, none⟩)) (fun u h => Option.some.inj (show some (.pointer (some ⟨w.heap.size, 3, none⟩)) = some u from h)) (fun e => absurd e (by decide))
   clear R
   go_simp
   exact hK.out _ _ ⟨_, by simp [upd], R'⟩
  ·obtain rfl := Option.some.inj ho
   have e0 : c 0 = .pointer (some ⟨w.heap.size, 3, none⟩) := R.plain 0 _ (hdep ⟨0, .data⟩ (by simp) rfl) rfl
   have t := TM.out.list
   have R' := R.made hst hn (fun j hj => by simp [wrD] at hj; subst hj; exact hdep ⟨_, .data⟩ (by simp) rfl) (Below.refl _ _) (v := .slice (some ⟨b, off, none⟩) 2 cap) (fun u h => Option.some.inj (show some (.slice (some ⟨b, off, none⟩) 2 cap) = some u from h)) (fun e => absurd e (by decide))
   clear R
   rw [e0]
   go_simp
   exact hK.out _ _ ⟨_, by simp [upd, e0], R'⟩
  ·obtain rfl := Option.some.inj ho
   have e1 : c 1 = .slice (some ⟨b, off, none⟩) 2 cap := R.plain 1 _ (hdep ⟨1, .data⟩ (by simp) rfl) rfl
   have R' := R.made hst hn (fun j hj => by simp [wrD] at hj; subst hj; exact hdep ⟨_, .data⟩ (by simp) rfl) (Below.refl _ _) (v := .pointer (some ⟨b, off, none⟩)) (fun u h => Option.some.inj (show some (.pointer (some ⟨b, off, none⟩)) = some u from h)) (fun e => absurd e (by decide))
   clear R
   rw [e1]
   go_simp
   exact hK.out _ _ ⟨_, by simp [upd, e1], R'⟩
  ·obtain rfl := Option.some.inj ho
   have e2 : c 2 = .pointer (some ⟨b, off, none⟩) := R.plain 2 _ (hdep ⟨2, .data⟩ (by simp) rfl) rfl
   have t0 := TM.out.c0; have t1 := TM.out.c1; have t2 := TM.out.c2; have t3 := TM.out.c3
   have R' := R.made hst hn (fun j hj => by simp [wrD] at hj; subst hj; exact hdep ⟨_, .data⟩ (by simp) rfl) (Below.refl _ _) (v := .agg #[.int .i64 k0, .int .i64 m0, .string z0, v0]) (fun u h => Option.some.inj (show some (.agg #[.int .i64 k0, .int .i64 m0, .string z0, v0]) = some u from h)) (fun e => absurd e (by decide))
   clear R
   rw [e2]
   go_simp
   exact hK.out _ _ ⟨_, by simp [upd, e2], R'⟩
  ·obtain rfl := Option.some.inj ho
   have e3 : c 3 = .agg #[.int .i64 k0, .int .i64 m0, .string z0, v0] := R.plain 3 _ (hdep ⟨3, .data⟩ (by simp) rfl) rfl
   rw [e3]
   go_simp
   refine (HX.out w' HBW.out).mono ?_
   rintro e w2 ⟨rfl, hb2⟩
   have R' := R.made hst hn (fun j hj => by simp [wrD] at hj; subst hj; exact hdep ⟨_, .data⟩ (by simp) rfl) hb2 (v := strV tx) (fun u h => Option.some.inj h) (fun e => absurd e (by decide))
   clear R
   go_wp2_with fail
   exact hK.out _ _ ⟨_, by simp [upd, e3], R'⟩
  ·obtain rfl := Option.some.inj ho
   have e4 : c 4 = strV tx := R.plain 4 _ (hdep ⟨4, .data⟩ (by simp) rfl) rfl
   have hq : ¬ (9223372036854775807 < 1 + tx.length) := by omega
   have R' := R.made hst hn (fun j hj => by simp [wrD] at hj; subst hj; exact hdep ⟨_, .data⟩ (by simp) rfl) (Below.refl _ _) (v := .string ((⟨#[40]⟩ : ByteArray) ++ ⟨tx.toArray⟩)) (fun u h => Option.some.inj (show some (.string ((⟨#[40]⟩ : ByteArray) ++ ⟨tx.toArray⟩)) = some u from h)) (fun e => absurd e (by decide))
   clear R
   rw [e4]
   go_simp
   exact hK.out _ _ ⟨_, by simp [upd, e4], R'⟩
  ·obtain rfl := Option.some.inj ho
   go_simp
   refine (signs_any w').mono ?_
   rintro e w2 ⟨rfl, hm, hb2⟩
   have R' := R.made hst hn (fun j hj => absurd hj (by simp [wrD])) hb2 (v := .map (some w'.heap.size)) (fun u h => by cases h) (fun _ => ⟨_, upd_self .., hm⟩)
   clear R hm
   go_wp2_with fail
   exact hK.out _ _ ⟨_, by simp [upd], R'⟩
  ·obtain rfl := Option.some.inj ho
   have R' := R.made hst hn (fun j hj => absurd hj (by simp [wrD])) (Below.refl _ _) (v := .pointer (some ⟨w.heap.size, 0, none⟩)) (fun u h => Option.some.inj (show some (.pointer (some ⟨w.heap.size, 0, none⟩)) = some u from h)) (fun e => absurd e (by decide))
   clear R
   go_simp
   exact hK.out _ _ ⟨_, by simp [upd], R'⟩
  ·obtain rfl := Option.some.inj ho
   have e7 : c 7 = .pointer (some ⟨w.heap.size, 0, none⟩) := R.plain 7 _ (hdep ⟨7, .data⟩ (by simp) rfl) rfl
   have t := TM.out.kind
   have R' := R.made hst hn (fun j hj => by simp [wrD] at hj; subst hj; exact hdep ⟨_, .data⟩ (by simp) rfl) (Below.refl _ _) (v := .int .i64 kk) (fun u h => Option.some.inj (show some (.int .i64 kk) = some u from h)) (fun e => absurd e (by decide))
   clear R
   rw [e7]
   go_simp
   exact hK.out _ _ ⟨_, by simp [upd, e7], R'⟩
  ·obtain rfl := Option.some.inj ho
   have e8 : c 8 = .int .i64 kk := R.plain 8 _ (hdep ⟨8, .data⟩ (by simp) rfl) rfl
   obtain ⟨mb, e6, hm⟩ := R.spec 6 (hdep ⟨6, .data⟩ (by simp) rfl) rfl
   have hl := run_sign w' mb k hm
   rw [HKK.out] at hl
   have R' := R.made hst hn (fun j hj => by simp [wrD] at hj; rcases hj with rfl | rfl <;> exact hdep ⟨_, .data⟩ (by simp) rfl) (Below.refl _ _) (v := .int .u8 ((signB k).toNat : Int)) (fun u h => Option.some.inj h) (fun e => absurd e (by decide))
   clear R hm
   rw [e6, e8]
   go_simp
   exact hK.out _ _ ⟨_, by simp [upd, e6, e8], R'⟩
  ·obtain rfl := Option.some.inj ho
   have e9 : c 9 = .int .u8 ((signB k).toNat : Int) := R.plain 9 _ (hdep ⟨9, .data⟩ (by simp) rfl) rfl
   rw [e9]
   go_simp
   refine (spaced_any w' (signB k)).mono ?_
   rintro e w2 ⟨rfl, hb2⟩
   have R' := R.made hst hn (fun j hj => by simp [wrD] at hj; subst hj; exact hdep ⟨_, .data⟩ (by simp) rfl) hb2 (v := strV [32, signB k, 32]) (fun u h => Option.some.inj h) (fun e => absurd e (by decide))
   clear R
   go_wp2_with fail
   exact hK.out _ _ ⟨_, by simp [upd, e9], R'⟩
  ·obtain rfl := Option.some.inj ho
   have e5 : c 5 = .string ((⟨#[40]⟩ : ByteArray) ++ ⟨tx.toArray⟩) := R.plain 5 _ (hdep ⟨5, .data⟩ (by simp) rfl) rfl
   have e10 : c 10 = strV [32, signB k, 32] := R.plain 10 _ (hdep ⟨10, .data⟩ (by simp) rfl) rfl
   have hq : ¬ (9223372036854775807 < 1 + tx.length + 3) := by omega
   have R' := R.made hst hn (fun j hj => by simp [wrD] at hj; rcases hj with rfl | rfl <;> exact hdep ⟨_, .data⟩ (by simp) rfl) (Below.refl _ _) (v := .string (((⟨#[40]⟩ : ByteArray) ++ ⟨tx.toArray⟩) ++ ⟨#[32, signB k, 32]⟩)) (fun u h => Option.some.inj (show some (.string (((⟨#[40]⟩ : ByteArray) ++ ⟨tx.toArray⟩) ++ ⟨#[32, signB k, 32]⟩)) = some u from h)) (fun e => absurd e (by decide))
   clear R
   rw [e5, e10]
   go_simp
   exact hK.out _ _ ⟨_, by simp [upd, e5, e10], R'⟩
  ·obtain rfl := Option.some.inj ho
   have R' := R.made hst hn (fun j hj => absurd hj (by simp [wrD])) (Below.refl _ _) (v := .pointer (some ⟨w.heap.size, 3, none⟩)) (fun u h => Option.some.inj (show some (.pointer (some ⟨w.heap.size, 3, none⟩)) = some u from h)) (fun e => absurd e (by decide))
   clear R
   go_simp
   exact hK.out _ _ ⟨_, by simp [upd], R'⟩
  ·obtain rfl := Option.some.inj ho
   have e12 : c 12 = .pointer (some ⟨w.heap.size, 3, none⟩) := R.plain 12 _ (hdep ⟨12, .data⟩ (by simp) rfl) rfl
   have t := TM.out.list
   have R' := R.made hst hn (fun j hj => by simp [wrD] at hj; subst hj; exact hdep ⟨_, .data⟩ (by simp) rfl) (Below.refl _ _) (v := .slice (some ⟨b, off, none⟩) 2 cap) (fun u h => Option.some.inj (show some (.slice (some ⟨b, off, none⟩) 2 cap) = some u from h)) (fun e => absurd e (by decide))
   clear R
   rw [e12]
   go_simp
   exact hK.out _ _ ⟨_, by simp [upd, e12], R'⟩
  ·obtain rfl := Option.some.inj ho
   have e13 : c 13 = .slice (some ⟨b, off, none⟩) 2 cap := R.plain 13 _ (hdep ⟨13, .data⟩ (by simp) rfl) rfl
   have R' := R.made hst hn (fun j hj => by simp [wrD] at hj; subst hj; exact hdep ⟨_, .data⟩ (by simp) rfl) (Below.refl _ _) (v := .pointer (some ⟨b, off + 4, none⟩)) (fun u h => Option.some.inj (show some (.pointer (some ⟨b, off + 4, none⟩)) = some u from h)) (fun e => absurd e (by decide))
   clear R
   rw [e13]
   go_simp
   exact hK.out _ _ ⟨_, by simp [upd, e13], R'⟩
  ·obtain rfl := Option.some.inj ho
   have e14 : c 14 = .pointer (some ⟨b, off + 4, none⟩) := R.plain 14 _ (hdep ⟨14, .data⟩ (by simp) rfl) rfl
   have t0 := TM.out.d0; have t1 := TM.out.d1; have t2 := TM.out.d2; have t3 := TM.out.d3
   have R' := R.made hst hn (fun j hj => by simp [wrD] at hj; subst hj; exact hdep ⟨_, .data⟩ (by simp) rfl) (Below.refl _ _) (v := .agg #[.int .i64 k1, .int .i64 m1, .string z1, v1]) (fun u h => Option.some.inj (show some (.agg #[.int .i64 k1, .int .i64 m1, .string z1, v1]) = some u from h)) (fun e => absurd e (by decide))
   clear R
   rw [e14]
   go_simp
   exact hK.out _ _ ⟨_, by simp [upd, e14], R'⟩
  ·obtain rfl := Option.some.inj ho
   have e15 : c 15 = .agg #[.int .i64 k1, .int .i64 m1, .string z1, v1] := R.plain 15 _ (hdep ⟨15, .data⟩ (by simp) rfl) rfl
   rw [e15]
   go_simp
   refine (HY.out w' HBW.out).mono ?_
   rintro e w2 ⟨rfl, hb2⟩
   have R' := R.made hst hn (fun j hj => by simp [wrD] at hj; subst hj; exact hdep ⟨_, .data⟩ (by simp) rfl) hb2 (v := strV ty) (fun u h => Option.some.inj h) (fun e => absurd e (by decide))
   clear R
   go_wp2_with fail
   exact hK.out _ _ ⟨_, by simp [upd, e15], R'⟩
  ·obtain rfl := Option.some.inj ho
   have e11 : c 11 = .string (((⟨#[40]⟩ : ByteArray) ++ ⟨tx.toArray⟩) ++ ⟨#[32, signB k, 32]⟩) := R.plain 11 _ (hdep ⟨11, .data⟩ (by simp) rfl) rfl
   have e16 : c 16 = strV ty := R.plain 16 _ (hdep ⟨16, .data⟩ (by simp) rfl) rfl
   have hq : ¬ (9223372036854775807 < 1 + tx.length + 3 + ty.length) := by omega
   have R' := R.made hst hn (fun j hj => by simp [wrD] at hj; rcases hj with rfl | rfl <;> exact hdep ⟨_, .data⟩ (by simp) rfl) (Below.refl _ _) (v := .string ((((⟨#[40]⟩ : ByteArray) ++ ⟨tx.toArray⟩) ++ ⟨#[32, signB k, 32]⟩) ++ ⟨ty.toArray⟩)) (fun u h => Option.some.inj (show some (.string ((((⟨#[40]⟩ : ByteArray) ++ ⟨tx.toArray⟩) ++ ⟨#[32, signB k, 32]⟩) ++ ⟨ty.toArray⟩)) = some u from h)) (fun e => absurd e (by decide))
   clear R
   rw [e11, e16]
   go_simp
   exact hK.out _ _ ⟨_, by simp [upd, e11, e16], R'⟩
  ·obtain rfl := Option.some.inj ho
   have e17 : c 17 = .string ((((⟨#[40]⟩ : ByteArray) ++ ⟨tx.toArray⟩) ++ ⟨#[32, signB k, 32]⟩) ++ ⟨ty.toArray⟩) := R.plain 17 _ (hdep ⟨17, .data⟩ (by simp) rfl) rfl
   have hq : ¬ (9223372036854775807 < 1 + tx.length + 3 + ty.length + 1) := by omega
   have R' := R.made hst hn (fun j hj => by simp [wrD] at hj; subst hj; exact hdep ⟨_, .data⟩ (by simp) rfl) (Below.refl _ _) (v := .string (((((⟨#[40]⟩ : ByteArray) ++ ⟨tx.toArray⟩) ++ ⟨#[32, signB k, 32]⟩) ++ ⟨ty.toArray⟩) ++ ⟨#[41]⟩)) (fun u h => Option.some.inj (show some (.string (((((⟨#[40]⟩ : ByteArray) ++ ⟨tx.toArray⟩) ++ ⟨#[32, signB k, 32]⟩) ++ ⟨ty.toArray⟩) ++ ⟨#[41]⟩)) = some u from h)) (fun e => absurd e (by decide))
   clear R
   rw [e17]
   go_simp
   exact hK.out _ _ ⟨_, by simp [upd, e17], R'⟩
  ·obtain rfl := Option.some.inj ho
   have e18 : c 18 = .string (((((⟨#[40]⟩ : ByteArray) ++ ⟨tx.toArray⟩) ++ ⟨#[32, signB k, 32]⟩) ++ ⟨ty.toArray⟩) ++ ⟨#[41]⟩) := R.plain 18 _ (hdep ⟨18, .data⟩ (by simp) rfl) rfl
   have R' := R.made hst hn (fun j hj => by simp [wrD] at hj; subst hj; exact hdep ⟨_, .data⟩ (by simp) rfl) (Below.refl _ _) (v := .string (((((⟨#[40]⟩ : ByteArray) ++ ⟨tx.toArray⟩) ++ ⟨#[32, signB k, 32]⟩) ++ ⟨ty.toArray⟩) ++ ⟨#[41]⟩)) (fun u h => Option.some.inj (show some (.string (((((⟨#[40]⟩ : ByteArray) ++ ⟨tx.toArray⟩) ++ ⟨#[32, signB k, 32]⟩) ++ ⟨ty.toArray⟩) ++ ⟨#[41]⟩)) = some u from h)) (fun e => absurd e (by decide))
   clear R
   rw [e18]
   go_simp
   exact hK.out _ _ ⟨_, by simp [upd, e18], R'⟩
 rintro L a' w2 ⟨c, rfl, R⟩ hall
 have e19 : c 19 = .string (((((⟨#[40]⟩ : ByteArray) ++ ⟨tx.toArray⟩) ++ ⟨#[32, signB k, 32]⟩) ++ ⟨ty.toArray⟩) ++ ⟨#[41]⟩) := R.plain 19 _ (hall 19 (by decide)) rfl
 have hb2 := hide (HB1.out.trans (R.below.mono HB1.out.size))
 clear R hall
 rw [e19]
 have eS : ((((((⟨#[40]⟩ : ByteArray) ++ ⟨tx.toArray⟩) ++ ⟨#[32, signB k, 32]⟩) ++ ⟨ty.toArray⟩) ++ ⟨#[41]⟩) : ByteArray) = ⟨(40 :: (tx ++ (spacedB k ++ (ty ++ [41])))).toArray⟩ := by
  apply ByteArray.ext
  simp [spacedB]
 rw [eS]
 go_wp2
 go_ret
 exact ⟨rfl, hb2.out⟩

end Go.Proofs.YtanjajjjancggaaDoor

/- package query: words and signs of a text. -/
namespace Go.Proofs.YtanjajjjancggaaDoor
open Go.RowKit

def inWord (b : UInt8) : Bool := b != 32 && b != 41

def Ascii (l : List UInt8) : Prop := ∀ b ∈ l, b.toNat < 128

theorem indexAny_word : ∀ (l : List UInt8), (Lib.indexAny l [32, 41] = -1 ∧ l.takeWhile inWord = l ∧ l.dropWhile inWord = []) ∨ (∃ n : Nat, Lib.indexAny l [32, 41] = (n : Int) ∧ n < l.length ∧ l.takeWhile inWord = l.take n ∧ l.dropWhile inWord = l.drop n)
 | [] => .inl ⟨rfl, rfl, rfl⟩
 | b :: l => by
  by_cases hb : inWord b = true
  ·have hc : ([32, 41] : List UInt8).contains b = false := by
    unfold inWord at hb
    rw [Bool.and_eq_true, bne_iff_ne, bne_iff_ne] at hb
    simp [hb.1, hb.2]
   have h1 : (b :: l).takeWhile inWord = b :: l.takeWhile inWord := by rw [List.takeWhile_cons, if_pos hb]
   have h2 : (b :: l).dropWhile inWord = l.dropWhile inWord := by rw [List.dropWhile_cons, if_pos hb]
   rcases indexAny_word l with ⟨h, ht, hd⟩ | ⟨n, h, hn, ht, hd⟩
   ·refine .inl ⟨?_, by rw [h1, ht], by rw [h2, hd]⟩
    rw [Lib.indexAny, hc, h]
    rfl
   ·refine .inr ⟨n + 1, ?_, by rw [List.length_cons]; omega, by rw [h1, ht]; rfl, by rw [h2, hd]; rfl⟩
    rw [Lib.indexAny, hc, h]
    have : ((n : Int) == -1) = false := beq_eq_false_iff_ne.2 (by omega)
    simp [this]
  ·have hc : ([32, 41] : List UInt8).contains b = true := by
    unfold inWord at hb
    rw [Bool.and_eq_true, bne_iff_ne, bne_iff_ne] at hb
    by_cases h32 : b = 32
    ·subst h32; rfl
    ·by_cases h41 : b = 41
     ·subst h41; rfl
     ·exact absurd ⟨h32, h41⟩ hb
   have hb' : inWord b = false := by simpa using hb
   refine .inr ⟨0, ?_, by simp, by rw [List.takeWhile_cons, hb']; rfl, by rw [List.dropWhile_cons, hb']; rfl⟩
   rw [Lib.indexAny, hc]
   rfl

def IaQ (s : ByteArray) (w : World) (e : Ending) (w' : World) : Prop := ∃ z : Int, e = .returned (.int .i64 z) ∧ -1 ≤ z ∧ z ≤ s.size ∧ Below w.heap.size w w' ∧ (Ascii s.data.toList → z = Lib.indexAny s.data.toList [32, 41])

theorem indexAny_range (s : ByteArray) : -1 ≤ Lib.indexAny s.data.toList [32, 41] ∧ Lib.indexAny s.data.toList [32, 41] ≤ s.size := by
 rcases indexAny_word s.data.toList with ⟨h, -⟩ | ⟨n, h, hn, -⟩
 ·rw [h]; omega
 ·rw [h, Lib.size_eq]; omega

theorem ascii_at {l : List UInt8} (h : Ascii l) : ∀ (j : Nat) b, l[j]? = some b → b.toNat < 128 := fun _ b hb => h b (List.mem_of_getElem? hb)

theorem indexAny_any (s : ByteArray) (w : World) (hs : s.size ≤ 1000000) : Calls Tryd.prog 41 #[.string s, .string endS] w fun e w' => IaQ s w e w' := by
 have hend : ∀ (j : Nat) b, endS.data.toList[j]? = some b → b.toNat < 128 := ascii_at (l := [32, 41]) (by intro b hb; simp at hb; rcases hb with rfl | rfl <;> decide)
 have hr := indexAny_range s
 by_cases ha : Ascii s.data.toList
 ·refine (Tryd.strings_IndexAny (fun w => by kernel_rfl) s endS w (by omega) (by decide) (ascii_at ha) hend).mono fun e w' ⟨h1, h2⟩ => ?_
  exact ⟨_, h1, hr.1, hr.2, h2, fun _ => rfl⟩
 ·by_cases h8 : s.size ≤ 8
  ·exact (indexAny_short2 s w h8).mono fun e w' ⟨z, h1, h2, h3, h4⟩ => ⟨z, h1, h2, h3, h4, fun h => absurd h ha⟩
  ·refine (Any.strings_IndexAny_long Tryd.lays153 (fun w => by kernel_rfl) (by kernel_rfl) s endS w (by decide) (by omega) (by omega) (by decide) hend).mono fun e w' ⟨h1, h2⟩ => ?_
   refine ⟨_, h1, hr.1, hr.2, ?_, fun h => absurd h ha⟩
   rw [h2]
   exact ((Below.refl _ _).alloc (Nat.le_refl _) _).alloc (by simp) _

def WdP (s : ByteArray) (w : World) (e : Ending) (w' : World) : Prop :=
 ∃ n : Nat, n ≤ s.size ∧ e = .returned (.tuple #[strV (s.data.toList.take n), strV (s.data.toList.drop n)]) ∧ Below w.heap.size w w' ∧ (Ascii s.data.toList → s.data.toList.take n = s.data.toList.takeWhile inWord ∧ s.data.toList.drop n = s.data.toList.dropWhile inWord)

theorem extract_take (s : ByteArray) (n : Nat) : s.extract 0 n = ⟨(s.data.toList.take n).toArray⟩ := by
 apply ByteArray.ext
 rw [← Array.toList_inj, ByteArray.data_extract, Array.toList_extract]
 simp

theorem extract_drop (s : ByteArray) (n : Nat) : s.extract n s.size = ⟨(s.data.toList.drop n).toArray⟩ := by
 apply ByteArray.ext
 rw [← Array.toList_inj, ByteArray.data_extract, Array.toList_extract]
 simp only [List.extract_eq_take_drop]
 rw [List.take_of_length_le (by rw [List.length_drop, Lib.size_eq]; exact Nat.le_refl _)]

set_option linter.unusedSimpArgs false in
set_option maxRecDepth 100000 in
set_option maxHeartbeats 1600000 in
theorem word_any (s : ByteArray) (w : World) (hs : s.size ≤ 1000000) : Calls Tryd.prog 33 #[.string s] w fun e w' => WdP s w e w' := by
 have HI := hide (indexAny_any s w hs)
 go_enter Tryd.func33, Tryd.ntmps33
 go_wp2_with fail
 refine HI.out.mono ?_
 rintro e w1 ⟨z, rfl, h1, h2, hb, ha⟩
 have HB := hide hb; have HA := hide ha
 clear hb ha HI
 have HX : Hid (∃ n : Nat, n ≤ s.size ∧ (z < 0 → n = s.size) ∧ (0 ≤ z → z = n)) := by
  by_cases hz : z < 0
  ·exact ⟨s.size, Nat.le_refl _, fun _ => rfl, fun h => by omega⟩
  ·obtain ⟨n, rfl⟩ := Int.eq_ofNat_of_zero_le (show 0 ≤ z by omega)
   exact ⟨n, by omega, fun h => by omega, fun _ => rfl⟩
 obtain ⟨n, hn, hn1, hn2⟩ := HX.out
 have HFIN : Hid (∀ w', Below w.heap.size w w' → WdP s w (.returned (.tuple #[.string (s.extract 0 n), .string (s.extract n s.size)])) w') := fun w' hb' => by
  rw [extract_take, extract_drop]
  refine ⟨n, hn, rfl, hb', fun h => ?_⟩
  have hz := HA.out h
  have hl : s.size = s.data.toList.length := Lib.size_eq s
  rcases indexAny_word s.data.toList with ⟨g, gt, gd⟩ | ⟨m, g, gm, gt, gd⟩
  ·have : n = s.size := hn1 (by omega)
   rw [gt, gd, this, hl, List.take_length, List.drop_length]
   exact ⟨rfl, rfl⟩
  ·have : n = m := by have := hn2 (by omega); omega
   rw [gt, gd, this]
   exact ⟨rfl, rfl⟩
 have k0 : (0 : Int) ≤ (n : Int) := by omega
 have k1 : (n : Int) ≤ (s.size : Int) := by omega
 clear HA HX
 by_cases hz : z < 0
 ·have hns := hn1 hz
  subst hns
  have e1 : s.extract 0 s.size = s := by rw [extract_take, Lib.size_eq, List.take_length]
  have e2 : s.extract s.size s.size = ByteArray.empty := by rw [extract_drop, Lib.size_eq, List.drop_length]; rfl
  rw [e1, e2] at HFIN
  clear hn1 hn2 e1 e2
  go_wp2_with fail
  go_region_held3 (fun _ => True) (trivial) (fail)
  go_wp2
  go_ret2
  exact HFIN.out _ (HB.out.trans ((Below.refl _ _).drew.mono HB.out.size))
 ·have hzn := hn2 (by omega)
  subst hzn
  clear hn1 hn2
  go_wp2_with fail
  go_region_held3 (fun _ => True) (trivial) (fail)
  go_wp2
  go_ret2
  exact HFIN.out _ (HB.out.trans ((Below.refl _ _).drew.mono HB.out.size))

end Go.Proofs.YtanjajjjancggaaDoor
