/- Two vectors that generate the same as these two, the second one with nought in that place. -/
import Derived.Test.YtcnllfnikajddaaBgL
import Derived.Test.YtcnllfnikajddaaVecA
import Derived.Test.YtcnllfnikajddaaMix
namespace Go.Proofs.Ytcnllfnikajddaa
open Go.RowKit Limbs

def GcdGot (n : Nat) (a b : Int) (W : World) (v : Value) : Prop :=
 ∃ vg vx vy g x y, v = .tuple #[vg, vx, vy] ∧ NumL W vg g n ∧ NumL W vx x n ∧ NumL W vy y n ∧ g = x * a + y * b ∧ 0 ≤ g ∧ (∃ p, a = p * g) ∧ (∃ p, b = p * g)

theorem GcdGot.moved (n : Nat) (a b : Int) (t : Nat) (W W' : World) (G G' : Nat → Nat) (v : Value) (h : Moved t W G W' G') (hg : GcdGot n a b W v) : GcdGot n a b W' v := by
 obtain ⟨vg, vx, vy, g, x, y, e, h1, h2, h3, h4⟩ := hg
 exact ⟨vg, vx, vy, g, x, y, e, h.num h1, h.num h2, h.num h3, h4⟩

def QuoGot (n m : Nat) (x y : Int) (W : World) (v : Value) : Prop :=
 ∃ vq vr q r, v = .tuple #[vq, vr, .nilIface] ∧ NumL W vq q (n + 1) ∧ NumL W vr r m ∧ x = q * y + r ∧ Left r y

theorem QuoGot.moved (n m : Nat) (x y : Int) (t : Nat) (W W' : World) (G G' : Nat → Nat) (v : Value) (h : Moved t W G W' G') (hg : QuoGot n m x y W v) : QuoGot n m x y W' v := by
 obtain ⟨vq, vr, q, r, e, h1, h2, h3⟩ := hg
 exact ⟨vq, vr, q, r, e, h.num h1, h.num h2, h3⟩

theorem Left.exact {p s p' r g : Int} (hg : 0 < g) (h1 : p = p' * g) (h2 : p = s * g + r) (h : Left r g) : p = s * g := by
 have hr := h.1 hg
 have e : (p' - s) * g = r := by rw [Int.sub_mul]; omega
 have h3 : p' - s = 0 := by
  rcases Int.lt_trichotomy (p' - s) 0 with h' | h' | h'
  ·have : (p' - s) * g ≤ (-1) * g := Int.mul_le_mul_of_nonneg_right (by omega) (by omega)
   omega
  ·exact h'
  ·have : 1 * g ≤ (p' - s) * g := Int.mul_le_mul_of_nonneg_right (by omega) (by omega)
   omega
 rw [h3] at e
 omega

theorem VecO.since {w w1 W : World} {P : Nat} {zs : List Int} {n : Nat} (h : VecO w1 W P zs n) (hb : Below w.heap.size w w1) : VecO w W P zs n :=
 ⟨h.vec, Nat.le_trans hb.size h.low, hb.trans (h.below.mono hb.size), h.blk⟩

def FoldPost (w : World) (us vs : List Int) (p q : Int) (na nb N : Nat) (e : Ending) (w' : World) : Prop :=
 ∃ (g x y s t : Int) (P1 P2 : Nat), e = .returned (.tuple #[.slice (some ⟨P1, 0, none⟩) us.length us.length, .slice (some ⟨P2, 0, none⟩) vs.length vs.length]) ∧ 0 < g ∧ g = x * p + y * q ∧ p = s * g ∧ q = t * g ∧
  VecO w w' P1 (List.zipWith (fun a b => x * a + y * b) us vs) (2 * N + 1) ∧ VecO w w' P2 (List.zipWith (fun b a => s * b + -t * a) vs us) (na + nb + 1 + 1)

set_option maxRecDepth 100000 in
set_option maxHeartbeats 4000000 in
theorem fold_any (w : World) (va vb : Value) (us vs : List Int) (k na nb N : Nat) (ha : VecN w va us na) (hb : VecN w vb vs nb) (hl : us.length = vs.length) (hk : k < us.length) (h8 : us.length ≤ 1000) (hn2 : 2 ≤ N) (hN : N ≤ 190000) (hna : na ≤ N) (hnb : nb ≤ N) (h0 : us.getD k 0 ≠ 0) :
  Calls Try.prog 50 #[va, vb, .int .i64 k] w fun e w' => FoldPost w us vs (us.getD k 0) (vs.getD k 0) na nb N e w' := by
 have HA := hide ha; have HB := hide hb
 obtain ⟨ab, aoff, acap, rfl⟩ := ha.form (by omega)
 obtain ⟨bb, boff, bcap, rfl⟩ := hb.form (by omega)
 have hkv : k < vs.length := by omega
 obtain ⟨la, an, ao, al, ac, a2, a3, na'⟩ := ha.at k hk
 obtain ⟨lb, bn, bo, bl, bc, a6, a7, nb'⟩ := hb.at k hkv
 have NA := hide na'; have NB := hide nb'
 clear ha hb na' nb'
 have HL := hide hl
 clear hl
 generalize us.getD k 0 = p at *
 generalize vs.getD k 0 = q at *
 have hst := GcdGot.moved N p q
 go_enter Try.func50, Try.ntmps50
 go_wp2_with fail
 refine region_inv (by kernel_rfl) (by kernel_rfl) (fun L a' w' => ∃ (c : Nat → Value) (G : Nat → Nat), a' = (⟨#[.slice (some ⟨ab, aoff, none⟩) us.length acap, .slice (some ⟨bb, boff, none⟩) vs.length bcap, .int .i64 (k : Int), undef, undef, undef, .slice none 0 0, .slice none 0 0, c 13, c 14, c 15, undef, undef, undef, undef, undef, undef, c 9, c 0, c 1, c 2, c 3, c 4, c 5, c 6, c 7, c 8, c 10, c 11, c 12, undef, undef, undef, undef, undef, undef, undef, undef, undef, undef, undef, undef, undef, undef, undef, undef, undef, undef, undef, undef, undef, undef, undef, undef, undef, undef, undef, undef, undef, undef, undef], []⟩ : Act) ∧ Tags (D3 8) (FA3 8 [.slice (some ⟨ab, aoff, none⟩) us.length acap, .int .i64 (k : Int), .pointer (some ⟨ab, aoff + k * 2, none⟩), .agg #[.bool an, .slice ao al ac], .slice (some ⟨bb, boff, none⟩) vs.length bcap, .int .i64 (k : Int), .pointer (some ⟨bb, boff + k * 2, none⟩), .agg #[.bool bn, .slice bo bl bc]] (GcdGot N p q) (w).heap.size) (w) L c w' G) ⟨fun _ => undef, fun _ => 0, rfl, Tags.start _ _ _⟩ ?_ ?_
 ·rintro L a' w' i o ⟨c, G, rfl, R⟩ ho hn hdep K hK
  have hi : i < 19 := (Array.getElem?_eq_some_iff.1 ho).1
  rcases (by omega : i = 0 ∨ i = 1 ∨ i = 2 ∨ i = 3 ∨ i = 4 ∨ i = 5 ∨ i = 6 ∨ i = 7 ∨ i = 8 ∨ i = 9 ∨ i = 10 ∨ i = 11 ∨ i = 12 ∨ i = 13 ∨ i = 14 ∨ i = 15 ∨ i = 16 ∨ i = 17 ∨ i = 18) with rfl | rfl | rfl | rfl | rfl | rfl | rfl | rfl | rfl | rfl | rfl | rfl | rfl | rfl | rfl | rfl | rfl | rfl | rfl
  ·obtain rfl := Option.some.inj ho
   have R' := R.plain hn (fun j hj => absurd hj (by simp [D3])) (FA3.keep hst) (v := (.slice (some ⟨ab, aoff, none⟩) us.length acap)) (show upd c 0 ((.slice (some ⟨ab, aoff, none⟩) us.length acap)) 0 = (.slice (some ⟨ab, aoff, none⟩) us.length acap) from upd_self _ _ _)
   clear R
   go_simp
   exact hK.out _ _ ⟨_, _, by simp [upd], R'⟩
  ·obtain rfl := Option.some.inj ho
   have R' := R.plain hn (fun j hj => absurd hj (by simp [D3])) (FA3.keep hst) (v := (.int .i64 (k : Int))) (show upd c 1 ((.int .i64 (k : Int))) 1 = (.int .i64 (k : Int)) from upd_self _ _ _)
   clear R
   go_simp
   exact hK.out _ _ ⟨_, _, by simp [upd], R'⟩
  ·obtain rfl := Option.some.inj ho
   have e0 : c 0 = (.slice (some ⟨ab, aoff, none⟩) us.length acap) := R.facts 0 (hdep ⟨0, .data⟩ (by simp) rfl)
   have e1 : c 1 = (.int .i64 (k : Int)) := R.facts 1 (hdep ⟨1, .data⟩ (by simp) rfl)
   have R' := R.plain hn (fun j hj => absurd hj (by simp [D3])) (FA3.keep hst) (v := (.pointer (some ⟨ab, aoff + k * 2, none⟩))) (show upd c 2 ((.pointer (some ⟨ab, aoff + k * 2, none⟩))) 2 = (.pointer (some ⟨ab, aoff + k * 2, none⟩)) from upd_self _ _ _)
   clear R
   rw [e0, e1]
   go_simp
   exact hK.out _ _ ⟨_, _, by simp [upd, e0, e1], R'⟩
  ·obtain rfl := Option.some.inj ho
   have e2 : c 2 = (.pointer (some ⟨ab, aoff + k * 2, none⟩)) := R.facts 2 (hdep ⟨2, .data⟩ (by simp) rfl)
   have q0 := (R.below.cell (p := ⟨ab, aoff + k * 2, none⟩) la).trans a2
   have q1 := (R.below.cell (p := ⟨ab, aoff + k * 2 + 1, none⟩) la).trans a3
   have R' := R.plain hn (fun j hj => absurd hj (by simp [D3])) (FA3.keep hst) (v := (.agg #[.bool an, .slice ao al ac])) (show upd c 3 ((.agg #[.bool an, .slice ao al ac])) 3 = (.agg #[.bool an, .slice ao al ac]) from upd_self _ _ _)
   clear R
   rw [e2]
   go_simp
   exact hK.out _ _ ⟨_, _, by simp [upd, e2], R'⟩
  ·obtain rfl := Option.some.inj ho
   have R' := R.plain hn (fun j hj => absurd hj (by simp [D3])) (FA3.keep hst) (v := (.slice (some ⟨bb, boff, none⟩) vs.length bcap)) (show upd c 4 ((.slice (some ⟨bb, boff, none⟩) vs.length bcap)) 4 = (.slice (some ⟨bb, boff, none⟩) vs.length bcap) from upd_self _ _ _)
   clear R
   go_simp
   exact hK.out _ _ ⟨_, _, by simp [upd], R'⟩
  ·obtain rfl := Option.some.inj ho
   have R' := R.plain hn (fun j hj => absurd hj (by simp [D3])) (FA3.keep hst) (v := (.int .i64 (k : Int))) (show upd c 5 ((.int .i64 (k : Int))) 5 = (.int .i64 (k : Int)) from upd_self _ _ _)
   clear R
   go_simp
   exact hK.out _ _ ⟨_, _, by simp [upd], R'⟩
  ·obtain rfl := Option.some.inj ho
   have e4 : c 4 = (.slice (some ⟨bb, boff, none⟩) vs.length bcap) := R.facts 4 (hdep ⟨4, .data⟩ (by simp) rfl)
   have e5 : c 5 = (.int .i64 (k : Int)) := R.facts 5 (hdep ⟨5, .data⟩ (by simp) rfl)
   have R' := R.plain hn (fun j hj => absurd hj (by simp [D3])) (FA3.keep hst) (v := (.pointer (some ⟨bb, boff + k * 2, none⟩))) (show upd c 6 ((.pointer (some ⟨bb, boff + k * 2, none⟩))) 6 = (.pointer (some ⟨bb, boff + k * 2, none⟩)) from upd_self _ _ _)
   clear R
   rw [e4, e5]
   go_simp
   exact hK.out _ _ ⟨_, _, by simp [upd, e4, e5], R'⟩
  ·obtain rfl := Option.some.inj ho
   have e6 : c 6 = (.pointer (some ⟨bb, boff + k * 2, none⟩)) := R.facts 6 (hdep ⟨6, .data⟩ (by simp) rfl)
   have q0 := (R.below.cell (p := ⟨bb, boff + k * 2, none⟩) lb).trans a6
   have q1 := (R.below.cell (p := ⟨bb, boff + k * 2 + 1, none⟩) lb).trans a7
   have R' := R.plain hn (fun j hj => absurd hj (by simp [D3])) (FA3.keep hst) (v := (.agg #[.bool bn, .slice bo bl bc])) (show upd c 7 ((.agg #[.bool bn, .slice bo bl bc])) 7 = (.agg #[.bool bn, .slice bo bl bc]) from upd_self _ _ _)
   clear R
   rw [e6]
   go_simp
   exact hK.out _ _ ⟨_, _, by simp [upd, e6], R'⟩
  ·obtain rfl := Option.some.inj ho
   have e3 : c 3 = (.agg #[.bool an, .slice ao al ac]) := R.facts 3 (hdep ⟨3, .data⟩ (by simp) rfl)
   have e7 : c 7 = (.agg #[.bool bn, .slice bo bl bc]) := R.facts 7 (hdep ⟨7, .data⟩ (by simp) rfl)
   rw [e3, e7]
   go_simp
   refine (GK.gcd_any w' _ _ p q ((NA.out.mono hna).below R.below (Nat.le_refl _)) ((NB.out.mono hnb).below R.below (Nat.le_refl _)) (by omega) (by omega)).mono ?_
   rintro e w1 ⟨vg, vx, vy, g, x, y, rfl, m1, m2, m3, m4, m5, m6, m7, hb⟩
   have R' := R.call hn (fun j hj => absurd hj (by simp [D3])) (FA3.keep hst) hb (v := .tuple #[vg, vx, vy]) (show GcdGot N p q w1 (upd c 8 (.tuple #[vg, vx, vy]) 8) from by rw [upd_self]; exact ⟨vg, vx, vy, g, x, y, rfl, m1, m2, m3, m4, m5, m6, m7⟩)
   clear m1 m2 m3 m4 m5 m6 m7 hb
   clear R
   go_wp2_with fail
   exact hK.out _ _ ⟨_, _, by simp [upd, e3, e7], R'⟩
  ·obtain rfl := Option.some.inj ho
   have R' := R.plain hn (fun j hj => by simp [D3] at hj; subst hj; exact hdep ⟨_, .data⟩ (by simp) rfl) (FA3.keep hst) (v := c 8) (show upd c 9 (c 8) 9 = upd c 9 (c 8) 8 from by rw [upd_self, upd_ne _ _ (by decide)])
   clear R
   go_simp
   exact hK.out _ _ ⟨_, _, by simp [upd], R'⟩
  ·obtain rfl := Option.some.inj ho
   have hm := hdep ⟨9, .data⟩ (by simp) rfl
   have em : c 9 = c 8 := R.facts 9 hm
   obtain ⟨vg, vx, vy, g, x, y, ec, nm1, nm2, nm3, -⟩ : (GcdGot N p q) w' (c 8) := R.facts 8 (R.closed 9 hm 8 (by simp [D3]))
   rw [ec] at em
   have R' := R.plain hn (fun j hj => by simp [D3] at hj; subst hj; exact hdep ⟨_, .data⟩ (by simp) rfl) (FA3.keep hst) (v := vg) (show ∃ u1 u2 u3 : Value, upd c 10 vg 9 = .tuple #[u1, u2, u3] ∧ upd c 10 vg 10 = u1 from ⟨vg, vx, vy, by rw [upd_ne _ _ (by decide)]; exact em, upd_self _ _ _⟩)
   clear R ec
   rw [em]
   go_simp
   exact hK.out _ _ ⟨_, _, by simp [upd, em], R'⟩
  ·obtain rfl := Option.some.inj ho
   have hm := hdep ⟨9, .data⟩ (by simp) rfl
   have em : c 9 = c 8 := R.facts 9 hm
   obtain ⟨vg, vx, vy, g, x, y, ec, nm1, nm2, nm3, -⟩ : (GcdGot N p q) w' (c 8) := R.facts 8 (R.closed 9 hm 8 (by simp [D3]))
   rw [ec] at em
   have R' := R.plain hn (fun j hj => by simp [D3] at hj; subst hj; exact hdep ⟨_, .data⟩ (by simp) rfl) (FA3.keep hst) (v := vx) (show ∃ u1 u2 u3 : Value, upd c 11 vx 9 = .tuple #[u1, u2, u3] ∧ upd c 11 vx 11 = u2 from ⟨vg, vx, vy, by rw [upd_ne _ _ (by decide)]; exact em, upd_self _ _ _⟩)
   clear R ec
   rw [em]
   go_simp
   exact hK.out _ _ ⟨_, _, by simp [upd, em], R'⟩
  ·obtain rfl := Option.some.inj ho
   have hm := hdep ⟨9, .data⟩ (by simp) rfl
   have em : c 9 = c 8 := R.facts 9 hm
   obtain ⟨vg, vx, vy, g, x, y, ec, nm1, nm2, nm3, -⟩ : (GcdGot N p q) w' (c 8) := R.facts 8 (R.closed 9 hm 8 (by simp [D3]))
   rw [ec] at em
   have R' := R.plain hn (fun j hj => by simp [D3] at hj; subst hj; exact hdep ⟨_, .data⟩ (by simp) rfl) (FA3.keep hst) (v := vy) (show ∃ u1 u2 u3 : Value, upd c 12 vy 9 = .tuple #[u1, u2, u3] ∧ upd c 12 vy 12 = u3 from ⟨vg, vx, vy, by rw [upd_ne _ _ (by decide)]; exact em, upd_self _ _ _⟩)
   clear R ec
   rw [em]
   go_simp
   exact hK.out _ _ ⟨_, _, by simp [upd, em], R'⟩
  ·obtain rfl := Option.some.inj ho
   obtain ⟨G', R'⟩ := R.alloc hn (fun j hj => absurd hj (by simp [D3])) (FA3.keep hst) 16 75 (fun W' G' h => show Made W' G' _ 16 (upd c 13 (ptr w'.heap.size) 13) from by rw [upd_self]; exact h)
   clear R
   go_simp
   exact hK.out _ _ ⟨_, G', by simp [upd], R'⟩
  ·obtain rfl := Option.some.inj ho
   obtain ⟨G', R'⟩ := R.alloc hn (fun j hj => absurd hj (by simp [D3])) (FA3.keep hst) 17 75 (fun W' G' h => show Made W' G' _ 17 (upd c 14 (ptr w'.heap.size) 14) from by rw [upd_self]; exact h)
   clear R
   go_simp
   exact hK.out _ _ ⟨_, G', by simp [upd], R'⟩
  ·obtain rfl := Option.some.inj ho
   obtain ⟨G', R'⟩ := R.alloc hn (fun j hj => absurd hj (by simp [D3])) (FA3.keep hst) 18 75 (fun W' G' h => show Made W' G' _ 18 (upd c 15 (ptr w'.heap.size) 15) from by rw [upd_self]; exact h)
   clear R
   go_simp
   exact hK.out _ _ ⟨_, G', by simp [upd], R'⟩
  ·obtain rfl := Option.some.inj ho
   have hx := hdep ⟨10, .data⟩ (by simp) rfl
   have hm := R.closed 10 hx 9 (by simp [D3])
   have em : c 9 = c 8 := R.facts 9 hm
   obtain ⟨vg, vx, vy, g, x, y, ec, nm1, nm2, nm3, -⟩ : (GcdGot N p q) w' (c 8) := R.facts 8 (R.closed 9 hm 8 (by simp [D3]))
   obtain ⟨u1, u2, u3, em', ex⟩ : ∃ u1 u2 u3 : Value, c 9 = .tuple #[u1, u2, u3] ∧ c 10 = u1 := R.facts 10 hx
   rw [em, ec] at em'
   simp only [Value.tuple.injEq, Array.mk.injEq, List.cons.injEq, and_true] at em'
   obtain ⟨rfl, rfl, rfl⟩ := em'
   obtain ⟨s, hs⟩ := nm1.nm
   rw [hs] at ex
   obtain ⟨B, ea, hC, hB, hG, r, hb⟩ : Made w' G _ 16 (c 13) := R.facts 13 (hdep ⟨13, .data⟩ (by simp) rfl)
   have R' := R.store hn (fun j hj => by simp [D3] at hj; rcases hj with rfl | rfl <;> exact hdep ⟨_, .data⟩ (by simp) rfl) (FA3.keep hst) s hC hB hG hb (fun W' G' h => show ∃ r : Nm, upd c 16 undef 10 = r.v ∧ Stored W' G' _ 16 (upd c 16 undef 13) r from ⟨s, by rw [upd_ne _ _ (by decide)]; exact ex, by rw [upd_ne _ _ (by decide), ea]; exact h⟩)
   obtain ⟨b0, b1, b2, b3⟩ := hb
   obtain ⟨sn, so, sl, sc⟩ := s
   dsimp only at *
   clear R em ec
   rw [ea, ex]
   go_simp
   exact hK.out _ _ ⟨_, _, by simp [upd, ea, ex], R'⟩
  ·obtain rfl := Option.some.inj ho
   have hx := hdep ⟨11, .data⟩ (by simp) rfl
   have hm := R.closed 11 hx 9 (by simp [D3])
   have em : c 9 = c 8 := R.facts 9 hm
   obtain ⟨vg, vx, vy, g, x, y, ec, nm1, nm2, nm3, -⟩ : (GcdGot N p q) w' (c 8) := R.facts 8 (R.closed 9 hm 8 (by simp [D3]))
   obtain ⟨u1, u2, u3, em', ex⟩ : ∃ u1 u2 u3 : Value, c 9 = .tuple #[u1, u2, u3] ∧ c 11 = u2 := R.facts 11 hx
   rw [em, ec] at em'
   simp only [Value.tuple.injEq, Array.mk.injEq, List.cons.injEq, and_true] at em'
   obtain ⟨rfl, rfl, rfl⟩ := em'
   obtain ⟨s, hs⟩ := nm2.nm
   rw [hs] at ex
   obtain ⟨B, ea, hC, hB, hG, r, hb⟩ : Made w' G _ 17 (c 14) := R.facts 14 (hdep ⟨14, .data⟩ (by simp) rfl)
   have R' := R.store hn (fun j hj => by simp [D3] at hj; rcases hj with rfl | rfl <;> exact hdep ⟨_, .data⟩ (by simp) rfl) (FA3.keep hst) s hC hB hG hb (fun W' G' h => show ∃ r : Nm, upd c 17 undef 11 = r.v ∧ Stored W' G' _ 17 (upd c 17 undef 14) r from ⟨s, by rw [upd_ne _ _ (by decide)]; exact ex, by rw [upd_ne _ _ (by decide), ea]; exact h⟩)
   obtain ⟨b0, b1, b2, b3⟩ := hb
   obtain ⟨sn, so, sl, sc⟩ := s
   dsimp only at *
   clear R em ec
   rw [ea, ex]
   go_simp
   exact hK.out _ _ ⟨_, _, by simp [upd, ea, ex], R'⟩
  ·obtain rfl := Option.some.inj ho
   have hx := hdep ⟨12, .data⟩ (by simp) rfl
   have hm := R.closed 12 hx 9 (by simp [D3])
   have em : c 9 = c 8 := R.facts 9 hm
   obtain ⟨vg, vx, vy, g, x, y, ec, nm1, nm2, nm3, -⟩ : (GcdGot N p q) w' (c 8) := R.facts 8 (R.closed 9 hm 8 (by simp [D3]))
   obtain ⟨u1, u2, u3, em', ex⟩ : ∃ u1 u2 u3 : Value, c 9 = .tuple #[u1, u2, u3] ∧ c 12 = u3 := R.facts 12 hx
   rw [em, ec] at em'
   simp only [Value.tuple.injEq, Array.mk.injEq, List.cons.injEq, and_true] at em'
   obtain ⟨rfl, rfl, rfl⟩ := em'
   obtain ⟨s, hs⟩ := nm3.nm
   rw [hs] at ex
   obtain ⟨B, ea, hC, hB, hG, r, hb⟩ : Made w' G _ 18 (c 15) := R.facts 15 (hdep ⟨15, .data⟩ (by simp) rfl)
   have R' := R.store hn (fun j hj => by simp [D3] at hj; rcases hj with rfl | rfl <;> exact hdep ⟨_, .data⟩ (by simp) rfl) (FA3.keep hst) s hC hB hG hb (fun W' G' h => show ∃ r : Nm, upd c 18 undef 12 = r.v ∧ Stored W' G' _ 18 (upd c 18 undef 15) r from ⟨s, by rw [upd_ne _ _ (by decide)]; exact ex, by rw [upd_ne _ _ (by decide), ea]; exact h⟩)
   obtain ⟨b0, b1, b2, b3⟩ := hb
   obtain ⟨sn, so, sl, sc⟩ := s
   dsimp only at *
   clear R em ec
   rw [ea, ex]
   go_simp
   exact hK.out _ _ ⟨_, _, by simp [upd, ea, ex], R'⟩
 ·rintro L a' w1 ⟨c1, G, rfl, R⟩ hall
  obtain ⟨⟨gn, go, gl, gc⟩, ⟨xn, xo, xl, xc⟩, ⟨yn, yo, yl, yc⟩, B1, B2, B3, ⟨vg, vx, vy, g, x, y, ec, N1, N2, N3, hgx, hgp, ⟨p', hp⟩, ⟨q', hq⟩⟩, e13, e14, e15, l1, l2, l3, s1, s2, s3, d12, d13, d23, x1, x2, x3, hb1⟩ := R.fin3 (fun i hi => hall i hi)
  simp only [Value.tuple.injEq, Array.mk.injEq, List.cons.injEq, and_true] at ec
  obtain ⟨rfl, rfl, rfl⟩ := ec
  have hg0 : g ≠ 0 := fun e => h0 (by rw [hp, e, Int.mul_zero])
  have HG := hide (show 0 < g ∧ g = x * p + y * q ∧ p = p' * g ∧ q = q' * g from ⟨by omega, hgx, hp, hq⟩)
  have NG1 := hide N1; have NX1 := hide N2; have NY1 := hide N3
  have NA1 := hide (NA.out.below hb1 (Nat.le_refl _)); have NB1 := hide (NB.out.below hb1 (Nat.le_refl _))
  have HA1 := hide (HA.out.below hb1 (Nat.le_refl _)); have HB1 := hide (HB.out.below hb1 (Nat.le_refl _))
  have u2 := (hb1.cell (p := ⟨ab, aoff + k * 2, none⟩) la).trans a2
  have u3 := (hb1.cell (p := ⟨ab, aoff + k * 2 + 1, none⟩) la).trans a3
  have u6 := (hb1.cell (p := ⟨bb, boff + k * 2, none⟩) lb).trans a6
  have u7 := (hb1.cell (p := ⟨bb, boff + k * 2 + 1, none⟩) lb).trans a7
  have la1 := Nat.lt_of_lt_of_le la hb1.size
  have lb1 := Nat.lt_of_lt_of_le lb hb1.size
  obtain ⟨x10, x11, -, -⟩ := x1
  obtain ⟨x20, x21, -, -⟩ := x2
  obtain ⟨x30, x31, -, -⟩ := x3
  have HW1 := hide hb1
  clear R hall hst N1 N2 N3 hgx hgp hp hq l1 l2 l3 d12 d13 d23 hb1 a2 a3 a6 a7 NA NB HA HB la lb h0
  dsimp only at *
  rw [e13, e14, e15]
  clear e13 e14 e15
  have hst := QuoGot.moved na N p g
  go_wp2_with fail
  refine region_inv (by kernel_rfl) (by kernel_rfl) (fun L a' w' => ∃ (c : Nat → Value) (G : Nat → Nat), a' = (⟨#[.slice (some ⟨ab, aoff, none⟩) us.length acap, .slice (some ⟨bb, boff, none⟩) vs.length bcap, .int .i64 (k : Int), undef, undef, undef, .slice none 0 0, .slice none 0 0, ptr B1, ptr B2, ptr B3, c 10, c 11, c 14, undef, undef, undef, c1 9, c1 0, c1 1, c1 2, c1 3, c1 4, c1 5, c1 6, c1 7, c1 8, c1 10, c1 11, c1 12, c 6, c 0, c 1, c 2, c 3, c 4, c 5, c 7, c 8, c 9, undef, undef, undef, undef, undef, undef, undef, undef, undef, undef, undef, undef, undef, undef, undef, undef, undef, undef, undef, undef, undef], []⟩ : Act) ∧ Tags (D2 5) (FA2 5 [.slice (some ⟨ab, aoff, none⟩) us.length acap, .int .i64 (k : Int), .pointer (some ⟨ab, aoff + k * 2, none⟩), .agg #[.bool an, .slice ao al ac], .agg #[.bool gn, .slice go gl gc]] (QuoGot na N p g) (w1).heap.size) (w1) L c w' G) ⟨fun _ => undef, fun _ => 0, rfl, Tags.start _ _ _⟩ ?_ ?_
  ·rintro L a' w' i o ⟨c, G, rfl, R⟩ ho hn hdep K hK
   have hi : i < 15 := (Array.getElem?_eq_some_iff.1 ho).1
   rcases (by omega : i = 0 ∨ i = 1 ∨ i = 2 ∨ i = 3 ∨ i = 4 ∨ i = 5 ∨ i = 6 ∨ i = 7 ∨ i = 8 ∨ i = 9 ∨ i = 10 ∨ i = 11 ∨ i = 12 ∨ i = 13 ∨ i = 14) with rfl | rfl | rfl | rfl | rfl | rfl | rfl | rfl | rfl | rfl | rfl | rfl | rfl | rfl | rfl
   ·obtain rfl := Option.some.inj ho
    have R' := R.plain hn (fun j hj => absurd hj (by simp [D2])) (FA2.keep hst) (v := (.slice (some ⟨ab, aoff, none⟩) us.length acap)) (show upd c 0 ((.slice (some ⟨ab, aoff, none⟩) us.length acap)) 0 = (.slice (some ⟨ab, aoff, none⟩) us.length acap) from upd_self _ _ _)
    clear R
    go_simp
    exact hK.out _ _ ⟨_, _, by simp [upd], R'⟩
   ·obtain rfl := Option.some.inj ho
    have R' := R.plain hn (fun j hj => absurd hj (by simp [D2])) (FA2.keep hst) (v := (.int .i64 (k : Int))) (show upd c 1 ((.int .i64 (k : Int))) 1 = (.int .i64 (k : Int)) from upd_self _ _ _)
    clear R
    go_simp
    exact hK.out _ _ ⟨_, _, by simp [upd], R'⟩
   ·obtain rfl := Option.some.inj ho
    have e0 : c 0 = (.slice (some ⟨ab, aoff, none⟩) us.length acap) := R.facts 0 (hdep ⟨0, .data⟩ (by simp) rfl)
    have e1 : c 1 = (.int .i64 (k : Int)) := R.facts 1 (hdep ⟨1, .data⟩ (by simp) rfl)
    have R' := R.plain hn (fun j hj => absurd hj (by simp [D2])) (FA2.keep hst) (v := (.pointer (some ⟨ab, aoff + k * 2, none⟩))) (show upd c 2 ((.pointer (some ⟨ab, aoff + k * 2, none⟩))) 2 = (.pointer (some ⟨ab, aoff + k * 2, none⟩)) from upd_self _ _ _)
    clear R
    rw [e0, e1]
    go_simp
    exact hK.out _ _ ⟨_, _, by simp [upd, e0, e1], R'⟩
   ·obtain rfl := Option.some.inj ho
    have e2 : c 2 = (.pointer (some ⟨ab, aoff + k * 2, none⟩)) := R.facts 2 (hdep ⟨2, .data⟩ (by simp) rfl)
    have q0 := (R.below.cell (p := ⟨ab, aoff + k * 2, none⟩) la1).trans u2
    have q1 := (R.below.cell (p := ⟨ab, aoff + k * 2 + 1, none⟩) la1).trans u3
    have R' := R.plain hn (fun j hj => absurd hj (by simp [D2])) (FA2.keep hst) (v := (.agg #[.bool an, .slice ao al ac])) (show upd c 3 ((.agg #[.bool an, .slice ao al ac])) 3 = (.agg #[.bool an, .slice ao al ac]) from upd_self _ _ _)
    clear R
    rw [e2]
    go_simp
    exact hK.out _ _ ⟨_, _, by simp [upd, e2], R'⟩
   ·obtain rfl := Option.some.inj ho
    have q0 := (R.below.cell (p := ⟨B1, 0, none⟩) s1).trans x10
    have q1 := (R.below.cell (p := ⟨B1, 1, none⟩) s1).trans x11
    have R' := R.plain hn (fun j hj => absurd hj (by simp [D2])) (FA2.keep hst) (v := (.agg #[.bool gn, .slice go gl gc])) (show upd c 4 ((.agg #[.bool gn, .slice go gl gc])) 4 = (.agg #[.bool gn, .slice go gl gc]) from upd_self _ _ _)
    clear R
    go_simp
    exact hK.out _ _ ⟨_, _, by simp [upd], R'⟩
   ·obtain rfl := Option.some.inj ho
    have e3 : c 3 = (.agg #[.bool an, .slice ao al ac]) := R.facts 3 (hdep ⟨3, .data⟩ (by simp) rfl)
    have e4 : c 4 = (.agg #[.bool gn, .slice go gl gc]) := R.facts 4 (hdep ⟨4, .data⟩ (by simp) rfl)
    rw [e3, e4]
    go_simp
    refine (div_any w' _ _ p g na N (NA1.out.below R.below (Nat.le_refl _)) (NG1.out.below R.below (Nat.le_refl _)) hg0 (by omega)).mono ?_
    rintro e wq ⟨vq, vr, s, r, rfl, m1, m2, m3, m4, hb⟩
    have R' := R.call hn (fun j hj => absurd hj (by simp [D2])) (FA2.keep hst) hb (v := .tuple #[vq, vr, .nilIface]) (show QuoGot na N p g wq (upd c 5 (.tuple #[vq, vr, .nilIface]) 5) from by rw [upd_self]; exact ⟨vq, vr, s, r, rfl, m1, m2, m3, m4⟩)
    clear m1 m2 m3 m4 hb
    clear R
    go_wp2_with fail
    exact hK.out _ _ ⟨_, _, by simp [upd, e3, e4], R'⟩
   ·obtain rfl := Option.some.inj ho
    have R' := R.plain hn (fun j hj => by simp [D2] at hj; subst hj; exact hdep ⟨_, .data⟩ (by simp) rfl) (FA2.keep hst) (v := c 5) (show upd c 6 (c 5) 6 = upd c 6 (c 5) 5 from by rw [upd_self, upd_ne _ _ (by decide)])
    clear R
    go_simp
    exact hK.out _ _ ⟨_, _, by simp [upd], R'⟩
   ·obtain rfl := Option.some.inj ho
    have hm := hdep ⟨6, .data⟩ (by simp) rfl
    have em : c 6 = c 5 := R.facts 6 hm
    obtain ⟨vq, vr, s, r, ec, nm1, nm2, -⟩ : (QuoGot na N p g) w' (c 5) := R.facts 5 (R.closed 6 hm 5 (by simp [D2]))
    rw [ec] at em
    have R' := R.plain hn (fun j hj => by simp [D2] at hj; subst hj; exact hdep ⟨_, .data⟩ (by simp) rfl) (FA2.keep hst) (v := vq) (show ∃ u1 u2 u3 : Value, upd c 7 vq 6 = .tuple #[u1, u2, u3] ∧ upd c 7 vq 7 = u1 from ⟨vq, vr, (.nilIface : Value), by rw [upd_ne _ _ (by decide)]; exact em, upd_self _ _ _⟩)
    clear R ec
    rw [em]
    go_simp
    exact hK.out _ _ ⟨_, _, by simp [upd, em], R'⟩
   ·obtain rfl := Option.some.inj ho
    have hm := hdep ⟨6, .data⟩ (by simp) rfl
    have em : c 6 = c 5 := R.facts 6 hm
    obtain ⟨vq, vr, s, r, ec, nm1, nm2, -⟩ : (QuoGot na N p g) w' (c 5) := R.facts 5 (R.closed 6 hm 5 (by simp [D2]))
    rw [ec] at em
    have R' := R.plain hn (fun j hj => by simp [D2] at hj; subst hj; exact hdep ⟨_, .data⟩ (by simp) rfl) (FA2.keep hst) (v := vr) (show ∃ u1 u2 u3 : Value, upd c 8 vr 6 = .tuple #[u1, u2, u3] ∧ upd c 8 vr 8 = u2 from ⟨vq, vr, (.nilIface : Value), by rw [upd_ne _ _ (by decide)]; exact em, upd_self _ _ _⟩)
    clear R ec
    rw [em]
    go_simp
    exact hK.out _ _ ⟨_, _, by simp [upd, em], R'⟩
   ·obtain rfl := Option.some.inj ho
    have hm := hdep ⟨6, .data⟩ (by simp) rfl
    have em : c 6 = c 5 := R.facts 6 hm
    obtain ⟨vq, vr, s, r, ec, nm1, nm2, -⟩ : (QuoGot na N p g) w' (c 5) := R.facts 5 (R.closed 6 hm 5 (by simp [D2]))
    rw [ec] at em
    have R' := R.plain hn (fun j hj => by simp [D2] at hj; subst hj; exact hdep ⟨_, .data⟩ (by simp) rfl) (FA2.keep hst) (v := (.nilIface : Value)) (show ∃ u1 u2 u3 : Value, upd c 9 (.nilIface : Value) 6 = .tuple #[u1, u2, u3] ∧ upd c 9 (.nilIface : Value) 9 = u3 from ⟨vq, vr, (.nilIface : Value), by rw [upd_ne _ _ (by decide)]; exact em, upd_self _ _ _⟩)
    clear R ec
    rw [em]
    go_simp
    exact hK.out _ _ ⟨_, _, by simp [upd, em], R'⟩
   ·obtain rfl := Option.some.inj ho
    obtain ⟨G', R'⟩ := R.alloc hn (fun j hj => absurd hj (by simp [D2])) (FA2.keep hst) 12 75 (fun W' G' h => show Made W' G' _ 12 (upd c 10 (ptr w'.heap.size) 10) from by rw [upd_self]; exact h)
    clear R
    go_simp
    exact hK.out _ _ ⟨_, G', by simp [upd], R'⟩
   ·obtain rfl := Option.some.inj ho
    obtain ⟨G', R'⟩ := R.alloc hn (fun j hj => absurd hj (by simp [D2])) (FA2.keep hst) 13 75 (fun W' G' h => show Made W' G' _ 13 (upd c 11 (ptr w'.heap.size) 11) from by rw [upd_self]; exact h)
    clear R
    go_simp
    exact hK.out _ _ ⟨_, G', by simp [upd], R'⟩
   ·obtain rfl := Option.some.inj ho
    have hx := hdep ⟨7, .data⟩ (by simp) rfl
    have hm := R.closed 7 hx 6 (by simp [D2])
    have em : c 6 = c 5 := R.facts 6 hm
    obtain ⟨vq, vr, s, r, ec, nm1, nm2, -⟩ : (QuoGot na N p g) w' (c 5) := R.facts 5 (R.closed 6 hm 5 (by simp [D2]))
    obtain ⟨u1, u2, u3, em', ex⟩ : ∃ u1 u2 u3 : Value, c 6 = .tuple #[u1, u2, u3] ∧ c 7 = u1 := R.facts 7 hx
    rw [em, ec] at em'
    simp only [Value.tuple.injEq, Array.mk.injEq, List.cons.injEq, and_true] at em'
    obtain ⟨rfl, rfl, rfl⟩ := em'
    obtain ⟨s, hs⟩ := nm1.nm
    rw [hs] at ex
    obtain ⟨B, ea, hC, hB, hG, r, hb⟩ : Made w' G _ 12 (c 10) := R.facts 10 (hdep ⟨10, .data⟩ (by simp) rfl)
    have R' := R.store hn (fun j hj => by simp [D2] at hj; rcases hj with rfl | rfl <;> exact hdep ⟨_, .data⟩ (by simp) rfl) (FA2.keep hst) s hC hB hG hb (fun W' G' h => show ∃ r : Nm, upd c 12 undef 7 = r.v ∧ Stored W' G' _ 12 (upd c 12 undef 10) r from ⟨s, by rw [upd_ne _ _ (by decide)]; exact ex, by rw [upd_ne _ _ (by decide), ea]; exact h⟩)
    obtain ⟨b0, b1, b2, b3⟩ := hb
    obtain ⟨sn, so, sl, sc⟩ := s
    dsimp only at *
    clear R em ec
    rw [ea, ex]
    go_simp
    exact hK.out _ _ ⟨_, _, by simp [upd, ea, ex], R'⟩
   ·obtain rfl := Option.some.inj ho
    have hx := hdep ⟨8, .data⟩ (by simp) rfl
    have hm := R.closed 8 hx 6 (by simp [D2])
    have em : c 6 = c 5 := R.facts 6 hm
    obtain ⟨vq, vr, s, r, ec, nm1, nm2, -⟩ : (QuoGot na N p g) w' (c 5) := R.facts 5 (R.closed 6 hm 5 (by simp [D2]))
    obtain ⟨u1, u2, u3, em', ex⟩ : ∃ u1 u2 u3 : Value, c 6 = .tuple #[u1, u2, u3] ∧ c 8 = u2 := R.facts 8 hx
    rw [em, ec] at em'
    simp only [Value.tuple.injEq, Array.mk.injEq, List.cons.injEq, and_true] at em'
    obtain ⟨rfl, rfl, rfl⟩ := em'
    obtain ⟨s, hs⟩ := nm2.nm
    rw [hs] at ex
    obtain ⟨B, ea, hC, hB, hG, r, hb⟩ : Made w' G _ 13 (c 11) := R.facts 11 (hdep ⟨11, .data⟩ (by simp) rfl)
    have R' := R.store hn (fun j hj => by simp [D2] at hj; rcases hj with rfl | rfl <;> exact hdep ⟨_, .data⟩ (by simp) rfl) (FA2.keep hst) s hC hB hG hb (fun W' G' h => show ∃ r : Nm, upd c 13 undef 8 = r.v ∧ Stored W' G' _ 13 (upd c 13 undef 11) r from ⟨s, by rw [upd_ne _ _ (by decide)]; exact ex, by rw [upd_ne _ _ (by decide), ea]; exact h⟩)
    obtain ⟨b0, b1, b2, b3⟩ := hb
    obtain ⟨sn, so, sl, sc⟩ := s
    dsimp only at *
    clear R em ec
    rw [ea, ex]
    go_simp
    exact hK.out _ _ ⟨_, _, by simp [upd, ea, ex], R'⟩
   ·obtain rfl := Option.some.inj ho
    have R' := R.plain hn (fun j hj => by simp [D2] at hj; subst hj; exact hdep ⟨_, .data⟩ (by simp) rfl) (FA2.keep hst) (v := c 9) (show upd c 14 (c 9) 14 = upd c 14 (c 9) 9 from by rw [upd_self, upd_ne _ _ (by decide)])
    clear R
    go_simp
    exact hK.out _ _ ⟨_, _, by simp [upd], R'⟩
  ·rintro L a' w2 ⟨c2, G, rfl, R⟩ hall
   obtain ⟨⟨sn, so, sl, sc⟩, r2', u3v, B4, B5, ⟨vq, vr, s, r, ec, N1, -, hps, hleft⟩, e13, e14, e15, l1, l2, s4, s5, d12, x4, -, hb2⟩ := R.fin2 (fun i hi => hall i hi)
   simp only [Value.tuple.injEq, Array.mk.injEq, List.cons.injEq, and_true] at ec
   obtain ⟨rfl, -, -⟩ := ec
   have HS := hide (Left.exact HG.out.1 HG.out.2.2.1 hps hleft)
   have HA2 := hide (HA1.out.below hb2 (Nat.le_refl _)); have HB2 := hide (HB1.out.below hb2 (Nat.le_refl _)); have NB2 := hide (NB1.out.below hb2 (Nat.le_refl _)); have NG2 := hide (NG1.out.below hb2 (Nat.le_refl _)); have NX2 := hide (NX1.out.below hb2 (Nat.le_refl _)); have NY2 := hide (NY1.out.below hb2 (Nat.le_refl _))
   have NS2 := hide N1
   have t6 := (hb2.cell (p := ⟨bb, boff + k * 2, none⟩) lb1).trans u6
   have t7 := (hb2.cell (p := ⟨bb, boff + k * 2 + 1, none⟩) lb1).trans u7
   have lb2 := Nat.lt_of_lt_of_le lb1 hb2.size
   have y10 := (hb2.cell (p := ⟨B1, 0, none⟩) s1).trans x10
   have y11 := (hb2.cell (p := ⟨B1, 1, none⟩) s1).trans x11
   have y20 := (hb2.cell (p := ⟨B2, 0, none⟩) s2).trans x20
   have y21 := (hb2.cell (p := ⟨B2, 1, none⟩) s2).trans x21
   have y30 := (hb2.cell (p := ⟨B3, 0, none⟩) s3).trans x30
   have y31 := (hb2.cell (p := ⟨B3, 1, none⟩) s3).trans x31
   have t1 := Nat.lt_of_lt_of_le s1 hb2.size
   have t2 := Nat.lt_of_lt_of_le s2 hb2.size
   have t3 := Nat.lt_of_lt_of_le s3 hb2.size
   obtain ⟨x40, x41, -, -⟩ := x4
   have HW2 := hide (HW1.out.trans (hb2.mono HW1.out.size))
   clear R hall hst N1 hps hleft l1 l2 d12 hb2 HA1 HB1 NA1 NB1 NG1 NX1 NY1 HW1 la1 lb1 u2 u3 u6 u7 x10 x11 x20 x21 x30 x31 s1 s2 s3 e15
   dsimp only at *
   rw [e13, e14]
   clear e13 e14
   have u6 := t6
   have u7 := t7
   clear t6 t7
   have hst := QuoGot.moved nb N q g
   go_wp2_with fail
   refine region_inv (by kernel_rfl) (by kernel_rfl) (fun L a' w' => ∃ (c : Nat → Value) (G : Nat → Nat), a' = (⟨#[.slice (some ⟨ab, aoff, none⟩) us.length acap, .slice (some ⟨bb, boff, none⟩) vs.length bcap, .int .i64 (k : Int), undef, undef, undef, .slice none 0 0, .slice none 0 0, ptr B1, ptr B2, ptr B3, ptr B4, ptr B5, c2 14, c 10, c 11, c 14, c1 9, c1 0, c1 1, c1 2, c1 3, c1 4, c1 5, c1 6, c1 7, c1 8, c1 10, c1 11, c1 12, c2 6, c2 0, c2 1, c2 2, c2 3, c2 4, c2 5, c2 7, c2 8, c2 9, c 6, c 0, c 1, c 2, c 3, c 4, c 5, c 7, c 8, c 9, undef, undef, undef, undef, undef, undef, undef, undef, undef, undef, undef], []⟩ : Act) ∧ Tags (D2 5) (FA2 5 [.slice (some ⟨bb, boff, none⟩) vs.length bcap, .int .i64 (k : Int), .pointer (some ⟨bb, boff + k * 2, none⟩), .agg #[.bool bn, .slice bo bl bc], .agg #[.bool gn, .slice go gl gc]] (QuoGot nb N q g) (w2).heap.size) (w2) L c w' G) ⟨fun _ => undef, fun _ => 0, rfl, Tags.start _ _ _⟩ ?_ ?_
   ·rintro L a' w' i o ⟨c, G, rfl, R⟩ ho hn hdep K hK
    have hi : i < 15 := (Array.getElem?_eq_some_iff.1 ho).1
    rcases (by omega : i = 0 ∨ i = 1 ∨ i = 2 ∨ i = 3 ∨ i = 4 ∨ i = 5 ∨ i = 6 ∨ i = 7 ∨ i = 8 ∨ i = 9 ∨ i = 10 ∨ i = 11 ∨ i = 12 ∨ i = 13 ∨ i = 14) with rfl | rfl | rfl | rfl | rfl | rfl | rfl | rfl | rfl | rfl | rfl | rfl | rfl | rfl | rfl
    ·obtain rfl := Option.some.inj ho
     have R' := R.plain hn (fun j hj => absurd hj (by simp [D2])) (FA2.keep hst) (v := (.slice (some ⟨bb, boff, none⟩) vs.length bcap)) (show upd c 0 ((.slice (some ⟨bb, boff, none⟩) vs.length bcap)) 0 = (.slice (some ⟨bb, boff, none⟩) vs.length bcap) from upd_self _ _ _)
     clear R
     go_simp
     exact hK.out _ _ ⟨_, _, by simp [upd], R'⟩
    ·obtain rfl := Option.some.inj ho
     have R' := R.plain hn (fun j hj => absurd hj (by simp [D2])) (FA2.keep hst) (v := (.int .i64 (k : Int))) (show upd c 1 ((.int .i64 (k : Int))) 1 = (.int .i64 (k : Int)) from upd_self _ _ _)
     clear R
     go_simp
     exact hK.out _ _ ⟨_, _, by simp [upd], R'⟩
    ·obtain rfl := Option.some.inj ho
     have e0 : c 0 = (.slice (some ⟨bb, boff, none⟩) vs.length bcap) := R.facts 0 (hdep ⟨0, .data⟩ (by simp) rfl)
     have e1 : c 1 = (.int .i64 (k : Int)) := R.facts 1 (hdep ⟨1, .data⟩ (by simp) rfl)
     have R' := R.plain hn (fun j hj => absurd hj (by simp [D2])) (FA2.keep hst) (v := (.pointer (some ⟨bb, boff + k * 2, none⟩))) (show upd c 2 ((.pointer (some ⟨bb, boff + k * 2, none⟩))) 2 = (.pointer (some ⟨bb, boff + k * 2, none⟩)) from upd_self _ _ _)
     clear R
     rw [e0, e1]
     go_simp
     exact hK.out _ _ ⟨_, _, by simp [upd, e0, e1], R'⟩
    ·obtain rfl := Option.some.inj ho
     have e2 : c 2 = (.pointer (some ⟨bb, boff + k * 2, none⟩)) := R.facts 2 (hdep ⟨2, .data⟩ (by simp) rfl)
     have q0 := (R.below.cell (p := ⟨bb, boff + k * 2, none⟩) lb2).trans u6
     have q1 := (R.below.cell (p := ⟨bb, boff + k * 2 + 1, none⟩) lb2).trans u7
     have R' := R.plain hn (fun j hj => absurd hj (by simp [D2])) (FA2.keep hst) (v := (.agg #[.bool bn, .slice bo bl bc])) (show upd c 3 ((.agg #[.bool bn, .slice bo bl bc])) 3 = (.agg #[.bool bn, .slice bo bl bc]) from upd_self _ _ _)
     clear R
     rw [e2]
     go_simp
     exact hK.out _ _ ⟨_, _, by simp [upd, e2], R'⟩
    ·obtain rfl := Option.some.inj ho
     have q0 := (R.below.cell (p := ⟨B1, 0, none⟩) t1).trans y10
     have q1 := (R.below.cell (p := ⟨B1, 1, none⟩) t1).trans y11
     have R' := R.plain hn (fun j hj => absurd hj (by simp [D2])) (FA2.keep hst) (v := (.agg #[.bool gn, .slice go gl gc])) (show upd c 4 ((.agg #[.bool gn, .slice go gl gc])) 4 = (.agg #[.bool gn, .slice go gl gc]) from upd_self _ _ _)
     clear R
     go_simp
     exact hK.out _ _ ⟨_, _, by simp [upd], R'⟩
    ·obtain rfl := Option.some.inj ho
     have e3 : c 3 = (.agg #[.bool bn, .slice bo bl bc]) := R.facts 3 (hdep ⟨3, .data⟩ (by simp) rfl)
     have e4 : c 4 = (.agg #[.bool gn, .slice go gl gc]) := R.facts 4 (hdep ⟨4, .data⟩ (by simp) rfl)
     rw [e3, e4]
     go_simp
     refine (div_any w' _ _ q g nb N (NB2.out.below R.below (Nat.le_refl _)) (NG2.out.below R.below (Nat.le_refl _)) hg0 (by omega)).mono ?_
     rintro e wq ⟨vq, vr, s, r, rfl, m1, m2, m3, m4, hb⟩
     have R' := R.call hn (fun j hj => absurd hj (by simp [D2])) (FA2.keep hst) hb (v := .tuple #[vq, vr, .nilIface]) (show QuoGot nb N q g wq (upd c 5 (.tuple #[vq, vr, .nilIface]) 5) from by rw [upd_self]; exact ⟨vq, vr, s, r, rfl, m1, m2, m3, m4⟩)
     clear m1 m2 m3 m4 hb
     clear R
     go_wp2_with fail
     exact hK.out _ _ ⟨_, _, by simp [upd, e3, e4], R'⟩
    ·obtain rfl := Option.some.inj ho
     have R' := R.plain hn (fun j hj => by simp [D2] at hj; subst hj; exact hdep ⟨_, .data⟩ (by simp) rfl) (FA2.keep hst) (v := c 5) (show upd c 6 (c 5) 6 = upd c 6 (c 5) 5 from by rw [upd_self, upd_ne _ _ (by decide)])
     clear R
     go_simp
     exact hK.out _ _ ⟨_, _, by simp [upd], R'⟩
    ·obtain rfl := Option.some.inj ho
     have hm := hdep ⟨6, .data⟩ (by simp) rfl
     have em : c 6 = c 5 := R.facts 6 hm
     obtain ⟨vq, vr, s, r, ec, nm1, nm2, -⟩ : (QuoGot nb N q g) w' (c 5) := R.facts 5 (R.closed 6 hm 5 (by simp [D2]))
     rw [ec] at em
     have R' := R.plain hn (fun j hj => by simp [D2] at hj; subst hj; exact hdep ⟨_, .data⟩ (by simp) rfl) (FA2.keep hst) (v := vq) (show ∃ u1 u2 u3 : Value, upd c 7 vq 6 = .tuple #[u1, u2, u3] ∧ upd c 7 vq 7 = u1 from ⟨vq, vr, (.nilIface : Value), by rw [upd_ne _ _ (by decide)]; exact em, upd_self _ _ _⟩)
     clear R ec
     rw [em]
     go_simp
     exact hK.out _ _ ⟨_, _, by simp [upd, em], R'⟩
    ·obtain rfl := Option.some.inj ho
     have hm := hdep ⟨6, .data⟩ (by simp) rfl
     have em : c 6 = c 5 := R.facts 6 hm
     obtain ⟨vq, vr, s, r, ec, nm1, nm2, -⟩ : (QuoGot nb N q g) w' (c 5) := R.facts 5 (R.closed 6 hm 5 (by simp [D2]))
     rw [ec] at em
     have R' := R.plain hn (fun j hj => by simp [D2] at hj; subst hj; exact hdep ⟨_, .data⟩ (by simp) rfl) (FA2.keep hst) (v := vr) (show ∃ u1 u2 u3 : Value, upd c 8 vr 6 = .tuple #[u1, u2, u3] ∧ upd c 8 vr 8 = u2 from ⟨vq, vr, (.nilIface : Value), by rw [upd_ne _ _ (by decide)]; exact em, upd_self _ _ _⟩)
     clear R ec
     rw [em]
     go_simp
     exact hK.out _ _ ⟨_, _, by simp [upd, em], R'⟩
    ·obtain rfl := Option.some.inj ho
     have hm := hdep ⟨6, .data⟩ (by simp) rfl
     have em : c 6 = c 5 := R.facts 6 hm
     obtain ⟨vq, vr, s, r, ec, nm1, nm2, -⟩ : (QuoGot nb N q g) w' (c 5) := R.facts 5 (R.closed 6 hm 5 (by simp [D2]))
     rw [ec] at em
     have R' := R.plain hn (fun j hj => by simp [D2] at hj; subst hj; exact hdep ⟨_, .data⟩ (by simp) rfl) (FA2.keep hst) (v := (.nilIface : Value)) (show ∃ u1 u2 u3 : Value, upd c 9 (.nilIface : Value) 6 = .tuple #[u1, u2, u3] ∧ upd c 9 (.nilIface : Value) 9 = u3 from ⟨vq, vr, (.nilIface : Value), by rw [upd_ne _ _ (by decide)]; exact em, upd_self _ _ _⟩)
     clear R ec
     rw [em]
     go_simp
     exact hK.out _ _ ⟨_, _, by simp [upd, em], R'⟩
    ·obtain rfl := Option.some.inj ho
     obtain ⟨G', R'⟩ := R.alloc hn (fun j hj => absurd hj (by simp [D2])) (FA2.keep hst) 12 75 (fun W' G' h => show Made W' G' _ 12 (upd c 10 (ptr w'.heap.size) 10) from by rw [upd_self]; exact h)
     clear R
     go_simp
     exact hK.out _ _ ⟨_, G', by simp [upd], R'⟩
    ·obtain rfl := Option.some.inj ho
     obtain ⟨G', R'⟩ := R.alloc hn (fun j hj => absurd hj (by simp [D2])) (FA2.keep hst) 13 75 (fun W' G' h => show Made W' G' _ 13 (upd c 11 (ptr w'.heap.size) 11) from by rw [upd_self]; exact h)
     clear R
     go_simp
     exact hK.out _ _ ⟨_, G', by simp [upd], R'⟩
    ·obtain rfl := Option.some.inj ho
     have hx := hdep ⟨7, .data⟩ (by simp) rfl
     have hm := R.closed 7 hx 6 (by simp [D2])
     have em : c 6 = c 5 := R.facts 6 hm
     obtain ⟨vq, vr, s, r, ec, nm1, nm2, -⟩ : (QuoGot nb N q g) w' (c 5) := R.facts 5 (R.closed 6 hm 5 (by simp [D2]))
     obtain ⟨u1, u2, u3, em', ex⟩ : ∃ u1 u2 u3 : Value, c 6 = .tuple #[u1, u2, u3] ∧ c 7 = u1 := R.facts 7 hx
     rw [em, ec] at em'
     simp only [Value.tuple.injEq, Array.mk.injEq, List.cons.injEq, and_true] at em'
     obtain ⟨rfl, rfl, rfl⟩ := em'
     obtain ⟨s, hs⟩ := nm1.nm
     rw [hs] at ex
     obtain ⟨B, ea, hC, hB, hG, r, hb⟩ : Made w' G _ 12 (c 10) := R.facts 10 (hdep ⟨10, .data⟩ (by simp) rfl)
     have R' := R.store hn (fun j hj => by simp [D2] at hj; rcases hj with rfl | rfl <;> exact hdep ⟨_, .data⟩ (by simp) rfl) (FA2.keep hst) s hC hB hG hb (fun W' G' h => show ∃ r : Nm, upd c 12 undef 7 = r.v ∧ Stored W' G' _ 12 (upd c 12 undef 10) r from ⟨s, by rw [upd_ne _ _ (by decide)]; exact ex, by rw [upd_ne _ _ (by decide), ea]; exact h⟩)
     obtain ⟨b0, b1, b2, b3⟩ := hb
     obtain ⟨sn, so, sl, sc⟩ := s
     dsimp only at *
     clear R em ec
     rw [ea, ex]
     go_simp
     exact hK.out _ _ ⟨_, _, by simp [upd, ea, ex], R'⟩
    ·obtain rfl := Option.some.inj ho
     have hx := hdep ⟨8, .data⟩ (by simp) rfl
     have hm := R.closed 8 hx 6 (by simp [D2])
     have em : c 6 = c 5 := R.facts 6 hm
     obtain ⟨vq, vr, s, r, ec, nm1, nm2, -⟩ : (QuoGot nb N q g) w' (c 5) := R.facts 5 (R.closed 6 hm 5 (by simp [D2]))
     obtain ⟨u1, u2, u3, em', ex⟩ : ∃ u1 u2 u3 : Value, c 6 = .tuple #[u1, u2, u3] ∧ c 8 = u2 := R.facts 8 hx
     rw [em, ec] at em'
     simp only [Value.tuple.injEq, Array.mk.injEq, List.cons.injEq, and_true] at em'
     obtain ⟨rfl, rfl, rfl⟩ := em'
     obtain ⟨s, hs⟩ := nm2.nm
     rw [hs] at ex
     obtain ⟨B, ea, hC, hB, hG, r, hb⟩ : Made w' G _ 13 (c 11) := R.facts 11 (hdep ⟨11, .data⟩ (by simp) rfl)
     have R' := R.store hn (fun j hj => by simp [D2] at hj; rcases hj with rfl | rfl <;> exact hdep ⟨_, .data⟩ (by simp) rfl) (FA2.keep hst) s hC hB hG hb (fun W' G' h => show ∃ r : Nm, upd c 13 undef 8 = r.v ∧ Stored W' G' _ 13 (upd c 13 undef 11) r from ⟨s, by rw [upd_ne _ _ (by decide)]; exact ex, by rw [upd_ne _ _ (by decide), ea]; exact h⟩)
     obtain ⟨b0, b1, b2, b3⟩ := hb
     obtain ⟨sn, so, sl, sc⟩ := s
     dsimp only at *
     clear R em ec
     rw [ea, ex]
     go_simp
     exact hK.out _ _ ⟨_, _, by simp [upd, ea, ex], R'⟩
    ·obtain rfl := Option.some.inj ho
     have R' := R.plain hn (fun j hj => by simp [D2] at hj; subst hj; exact hdep ⟨_, .data⟩ (by simp) rfl) (FA2.keep hst) (v := c 9) (show upd c 14 (c 9) 14 = upd c 14 (c 9) 9 from by rw [upd_self, upd_ne _ _ (by decide)])
     clear R
     go_simp
     exact hK.out _ _ ⟨_, _, by simp [upd], R'⟩
   ·rintro L a' w3 ⟨c3, G, rfl, R⟩ hall
    obtain ⟨⟨tn, to, tl, tc⟩, r2'', u3w, B6, B7, ⟨vq, vr, t, r, ec, N1, -, hps, hleft⟩, e13, e14, e15, l1, l2, kB6, s7, d12, x6, -, hb3⟩ := R.fin2 (fun i hi => hall i hi)
    simp only [Value.tuple.injEq, Array.mk.injEq, List.cons.injEq, and_true] at ec
    obtain ⟨rfl, -, -⟩ := ec
    have HT := hide (Left.exact HG.out.1 HG.out.2.2.2 hps hleft)
    have HA3 := hide (HA2.out.below hb3 (Nat.le_refl _)); have HB3 := hide (HB2.out.below hb3 (Nat.le_refl _)); have NX3 := hide (NX2.out.below hb3 (Nat.le_refl _)); have NY3 := hide (NY2.out.below hb3 (Nat.le_refl _)); have NS3 := hide (NS2.out.below hb3 (Nat.le_refl _))
    have NT3 := hide N1
    have z0 := (hb3.cell (p := ⟨B2, 0, none⟩) t2).trans y20
    have z1 := (hb3.cell (p := ⟨B2, 1, none⟩) t2).trans y21
    have z2 := (hb3.cell (p := ⟨B3, 0, none⟩) t3).trans y30
    have z3 := (hb3.cell (p := ⟨B3, 1, none⟩) t3).trans y31
    have z4 := (hb3.cell (p := ⟨B4, 0, none⟩) s4).trans x40
    have z5 := (hb3.cell (p := ⟨B4, 1, none⟩) s4).trans x41
    obtain ⟨z6, z7, -, -⟩ := x6
    have kB2 := Nat.lt_of_lt_of_le t2 hb3.size
    have kB3 := Nat.lt_of_lt_of_le t3 hb3.size
    have kB4 := Nat.lt_of_lt_of_le s4 hb3.size
    have HW3 := hide (HW2.out.trans (hb3.mono HW2.out.size))
    clear R hall hst N1 hps hleft l1 l2 d12 hb3 HA2 HB2 NB2 NG2 NX2 NY2 NS2 HW2 lb2 u6 u7 y10 y11 y20 y21 y30 y31 x40 x41 t1 t2 t3 s4 s5 s7 e15
    dsimp only at *
    rw [e13, e14]
    clear e13 e14
    have tok1 : True := trivial
    have tok2 : True := trivial
    go_wp2_with fail
    go_region_held3 (fun w' => w'.cell? ⟨B2, 0, none⟩ = some (.bool xn) ∧ w'.cell? ⟨B2, 1, none⟩ = some (.slice xo xl xc) ∧ w'.cell? ⟨B3, 0, none⟩ = some (.bool yn) ∧ w'.cell? ⟨B3, 1, none⟩ = some (.slice yo yl yc) ∧ w'.cell? ⟨B4, 0, none⟩ = some (.bool sn) ∧ w'.cell? ⟨B4, 1, none⟩ = some (.slice so sl sc) ∧ w'.cell? ⟨B6, 0, none⟩ = some (.bool tn) ∧ w'.cell? ⟨B6, 1, none⟩ = some (.slice to tl tc)) (go_keep)
     (first
      | (go_at_call 53; have _t := tok1; refine (mix_any _ _ _ _ _ x y us vs N na N nb (2 * N) (by exact NX3.out) (by exact HA3.out) (by exact NY3.out) (by exact HB3.out) HL.out (by omega) (by omega) (by omega) (by omega)).mono ?_; rintro e w4 ⟨P1, rfl, ho1⟩; have hb4 : Below w3.heap.size w3 w4 := ((Below.refl w3.heap.size w3).drew).trans ho1.below; have HO1 := hide ho1; have hs4 := hb4.size; have HA4 := hide (HA3.out.below hb4 (Nat.le_refl _)); have HB4 := hide (HB3.out.below hb4 (Nat.le_refl _)); have NS4 := hide (NS3.out.below hb4 (Nat.le_refl _)); have NT4 := hide (NT3.out.below hb4 (Nat.le_refl _)); have HW4 := hide hb4; have za0 := (hb4.cell (p := ⟨B2, 0, none⟩) kB2).trans z0; have za1 := (hb4.cell (p := ⟨B2, 1, none⟩) kB2).trans z1; have za2 := (hb4.cell (p := ⟨B3, 0, none⟩) kB3).trans z2; have za3 := (hb4.cell (p := ⟨B3, 1, none⟩) kB3).trans z3; have za4 := (hb4.cell (p := ⟨B4, 0, none⟩) kB4).trans z4; have za5 := (hb4.cell (p := ⟨B4, 1, none⟩) kB4).trans z5; have za6 := (hb4.cell (p := ⟨B6, 0, none⟩) kB6).trans z6; have za7 := (hb4.cell (p := ⟨B6, 1, none⟩) kB6).trans z7; clear ho1 tok1 hb4)
      | (go_at_call 54; refine (neg_any _ _ t (nb + 1) (by exact NT4.out) (by omega)).mono ?_; rintro e w5 ⟨r5, rfl, hr5, hb5⟩; obtain ⟨⟨fn, fo, fl, fc⟩, rfl⟩ := hr5.nm; have NF5 := hide hr5; have HW5 := hide hb5; have hs5 := hb5.size; have zb0 := (hb5.cell (p := ⟨B2, 0, none⟩) (Nat.lt_of_lt_of_le kB2 hs4)).trans za0; have zb1 := (hb5.cell (p := ⟨B2, 1, none⟩) (Nat.lt_of_lt_of_le kB2 hs4)).trans za1; have zb2 := (hb5.cell (p := ⟨B3, 0, none⟩) (Nat.lt_of_lt_of_le kB3 hs4)).trans za2; have zb3 := (hb5.cell (p := ⟨B3, 1, none⟩) (Nat.lt_of_lt_of_le kB3 hs4)).trans za3; have zb4 := (hb5.cell (p := ⟨B4, 0, none⟩) (Nat.lt_of_lt_of_le kB4 hs4)).trans za4; have zb5 := (hb5.cell (p := ⟨B4, 1, none⟩) (Nat.lt_of_lt_of_le kB4 hs4)).trans za5; have zb6 := (hb5.cell (p := ⟨B6, 0, none⟩) (Nat.lt_of_lt_of_le kB6 hs4)).trans za6; have zb7 := (hb5.cell (p := ⟨B6, 1, none⟩) (Nat.lt_of_lt_of_le kB6 hs4)).trans za7; clear hr5 hb5)
      | (go_at_call 53; have _t := tok2; refine (mix_any _ _ _ _ _ s (-t) vs us (na + 1) nb (nb + 1) na (na + nb + 1) (by exact NS4.out.below HW5.out (Nat.le_refl _)) (by exact HB4.out.below HW5.out (Nat.le_refl _)) (by exact NF5.out) (by exact HA4.out.below HW5.out (Nat.le_refl _)) HL.out.symm (by have := HL.out; omega) (by omega) (by omega) (by omega)).mono ?_; rintro e w6 ⟨P2, rfl, ho2⟩; have HO2 := hide ho2; have hb6 : Below w5.heap.size w5 w6 := ho2.below; have zc0 := (hb6.cell (p := ⟨B2, 0, none⟩) (Nat.lt_of_lt_of_le kB2 (Nat.le_trans hs4 hs5))).trans zb0; have zc1 := (hb6.cell (p := ⟨B2, 1, none⟩) (Nat.lt_of_lt_of_le kB2 (Nat.le_trans hs4 hs5))).trans zb1; have zc2 := (hb6.cell (p := ⟨B3, 0, none⟩) (Nat.lt_of_lt_of_le kB3 (Nat.le_trans hs4 hs5))).trans zb2; have zc3 := (hb6.cell (p := ⟨B3, 1, none⟩) (Nat.lt_of_lt_of_le kB3 (Nat.le_trans hs4 hs5))).trans zb3; have zc4 := (hb6.cell (p := ⟨B4, 0, none⟩) (Nat.lt_of_lt_of_le kB4 (Nat.le_trans hs4 hs5))).trans zb4; have zc5 := (hb6.cell (p := ⟨B4, 1, none⟩) (Nat.lt_of_lt_of_le kB4 (Nat.le_trans hs4 hs5))).trans zb5; have zc6 := (hb6.cell (p := ⟨B6, 0, none⟩) (Nat.lt_of_lt_of_le kB6 (Nat.le_trans hs4 hs5))).trans zb6; have zc7 := (hb6.cell (p := ⟨B6, 1, none⟩) (Nat.lt_of_lt_of_le kB6 (Nat.le_trans hs4 hs5))).trans zb7; have HW6 := hide hb6; clear ho2 hb6 tok2))
    rw [Nat.min_eq_left (Nat.le_of_eq HL.out), Nat.min_eq_left (Nat.le_of_eq HL.out.symm)]
    have b4 := HW3.out.trans (HW4.out.mono HW3.out.size)
    have b5 := b4.trans (HW5.out.mono b4.size)
    have HV1 := hide (((HO1.out.later HW5.out).later HW6.out).since HW3.out.drew)
    have HV2 := hide (HO2.out.since b5)
    clear b4 b5 HO1 HO2
    go_wp2
    exact bodyPost_ret (v := .tuple #[.slice (some ⟨P1, 0, none⟩) us.length us.length, .slice (some ⟨P2, 0, none⟩) vs.length vs.length]) (by simp [results, Try.results50, go_sem]) rfl ⟨g, x, y, s, t, P1, P2, rfl, HG.out.1, HG.out.2.1, HS.out, HT.out, HV1.out, HV2.out⟩

end Go.Proofs.Ytcnllfnikajddaa
