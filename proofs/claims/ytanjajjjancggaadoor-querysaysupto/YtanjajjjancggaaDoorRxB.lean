/- package query: Parse. -/
import Derived.Test.YtanjajjjancggaaDoorQxG
import Derived.Test.YtanjajjjancggaaDoorQxE
import Derived.Test.YtanjajjjancggaaDoorQxL

namespace Go.Proofs.YtanjajjjancggaaDoor
open Go.RowKit

theorem ex_inj : ∀ {p q : Qx}, p.ex = q.ex → p = q
 | .name s, .name t, h => by
  simp only [Qx.ex, Ex.mk.injEq, and_true, true_and] at h
  rw [h]
 | .whole n, .whole m, h => by
  simp only [Qx.ex, Ex.mk.injEq, and_true, true_and, Int.natCast_inj] at h
  rw [h]
 | .fill a, .fill b, h => by
  simp only [Qx.ex, Ex.mk.injEq, and_true, true_and, List.cons.injEq] at h
  rw [ex_inj h]
 | .two k a b, .two k' a' b', h => by
  simp only [Qx.ex, Ex.mk.injEq, and_true, true_and, List.cons.injEq] at h
  obtain ⟨h1, h2, h3⟩ := h
  rw [ex_inj h2, ex_inj h3]
  cases k <;> cases k' <;> first | rfl | cases h1
 | .name _, .two k _ _, h => by cases k <;> simp [Qx.ex, kindQ] at h
 | .name _, .fill _, h => by simp [Qx.ex] at h
 | .name _, .whole _, h => by simp [Qx.ex] at h
 | .two k _ _, .name _, h => by cases k <;> simp [Qx.ex, kindQ] at h
 | .two k _ _, .fill _, h => by cases k <;> simp [Qx.ex, kindQ] at h
 | .two k _ _, .whole _, h => by cases k <;> simp [Qx.ex, kindQ] at h
 | .fill _, .name _, h => by simp [Qx.ex] at h
 | .fill _, .two k _ _, h => by cases k <;> simp [Qx.ex, kindQ] at h
 | .fill _, .whole _, h => by simp [Qx.ex] at h
 | .whole _, .name _, h => by simp [Qx.ex] at h
 | .whole _, .two k _ _, h => by cases k <;> simp [Qx.ex, kindQ] at h
 | .whole _, .fill _, h => by simp [Qx.ex] at h

theorem name_ascii {s : ByteArray} (h : nmOk s = true) : Ascii s.data.toList := fun b hb => by
 have h := of_decide_eq_true h
 obtain ⟨i, hi⟩ := List.getElem?_of_mem hb
 have hlt : i < s.size := by rw [Lib.size_eq]; exact (List.getElem?_eq_some_iff.1 hi).1
 have hby := h.2.2 i hlt
 have e : byt s i = b.toNat := by
  rw [← byt_eq hlt]
  have h1 : s[i]'hlt = b := by
   have h2 := Lib.data_getElem? s i hlt
   rw [hi] at h2
   exact (Option.some.inj h2).symm
  rw [h1]
 rw [e] at hby
 omega

theorem Ascii.app {a b : List UInt8} (h : Ascii a) (k : Ascii b) : Ascii (a ++ b) := fun x hx => (List.mem_append.1 hx).elim (h x) (k x)

theorem text_ascii : ∀ (q : Qx), q.ok → Ascii q.text
 | .name s, h => name_ascii (calledS_nm h).1
 | .two k a b, h => by
  have hk : Ascii (spacedB k) := by cases k <;> (intro x hx; simp [spacedB, signB] at hx; rcases hx with rfl | rfl | rfl <;> decide)
  have h1 : Ascii [40] := by intro x hx; simp at hx; subst hx; decide
  have h2 : Ascii [41] := by intro x hx; simp at hx; subst hx; decide
  exact h1.app ((text_ascii a h.1).app (hk.app ((text_ascii b h.2).app h2)))
 | .fill a, h => by
  have h1 : Ascii (fillB ++ [32]) := by unfold Ascii; decide
  have e : (Qx.fill a).text = (fillB ++ [32]) ++ a.text := by rw [Qx.text]; simp
  rw [e]
  exact h1.app (text_ascii a h)
 | .whole n, h => by
  obtain ⟨h1, h4⟩ := h
  have : n = 1 ∨ n = 2 ∨ n = 3 ∨ n = 4 := by omega
  rcases this with rfl | rfl | rfl | rfl <;> (unfold Ascii; decide +kernel)

theorem read_whole {q : Qx} (h : q.ok) (hd : q.deep ≤ 6) : readX 6 q.text = some (q.ex, []) := by
 have := read_text q 6 [] h hd (.inl rfl)
 rwa [List.append_nil] at this

def PsP (l : List UInt8) (w : World) (e : Ending) (w' : World) : Prop :=
 Below w.heap.size w w' ∧ ((e = .returned (.tuple #[.agg #[.int .i64 0, .int .i64 0, .string ⟨#[]⟩, .slice none 0 0], .iface 44 (.int .i64 5)]) ∧ ∀ q : Qx, q.ok → q.deep ≤ 6 → faultE q.ex = 0 → q.text ≠ l) ∨
  ∃ (q : Qx) (cs : List Value), q.ok ∧ q.deep ≤ 6 ∧ faultE q.ex = 0 ∧ q.text = l ∧ e = .returned (.tuple #[.agg cs.toArray, .nilIface]) ∧ ExV w' q.ex cs)

set_option linter.unusedSimpArgs false in
set_option maxRecDepth 100000 in
set_option maxHeartbeats 3200000 in
theorem parse_any (w : World) (l : List UInt8) (hl : l.length ≤ 1000000) (he : ErrQ w) : Calls Tryd.prog 12 #[strV l] w fun e w' => PsP l w e w' := by
 have HX := hide (ExB.new w 0 0 ⟨#[]⟩ (.slice none 0 0)); have HB1 := hide (alloc_below w (.cells #[.int .i64 0, .int .i64 0, .string ⟨#[]⟩, .slice none 0 0] 24))
 obtain ⟨W1, hW1⟩ : ∃ W1, w.alloc (.cells #[.int .i64 0, .int .i64 0, .string ⟨#[]⟩, .slice none 0 0] 24) = W1 := ⟨_, rfl⟩
 have hsz1 : W1.heap.size = w.heap.size + 1 := by rw [← hW1]; simp
 rw [hW1] at HX HB1
 have HRD := hide (read_any 6 W1 l (by decide) hl (he.below HB1.out))
 clear he
 go_enter Tryd.func12, Tryd.ntmps12
 go_wp2_with fail
 refine HRD.out.mono ?_
 rintro e w2 ⟨x, cs, r, ok, dd, rfl, hx, hb2, -, hrd⟩
 obtain ⟨k, n, s, o, m, cap, rfl⟩ := hx.agg
 have hb3 := alloc_below w2 (.cells #[.int .i64 k, .int .i64 n, .string s, .slice o m cap] 24)
 have HY3 := hide (ExB.new w2 k n s (.slice o m cap))
 obtain ⟨W3, hW3⟩ : ∃ W3, w2.alloc (.cells #[.int .i64 k, .int .i64 n, .string s, .slice o m cap] 24) = W3 := ⟨_, rfl⟩
 rw [hW3] at hb3 HY3
 have hb23 := hb2.trans (hb3.mono hb2.size)
 have HX3 := hide (HX.out.later hb23); have HB3 := hide (HB1.out.trans (hb23.mono HB1.out.size)); have HF3 := hide (hx.later (Nat.le_refl _) hb3); have HR := hide hrd
 clear hx hb2 hb3 hb23 hrd HRD
 cases ok with
 | false =>
  have HFIN : Hid (PsP l w (.returned (.tuple #[.agg #[.int .i64 0, .int .i64 0, .string ⟨#[]⟩, .slice none 0 0], .iface 44 (.int .i64 5)])) (put4 W3 w.heap.size 0 0 ⟨#[]⟩ (.slice none 0 0))) := by
   refine ⟨put4_below HB3.out (Nat.le_refl _) _ _ _ _, .inl ⟨rfl, fun q h1 h2 _ e => ?_⟩⟩
   have h3 := HR.out (by rw [← e]; exact text_ascii q h1)
   rw [← e, read_whole h1 h2] at h3
   cases h3
  obtain ⟨c0, c1, c2, c3, hf⟩ := HX3.out.cells
  have f0 := hf 0; have f1 := hf 1; have f2 := hf 2; have f3 := hf 3
  obtain ⟨g0, g1, g2, g3, -⟩ := (HX3.out.put 0 0 ⟨#[]⟩ (.slice none 0 0)).cells
  clear hf
  go_wp2
  exact bodyPost_ret (v := .tuple #[.agg #[.int .i64 0, .int .i64 0, .string ⟨#[]⟩, .slice none 0 0], .iface 44 (.int .i64 5)]) (by simp [results, Tryd.results12, go_sem, g0, g1, g2, g3]) rfl HFIN.out
 | true =>
  have HTX := hide (text_any W3 x _ ⟨dd, HF3.out.ex⟩)
  obtain ⟨y0, y1, y2, y3, -⟩ := HY3.out.cells
  go_wp2_with fail
  refine HTX.out.mono ?_
  rintro e w4 ⟨hb4, hres⟩
  have HX4 := hide (HX3.out.later hb4); have HB4 := hide (HB3.out.trans (hb4.mono HB3.out.size)); have HF4 := hide (HF3.out.later (Nat.le_refl _) hb4); have HY4 := hide (HY3.out.later hb4)
  obtain ⟨c0, c1, c2, c3, hf⟩ := HX4.out.cells
  have f0 := hf 0; have f1 := hf 1; have f2 := hf 2; have f3 := hf 3
  clear hb4 HTX y0 y1 y2 y3 hf
  obtain ⟨y0, y1, y2, y3, -⟩ := HY4.out.cells
  obtain ⟨g0, g1, g2, g3, -⟩ := (HX4.out.put 0 0 ⟨#[]⟩ (.slice none 0 0)).cells
  rcases hres with ⟨hne, rfl⟩ | ⟨q, hq, hqe, hq6, hq0, rfl⟩
  ·have HFIN : Hid (PsP l w (.returned (.tuple #[.agg #[.int .i64 0, .int .i64 0, .string ⟨#[]⟩, .slice none 0 0], .iface 44 (.int .i64 5)])) (put4 w4 w.heap.size 0 0 ⟨#[]⟩ (.slice none 0 0))) := by
    refine ⟨put4_below HB4.out (Nat.le_refl _) _ _ _ _, .inl ⟨rfl, fun q h1 h2 hq0 e => ?_⟩⟩
    have h3 := HR.out (by rw [← e]; exact text_ascii q h1)
    rw [← e, read_whole h1 h2] at h3
    obtain ⟨e1, -⟩ := Prod.mk.inj (Option.some.inj h3)
    rw [e1] at hq0
    exact hne hq0
   generalize faultE x = F at *
   go_wp2
   exact bodyPost_ret (v := .tuple #[.agg #[.int .i64 0, .int .i64 0, .string ⟨#[]⟩, .slice none 0 0], .iface 44 (.int .i64 5)]) (by simp [results, Tryd.results12, go_sem, g0, g1, g2, g3]) rfl HFIN.out
  ·by_cases hql : q.text = l
   ·have HFIN : Hid (PsP l w (.returned (.tuple #[.agg #[.int .i64 k, .int .i64 n, .string s, .slice o m cap], .nilIface])) (put4 w4 w.heap.size k n s (.slice o m cap))) := by
     refine ⟨put4_below HB4.out (Nat.le_refl _) _ _ _ _, .inr ⟨q, exC k n s (.slice o m cap), hq, hq6, by rw [hqe]; exact hq0, hql, rfl, dd, ?_⟩⟩
     rw [hqe]
     exact (HF4.out.put (by omega) w.heap.size (by omega) _ _ _ _).ex
    clear g0 g1 g2 g3
    obtain ⟨g0, g1, g2, g3, -⟩ := (HX4.out.put k n s (.slice o m cap)).cells
    rw [hql]
    clear hq hqe hq6 hq0 hql
    go_wp2
    exact bodyPost_ret (v := .tuple #[.agg #[.int .i64 k, .int .i64 n, .string s, .slice o m cap], .nilIface]) (by simp [results, Tryd.results12, go_sem, g0, g1, g2, g3]) rfl HFIN.out
   ·have HFIN : Hid (PsP l w (.returned (.tuple #[.agg #[.int .i64 0, .int .i64 0, .string ⟨#[]⟩, .slice none 0 0], .iface 44 (.int .i64 5)])) (put4 w4 w.heap.size 0 0 ⟨#[]⟩ (.slice none 0 0))) := by
     refine ⟨put4_below HB4.out (Nat.le_refl _) _ _ _ _, .inl ⟨rfl, fun q' h1 h2 hq0' e => ?_⟩⟩
     have h3 := HR.out (by rw [← e]; exact text_ascii q' h1)
     rw [← e, read_whole h1 h2] at h3
     obtain ⟨e1, -⟩ := Prod.mk.inj (Option.some.inj h3)
     rw [← hqe] at e1
     rw [ex_inj e1] at e
     exact hql e
    have hne1 : (q.text == l) = false := beq_eq_false_iff_ne.2 hql
    generalize q.text = t at *
    clear hq hqe hq6 hq0
    go_wp2
    exact bodyPost_ret (v := .tuple #[.agg #[.int .i64 0, .int .i64 0, .string ⟨#[]⟩, .slice none 0 0], .iface 44 (.int .i64 5)]) (by simp [results, Tryd.results12, go_sem, g0, g1, g2, g3]) rfl HFIN.out

end Go.Proofs.YtanjajjjancggaaDoor

/- Expressions compared, and weighed. -/
namespace Go.Proofs.YtanjajjjancggaaDoor
open Go.RowKit

set_option linter.unusedSimpArgs false in
set_option maxRecDepth 100000 in
set_option maxHeartbeats 3200000 in
theorem sameExpr_any : ∀ (d : Nat) (w : World) (e : Ex) (cs cs' : List Value), ExD w d e cs → ExD w d e cs' →
  Calls Tryd.prog 14 #[.agg cs.toArray, .agg cs'.toArray] w fun e' w' => e' = .returned (.bool true) ∧ Below w.heap.size w w'
 | 0, _, _, _, _, h, _ => h.elim
 | d + 1, w, .mk k n s a, cs, cs', h, h' => by
  have IH := hide (fun W x ys zs hx hx' => sameExpr_any d W x ys zs hx hx')
  obtain ⟨d', o, cap, e, rfl, hmax, hat⟩ := h.shape
  obtain rfl : d = d' := by omega
  obtain ⟨d', o', cap', e, rfl, -, hat'⟩ := h'.shape
  obtain rfl : d = d' := by omega
  have HAT := hide hat; have HAT' := hide hat'
  obtain ⟨N, hN⟩ : ∃ N, a.length = N := ⟨_, rfl⟩
  rw [hN] at hmax ⊢
  have HN := hide hN
  have hb1 := alloc_below w (.cells #[.int .i64 k, .int .i64 n, .string s, .slice o N cap] 24)
  have hx1 := ExB.new w k n s (.slice o N cap)
  obtain ⟨W1, hW1⟩ : ∃ W1, w.alloc (.cells #[.int .i64 k, .int .i64 n, .string s, .slice o N cap] 24) = W1 := ⟨_, rfl⟩
  rw [hW1] at hb1 hx1
  have hb2 := alloc_below W1 (.cells #[.int .i64 k, .int .i64 n, .string s, .slice o' N cap'] 24)
  have HY := hide (ExB.new W1 k n s (.slice o' N cap'))
  have HX := hide (hx1.later hb2)
  obtain ⟨W2, hW2⟩ : ∃ W2, W1.alloc (.cells #[.int .i64 k, .int .i64 n, .string s, .slice o' N cap'] 24) = W2 := ⟨_, rfl⟩
  rw [hW2] at hb2 HX HY
  have HB2 := hide (hb1.trans (hb2.mono hb1.size))
  obtain ⟨x0, x1, x2, x3, -⟩ := HX.out.cells
  obtain ⟨y0, y1, y2, y3, -⟩ := HY.out.cells
  have hxl := heap_lt HX.out
  clear h h' hat hat' hb1 hb2 hx1 e hN
  go_enter Tryd.func14, Tryd.ntmps14
  go_wp2
  go_loopw [5] (fun x wr => ∃ j : Nat, j ≤ N ∧ x = .int .i64 j ∧ Hid (ExB wr w.heap.size k n s (.slice o N cap)) ∧ Hid (ExB wr W1.heap.size k n s (.slice o' N cap')) ∧ Hid (Below w.heap.size w wr)) (fun x _ => N - (intOf x).toNat)
  case atStart => exact ⟨0, Nat.zero_le _, rfl, HX, HY, HB2⟩
  case round =>
   clear HX HY HB2 x0 x1 x2 x3 y0 y1 y2 y3 hxl
   obtain ⟨j, hj, rfl, HX, HY, HB⟩ := hrel
   obtain ⟨-, -, -, x3, -⟩ := HX.out.cells
   obtain ⟨-, -, -, y3, -⟩ := HY.out.cells
   by_cases hjl : j < N
   ·obtain ⟨x, hget⟩ : ∃ x, a[j]? = some x := ⟨_, List.getElem?_eq_getElem (by rw [HN.out]; exact hjl)⟩
    obtain ⟨b, off, ys, ka, ma, sa, va, rfl, hlt, hys, hx, c0, c1, c2, c3, oa, na, ca, rfl⟩ := HAT.out j _ hget
    obtain ⟨b', off', zs, kb, mb, sb, vb, rfl, hlt', hzs, hz, d0, d1, d2, d3, ob, nb, cb, rfl⟩ := HAT'.out j _ hget
    have p0 := (HB.out.cell (p := ⟨b, off + j * 4, none⟩) hlt).trans c0
    have p1 := (HB.out.cell (p := ⟨b, off + j * 4 + 1, none⟩) hlt).trans c1
    have p2 := (HB.out.cell (p := ⟨b, off + j * 4 + 2, none⟩) hlt).trans c2
    have p3 := (HB.out.cell (p := ⟨b, off + j * 4 + 3, none⟩) hlt).trans c3
    have q0 := (HB.out.cell (p := ⟨b', off' + j * 4, none⟩) hlt').trans d0
    have q1 := (HB.out.cell (p := ⟨b', off' + j * 4 + 1, none⟩) hlt').trans d1
    have q2 := (HB.out.cell (p := ⟨b', off' + j * 4 + 2, none⟩) hlt').trans d2
    have q3 := (HB.out.cell (p := ⟨b', off' + j * 4 + 3, none⟩) hlt').trans d3
    subst hys hzs
    have HC := hide (fun W (hb : Below wr.heap.size wr W) => IH.out W x _ _ ((hx.below HB.out).below hb) ((hz.below HB.out).below hb))
    have jl : (j : Int) < (N : Int) := by omega
    have j0 : (0 : Int) ≤ (j : Int) := by omega
    clear hx hz c0 c1 c2 c3 d0 d1 d2 d3 hget
    go_wp2_with fail
    go_region_held3 (fun w' => w'.cell? ⟨w.heap.size, 3, none⟩ = some (.slice (some ⟨b, off, none⟩) N cap) ∧ w'.cell? ⟨W1.heap.size, 3, none⟩ = some (.slice (some ⟨b', off', none⟩) N cap') ∧ w'.cell? ⟨b, off + j * 4, none⟩ = some (.int .i64 ka) ∧ w'.cell? ⟨b, off + j * 4 + 1, none⟩ = some (.int .i64 ma) ∧ w'.cell? ⟨b, off + j * 4 + 2, none⟩ = some (.string sa) ∧ w'.cell? ⟨b, off + j * 4 + 3, none⟩ = some (.slice oa na ca) ∧ w'.cell? ⟨b', off' + j * 4, none⟩ = some (.int .i64 kb) ∧ w'.cell? ⟨b', off' + j * 4 + 1, none⟩ = some (.int .i64 mb) ∧ w'.cell? ⟨b', off' + j * 4 + 2, none⟩ = some (.string sb) ∧ w'.cell? ⟨b', off' + j * 4 + 3, none⟩ = some (.slice ob nb cb)) (go_keep)
     (first | (go_at_call 14; refine (HC.out _ (Below.refl _ _).drew).mono ?_; rintro e w3 ⟨rfl, hb3'⟩; have hb3 : Below wr.heap.size wr w3 := (Below.refl _ _).drew.trans hb3'; have HB3 := hide (HB.out.trans (hb3.mono HB.out.size)); have HX3 := hide (HX.out.later hb3); have HY3 := hide (HY.out.later hb3); obtain ⟨-, -, -, x3', -⟩ := HX3.out.cells; obtain ⟨-, -, -, y3', -⟩ := HY3.out.cells; have p0' := (hb3.cell (p := ⟨b, off + j * 4, none⟩) (World.block_lt_of_cell? wr _ p0)).trans p0; have p1' := (hb3.cell (p := ⟨b, off + j * 4 + 1, none⟩) (World.block_lt_of_cell? wr _ p1)).trans p1; have p2' := (hb3.cell (p := ⟨b, off + j * 4 + 2, none⟩) (World.block_lt_of_cell? wr _ p2)).trans p2; have p3' := (hb3.cell (p := ⟨b, off + j * 4 + 3, none⟩) (World.block_lt_of_cell? wr _ p3)).trans p3; have q0' := (hb3.cell (p := ⟨b', off' + j * 4, none⟩) (World.block_lt_of_cell? wr _ q0)).trans q0; have q1' := (hb3.cell (p := ⟨b', off' + j * 4 + 1, none⟩) (World.block_lt_of_cell? wr _ q1)).trans q1; have q2' := (hb3.cell (p := ⟨b', off' + j * 4 + 2, none⟩) (World.block_lt_of_cell? wr _ q2)).trans q2; have q3' := (hb3.cell (p := ⟨b', off' + j * 4 + 3, none⟩) (World.block_lt_of_cell? wr _ q3)).trans q3; clear hb3 hb3'))
    clear p0 p1 p2 p3 q0 q1 q2 q3 x3 y3 p0' p1' p2' p3' q0' q1' q2' q3' x3' y3' HC HX HY HB
    go_wp2
    go_roundw
    case rel => exact ⟨j + 1, by omega, by go_num, HX3, HY3, HB3⟩
    case measure => simp [intOf]; omega
   ·obtain rfl : j = N := by omega
    go_wp2
    go_ret
    exact ⟨rfl, HB.out⟩

def HvP (w : World) (e : Ending) (w' : World) : Prop := ∃ z, e = .returned (.int .i64 z) ∧ Below w.heap.size w w'

set_option linter.unusedSimpArgs false in
set_option maxRecDepth 100000 in
set_option maxHeartbeats 1600000 in
theorem heavy_any : ∀ (d : Nat) (w : World) (e : Ex) (cs : List Value) (m : Int), ExD w d e cs →
  Calls Tryd.prog 15 #[.agg cs.toArray, .int .i64 m] w fun e' w' => HvP w e' w'
 | 0, _, _, _, _, h => h.elim
 | d + 1, w, .mk k n s a, cs, M, h => by
  have IH := hide (fun W x ys hx => heavy_any d W x ys M hx)
  obtain ⟨d', o, cap, e, rfl, hmax, hat⟩ := h.shape
  obtain rfl : d = d' := by omega
  have HAT := hide hat
  obtain ⟨N, hN⟩ : ∃ N, a.length = N := ⟨_, rfl⟩
  rw [hN] at hmax ⊢
  have HN := hide hN
  have HB := hide (alloc_below w (.cells #[.int .i64 k, .int .i64 n, .string s, .slice o N cap] 24))
  have HX := hide (ExB.new w k n s (.slice o N cap))
  obtain ⟨z0, z1, z2, z3, -⟩ := HX.out.cells
  clear h hat e hN
  go_enter Tryd.func15, Tryd.ntmps15
  go_wp2
  go_loopw [5, 6] (fun q x wr => ∃ (j : Nat) (z : Int), j ≤ N ∧ x = .int .i64 j ∧ q = .int .i64 z ∧ Hid (ExB wr w.heap.size k n s (.slice o N cap)) ∧ Hid (Below w.heap.size w wr)) (fun _ x _ => N - (intOf x).toNat)
  case atStart => exact ⟨0, _, Nat.zero_le _, rfl, rfl, HX, HB⟩
  case round =>
   clear HX HB z0 z1 z2 z3
   obtain ⟨j, z, hj, rfl, rfl, HX, HB⟩ := hrel
   obtain ⟨-, -, -, z3, -⟩ := HX.out.cells
   by_cases hjl : j < N
   ·have gj : decide ((j : Int) < (N : Int)) = true := decide_eq_true (by omega)
    by_cases hz : z ≤ M
    ·have gz : decide (z ≤ M) = true := decide_eq_true hz
     obtain ⟨x, hget⟩ : ∃ x, a[j]? = some x := ⟨_, List.getElem?_eq_getElem (by rw [HN.out]; exact hjl)⟩
     obtain ⟨b, off, ys, ka, ma, sa, va, rfl, hlt, hys, hx, c0, c1, c2, c3, oa, na, ca, rfl⟩ := HAT.out j _ hget
     have p0 := (HB.out.cell (p := ⟨b, off + j * 4, none⟩) hlt).trans c0
     have p1 := (HB.out.cell (p := ⟨b, off + j * 4 + 1, none⟩) hlt).trans c1
     have p2 := (HB.out.cell (p := ⟨b, off + j * 4 + 2, none⟩) hlt).trans c2
     have p3 := (HB.out.cell (p := ⟨b, off + j * 4 + 3, none⟩) hlt).trans c3
     subst hys
     have HC := hide (IH.out wr x _ (hx.below HB.out))
     clear hx c0 c1 c2 c3 hget
     go_wp2_with fail
     refine HC.out.mono ?_
     rintro e w3 ⟨y, rfl, hb3⟩
     have HX3 := hide (HX.out.later hb3); have HB3 := hide (HB.out.trans (hb3.mono HB.out.size))
     clear hb3 HC HX HB p0 p1 p2 p3 z3
     go_wp2
     go_roundw
     case rel => exact ⟨j + 1, _, by omega, by go_num, rfl, HX3, HB3⟩
     case measure => simp [intOf]; omega
    ·have gz : decide (z ≤ M) = false := decide_eq_false hz
     go_wp2
     go_ret
     exact ⟨_, rfl, HB.out⟩
   ·have gj : decide ((j : Int) < (N : Int)) = false := decide_eq_false (by omega)
    obtain rfl : j = N := by omega
    go_wp2
    go_ret
    exact ⟨_, rfl, HB.out⟩

def LgP (w : World) (e : Ending) (w' : World) : Prop := ∃ b, e = .returned (.bool b) ∧ Below w.heap.size w w'

theorem lightExpr_any (w : World) (e : Ex) (cs : List Value) (h : ExV w e cs) : Calls Tryd.prog 6 #[.agg cs.toArray] w fun e' w' => LgP w e' w' := by
 obtain ⟨d, h⟩ := h
 obtain ⟨k, n, s, a⟩ := e
 obtain ⟨o, cap, rfl⟩ := h.agg
 have hb1 := alloc_below w (.cells #[.int .i64 k, .int .i64 n, .string s, .slice o a.length cap] 24)
 have HC := hide (heavy_any d _ _ _ 500 (h.below hb1))
 obtain ⟨N, hN⟩ : ∃ N, a.length = N := ⟨_, rfl⟩
 rw [hN] at HC hb1 ⊢
 have HB := hide hb1
 obtain ⟨z0, z1, z2, z3, -⟩ := (ExB.new w k n s (.slice o N cap)).cells
 clear h hb1 hN
 go_enter Tryd.func6, Tryd.ntmps6
 go_wp2_with fail
 refine HC.out.mono ?_
 rintro e w2 ⟨z, rfl, hb2⟩
 have HB2 := hide (HB.out.trans (hb2.mono HB.out.size))
 clear hb2 HC HB z0 z1 z2 z3
 go_wp2
 go_ret
 exact ⟨_, rfl, HB2.out⟩

end Go.Proofs.YtanjajjjancggaaDoor

/- TopQuery. -/
namespace Go.Proofs.YtanjajjjancggaaDoor
open Go.RowKit

theorem text_inj {p q : Qx} (hp : p.ok) (hq : q.ok) (h6 : p.deep ≤ 6) (k6 : q.deep ≤ 6) (h : p.text = q.text) : p = q := by
 have h1 := read_whole hp h6
 rw [h, read_whole hq k6] at h1
 exact ex_inj (Prod.mk.inj (Option.some.inj h1)).1.symm

theorem PsP.of_text {q : Qx} (hq : q.ok) (h6 : q.deep ≤ 6) (h0 : faultE q.ex = 0) {w w' : World} {e : Ending} (h : PsP q.text w e w') : Below w.heap.size w w' ∧ ∃ cs, e = .returned (.tuple #[.agg cs.toArray, .nilIface]) ∧ ExV w' q.ex cs := by
 obtain ⟨hb, ⟨-, hn⟩ | ⟨p, cs, hp, hp6, hp0, ht, he, hx⟩⟩ := h
 ·exact absurd rfl (hn q hq h6 h0)
 ·rw [← text_inj hp hq hp6 h6 ht]
  exact ⟨hb, cs, he, hx⟩

def qA : Qx := .name ⟨#[97]⟩

theorem ExV.agg {W : World} {e : Ex} {cs : List Value} (h : ExV W e cs) : ∃ k n s o m cap, cs = exC k n s (.slice o m cap) ∧ k = e.kind := by
 obtain ⟨d, h⟩ := h
 obtain ⟨k, n, s, a⟩ := e
 obtain ⟨o, cap, rfl⟩ := h.agg
 exact ⟨k, n, s, o, _, cap, rfl, rfl⟩

end Go.Proofs.YtanjajjjancggaaDoor

/- The reference reads what is written: the pure part. -/
namespace Go.Proofs.YtanjajjjancggaaDoor
open Go.RowKit

def StopR (r : List UInt8) : Prop := r = [] ∨ ∃ b t, r = b :: t ∧ inRef b = false

theorem wordR_app {l r : List UInt8} (hl : ∀ b ∈ l, inRef b = true) (hr : StopR r) : (l ++ r).takeWhile inRef = l ∧ (l ++ r).dropWhile inRef = r := by
 induction l with
 | nil =>
  rcases hr with rfl | ⟨b, t, rfl, hb⟩
  ·exact ⟨rfl, rfl⟩
  ·exact ⟨by rw [List.nil_append, List.takeWhile_cons, hb]; rfl, by rw [List.nil_append, List.dropWhile_cons, hb]; rfl⟩
 | cons a l ih =>
  have ha := hl a (by simp)
  obtain ⟨h1, h2⟩ := ih (fun b hb => hl b (by simp [hb]))
  exact ⟨by rw [List.cons_append, List.takeWhile_cons, if_pos ha, h1], by rw [List.cons_append, List.dropWhile_cons, if_pos ha, h2]⟩

theorem nameR_word {s : ByteArray} (h : nmOk s = true) : ∀ b ∈ s.data.toList, inRef b = true := by
 have h := of_decide_eq_true h
 intro b hb
 obtain ⟨i, hi⟩ := List.getElem?_of_mem hb
 have hlt : i < s.size := by rw [Lib.size_eq]; exact (List.getElem?_eq_some_iff.1 hi).1
 have hby := h.2.2 i hlt
 have e : byt s i = b.toNat := by
  rw [← byt_eq hlt]
  have h1 : s[i]'hlt = b := by
   have h2 := Lib.data_getElem? s i hlt
   rw [hi] at h2
   exact (Option.some.inj h2).symm
  rw [h1]
 rw [e] at hby
 unfold inRef
 rcases hby with h | h
 ·rw [decide_eq_true (show 97 ≤ b.toNat by omega), decide_eq_true (show b.toNat ≤ 122 by omega)]
  rfl
 ·rw [decide_eq_true (show 48 ≤ b.toNat by omega), decide_eq_true (show b.toNat ≤ 57 by omega)]
  simp

def StopB (r : List UInt8) : Prop := r = [] ∨ ∃ b t, r = b :: t ∧ (b = 32 ∨ b = 41)

theorem StopB.stop {r : List UInt8} (h : StopB r) : Stop r := by
 rcases h with h | ⟨b, t, rfl, rfl | rfl⟩
 ·exact .inl h
 ·exact .inr ⟨_, _, rfl, rfl⟩
 ·exact .inr ⟨_, _, rfl, rfl⟩

theorem StopB.stopR {r : List UInt8} (h : StopB r) : StopR r := by
 rcases h with h | ⟨b, t, rfl, rfl | rfl⟩
 ·exact .inl h
 ·exact .inr ⟨_, _, rfl, rfl⟩
 ·exact .inr ⟨_, _, rfl, rfl⟩

theorem digitR {n : Nat} (h : 1 ≤ n ∧ n ≤ 4) : ∃ c : UInt8, Lib.decDigits n = [c] ∧ inRef c = true ∧ c.toNat = n + 48 := by
 have : n = 1 ∨ n = 2 ∨ n = 3 ∨ n = 4 := by omega
 rcases this with rfl | rfl | rfl | rfl
 ·exact ⟨49, by decide +kernel, rfl, rfl⟩
 ·exact ⟨50, by decide +kernel, rfl, rfl⟩
 ·exact ⟨51, by decide +kernel, rfl, rfl⟩
 ·exact ⟨52, by decide +kernel, rfl, rfl⟩

theorem spaced_apart (r : List UInt8) : Lib.hasPrefix (spacedB false ++ r) (spacedB true) = false := rfl

theorem readR_of : ∀ (q : Qx) (d : Nat) (r : List UInt8), q.ok → q.deep ≤ d → StopB r → readR d (q.text ++ r) = some (q.ex, r)
 | .name s, d, r, hok, hd, hr => by
  rw [Qx.deep] at hd
  obtain ⟨d, rfl⟩ : ∃ e, d = e + 1 := ⟨d - 1, by omega⟩
  obtain ⟨h1, -, -⟩ := calledS_nm hok
  obtain ⟨e1, e2⟩ := wordR_app (nameR_word h1) hr.stopR
  rw [Qx.text, readR, name_open hok, if_neg (by decide), show fillP = fillB ++ [32] from rfl, name_not hok hr.stop fillB (.inl rfl), if_neg (by decide), show wholeP = wholeB ++ [32] from rfl, name_not hok hr.stop wholeB (.inr rfl), if_neg (by decide), e1, e2, Qx.ex, Array.toArray_toList]
 | .whole n, d, r, hok, hd, hr => by
  rw [Qx.deep] at hd
  obtain ⟨d, rfl⟩ : ∃ e, d = e + 1 := ⟨d - 1, by omega⟩
  obtain ⟨c, hc, hi, hn⟩ := digitR hok
  obtain ⟨e1, e2⟩ := wordR_app (l := [c]) (by intro b hb; rw [List.mem_singleton] at hb; rw [hb]; exact hi) hr.stopR
  have e : (Qx.whole n).text ++ r = wholeP ++ ([c] ++ r) := by
   rw [Qx.text, hc]
   simp [wholeB, wholeP]
  obtain ⟨p1, p2⟩ := prefix_app wholeP ([c] ++ r)
  have n1 : Lib.hasPrefix (wholeP ++ ([c] ++ r)) [40] = false := rfl
  have n2 : Lib.hasPrefix (wholeP ++ ([c] ++ r)) fillP = false := rfl
  have ho : 1 ≤ n ∧ n ≤ 4 := hok
  rw [e, readR, n1, if_neg (by decide), n2, if_neg (by decide), if_pos p1, p2, e1, e2]
  simp only
  rw [if_pos (by omega), Qx.ex, hn]
  congr 3
  omega
 | .fill a, d, r, hok, hd, hr => by
  rw [Qx.deep] at hd
  obtain ⟨d, rfl⟩ : ∃ e, d = e + 1 := ⟨d - 1, by omega⟩
  have e : (Qx.fill a).text ++ r = fillP ++ (a.text ++ r) := by
   rw [Qx.text]
   simp [fillB, fillP]
  obtain ⟨p1, p2⟩ := prefix_app fillP (a.text ++ r)
  have n1 : Lib.hasPrefix (fillP ++ (a.text ++ r)) [40] = false := rfl
  rw [e, readR, n1, if_neg (by decide), if_pos p1, p2, readR_of a d r hok (by omega) hr]
  rfl
 | .two k a b, d, r, hok, hd, hr => by
  rw [Qx.deep] at hd
  obtain ⟨d, rfl⟩ : ∃ e, d = e + 1 := ⟨d - 1, by omega⟩
  have e : (Qx.two k a b).text ++ r = [40] ++ (a.text ++ (spacedB k ++ (b.text ++ ([41] ++ r)))) := by
   rw [Qx.text]
   simp
  obtain ⟨p1, p2⟩ := prefix_app [40] (a.text ++ (spacedB k ++ (b.text ++ ([41] ++ r))))
  obtain ⟨s1, s2⟩ := prefix_app (spacedB k) (b.text ++ ([41] ++ r))
  obtain ⟨c1, c2⟩ := prefix_app [41] r
  have hb := readR_of b d ([41] ++ r) hok.2 (by omega) (.inr ⟨41, _, rfl, .inr rfl⟩)
  rw [e, readR, if_pos p1, p2, readR_of a d (spacedB k ++ (b.text ++ ([41] ++ r))) hok.1 (by omega) (.inr ⟨32, _, rfl, .inl rfl⟩)]
  simp only
  cases k with
  | true =>
   rw [if_pos s1, s2, hb]
   simp only
   rw [if_pos c1, c2]
   rfl
  | false =>
   rw [spaced_apart, if_neg (by decide), if_pos s1, s2, hb]
   simp only
   rw [if_pos c1, c2]
   rfl

def ReadP (l : List UInt8) : Option (Ex × List UInt8) → Prop
 | some (x, []) => (faultE x = 0 → ∃ q : Qx, q.ok ∧ q.deep ≤ 6 ∧ q.ex = x ∧ q.text = l) ∧ (faultE x ≠ 0 → ∀ q : Qx, q.ok → q.deep ≤ 6 → faultE q.ex = 0 → q.text ≠ l)
 | _ => ∀ q : Qx, q.ok → q.deep ≤ 6 → q.text ≠ l

theorem readR_whole {q : Qx} (h : q.ok) (hd : q.deep ≤ 6) : readR 6 q.text = some (q.ex, []) := by
 have := readR_of q 6 [] h hd (.inl rfl)
 rwa [List.append_nil] at this

theorem readR_says (l : List UInt8) : ReadP l (readR 6 l) := by
 cases h : readR 6 l with
 | none =>
  intro q h1 h2 e
  rw [← e, readR_whole h1 h2] at h
  cases h
 | some p =>
  obtain ⟨x, r⟩ := p
  cases r with
  | nil =>
   refine ⟨fun h0 => ?_, fun h0 q h1 h2 h3 e => ?_⟩
   ·obtain ⟨p, hp, hx, hd⟩ := fault_q h0
    have hs : shapedE x = true := by rw [← hx]; exact q_shaped p hp
    obtain ⟨q, hq, hqx, ht⟩ := readR_text 6 l [] x h hs
    rw [List.append_nil] at ht
    have : p = q := ex_inj (hx.trans hqx.symm)
    subst this
    exact ⟨p, hp, hd, hx, ht⟩
   ·rw [← e, readR_whole h1 h2] at h
    obtain ⟨rfl, -⟩ := Prod.mk.inj (Option.some.inj h)
    exact h0 h3
  | cons b t =>
   intro q h1 h2 e
   rw [← e, readR_whole h1 h2] at h
   cases h

end Go.Proofs.YtanjajjjancggaaDoor
