/- Expressions compared, and weighed. -/
import Derived.Test.YtanjajjjancggaaDoorQxE
import Derived.Test.YtanjajjjancggaaDoorQxN
import Derived.Test.YtanjajjjancggaaDoorBpZ
import Derived.ProofKit
import Derived.Lib.SmallJoins
import Derived.ChangeOld
import Derived.Deep.SlicePairs

namespace Go.Proofs.YtanjajjjancggaaDoor
open Go.RowKit

set_option linter.unusedSimpArgs false in
set_option maxRecDepth 100000 in
set_option maxHeartbeats 3200000 in
theorem sameExpr_any : ∀ (d : Nat) (w : World) (e : Ex) (cs cs' : List Value), ExD w d e cs → ExD w d e cs' →
  Calls Tryd.prog 14 #[.agg cs.toArray, .agg cs'.toArray] w fun e' w' => e' = .returned (.bool true) ∧ Below w.heap.size w w'
 | 0, _, _, _, _, h, _ => h.elim
 | d + 1, w, .mk k n s a, cs, cs', h, h' => by
  have IH := hide (fun W x ys zs hx hx' => sameExpr_any d W x ys zs hx hx')
  obtain ⟨d', o, cap, e, rfl, hmax, hat⟩ := h.shape
  obtain rfl : d = d' := by omega
  obtain ⟨d', o', cap', e, rfl, -, hat'⟩ := h'.shape
  obtain rfl : d = d' := by omega
  have HAT := hide hat; have HAT' := hide hat'
  obtain ⟨N, hN⟩ : ∃ N, a.length = N := ⟨_, rfl⟩
  rw [hN] at hmax ⊢
  have HN := hide hN
  have hb1 := alloc_below w (.cells #[.int .i64 k, .int .i64 n, .string s, .slice o N cap] 24)
  have hx1 := ExB.new w k n s (.slice o N cap)
  obtain ⟨W1, hW1⟩ : ∃ W1, w.alloc (.cells #[.int .i64 k, .int .i64 n, .string s, .slice o N cap] 24) = W1 := ⟨_, rfl⟩
  rw [hW1] at hb1 hx1
  have hb2 := alloc_below W1 (.cells #[.int .i64 k, .int .i64 n, .string s, .slice o' N cap'] 24)
  have HY := hide (ExB.new W1 k n s (.slice o' N cap'))
  have HX := hide (hx1.later hb2)
  obtain ⟨W2, hW2⟩ : ∃ W2, W1.alloc (.cells #[.int .i64 k, .int .i64 n, .string s, .slice o' N cap'] 24) = W2 := ⟨_, rfl⟩
  rw [hW2] at hb2 HX HY
  have HB2 := hide (hb1.trans (hb2.mono hb1.size))
  obtain ⟨x0, x1, x2, x3, -⟩ := HX.out.cells
  obtain ⟨y0, y1, y2, y3, -⟩ := HY.out.cells
  have hxl := heap_lt HX.out
  clear h h' hat hat' hb1 hb2 hx1 e hN
  go_enter Tryd.func14, Tryd.ntmps14
  go_wp2
  go_loopw [5] (fun x wr => ∃ j : Nat, j ≤ N ∧ x = .int .i64 j ∧ Hid (ExB wr w.heap.size k n s (.slice o N cap)) ∧ Hid (ExB wr W1.heap.size k n s (.slice o' N cap')) ∧ Hid (Below w.heap.size w wr)) (fun x _ => N - (intOf x).toNat)
  case atStart => exact ⟨0, Nat.zero_le _, rfl, HX, HY, HB2⟩
  case round =>
   clear HX HY HB2 x0 x1 x2 x3 y0 y1 y2 y3 hxl
   obtain ⟨j, hj, rfl, HX, HY, HB⟩ := hrel
   obtain ⟨-, -, -, x3, -⟩ := HX.out.cells
   obtain ⟨-, -, -, y3, -⟩ := HY.out.cells
   by_cases hjl : j < N
   ·obtain ⟨x, hget⟩ : ∃ x, a[j]? = some x := ⟨_, List.getElem?_eq_getElem (by rw [HN.out]; exact hjl)⟩
    obtain ⟨b, off, ys, ka, ma, sa, va, rfl, hlt, hys, hx, c0, c1, c2, c3, oa, na, ca, rfl⟩ := HAT.out j _ hget
    obtain ⟨b', off', zs, kb, mb, sb, vb, rfl, hlt', hzs, hz, d0, d1, d2, d3, ob, nb, cb, rfl⟩ := HAT'.out j _ hget
    have p0 := (HB.out.cell (p := ⟨b, off + j * 4, none⟩) hlt).trans c0
    have p1 := (HB.out.cell (p := ⟨b, off + j * 4 + 1, none⟩) hlt).trans c1
    have p2 := (HB.out.cell (p := ⟨b, off + j * 4 + 2, none⟩) hlt).trans c2
    have p3 := (HB.out.cell (p := ⟨b, off + j * 4 + 3, none⟩) hlt).trans c3
    have q0 := (HB.out.cell (p := ⟨b', off' + j * 4, none⟩) hlt').trans d0
    have q1 := (HB.out.cell (p := ⟨b', off' + j * 4 + 1, none⟩) hlt').trans d1
    have q2 := (HB.out.cell (p := ⟨b', off' + j * 4 + 2, none⟩) hlt').trans d2
    have q3 := (HB.out.cell (p := ⟨b', off' + j * 4 + 3, none⟩) hlt').trans d3
    subst hys hzs
    have HC := hide (fun W (hb : Below wr.heap.size wr W) => IH.out W x _ _ ((hx.below HB.out).below hb) ((hz.below HB.out).below hb))
    have jl : (j : Int) < (N : Int) := by omega
    have j0 : (0 : Int) ≤ (j : Int) := by omega
    clear hx hz c0 c1 c2 c3 d0 d1 d2 d3 hget
    go_wp2_with fail
    go_region_held3 (fun w' => w'.cell? ⟨w.heap.size, 3, none⟩ = some (.slice (some ⟨b, off, none⟩) N cap) ∧ w'.cell? ⟨W1.heap.size, 3, none⟩ = some (.slice (some ⟨b', off', none⟩) N cap') ∧ w'.cell? ⟨b, off + j * 4, none⟩ = some (.int .i64 ka) ∧ w'.cell? ⟨b, off + j * 4 + 1, none⟩ = some (.int .i64 ma) ∧ w'.cell? ⟨b, off + j * 4 + 2, none⟩ = some (.string sa) ∧ w'.cell? ⟨b, off + j * 4 + 3, none⟩ = some (.slice oa na ca) ∧ w'.cell? ⟨b', off' + j * 4, none⟩ = some (.int .i64 kb) ∧ w'.cell? ⟨b', off' + j * 4 + 1, none⟩ = some (.int .i64 mb) ∧ w'.cell? ⟨b', off' + j * 4 + 2, none⟩ = some (.string sb) ∧ w'.cell? ⟨b', off' + j * 4 + 3, none⟩ = some (.slice ob nb cb)) (go_keep)
     (first | (go_at_call 14; refine (HC.out _ (Below.refl _ _).drew).mono ?_; rintro e w3 ⟨rfl, hb3'⟩; have hb3 : Below wr.heap.size wr w3 := (Below.refl _ _).drew.trans hb3'; have HB3 := hide (HB.out.trans (hb3.mono HB.out.size)); have HX3 := hide (HX.out.later hb3); have HY3 := hide (HY.out.later hb3); obtain ⟨-, -, -, x3', -⟩ := HX3.out.cells; obtain ⟨-, -, -, y3', -⟩ := HY3.out.cells; have p0' := (hb3.cell (p := ⟨b, off + j * 4, none⟩) (World.block_lt_of_cell? wr _ p0)).trans p0; have p1' := (hb3.cell (p := ⟨b, off + j * 4 + 1, none⟩) (World.block_lt_of_cell? wr _ p1)).trans p1; have p2' := (hb3.cell (p := ⟨b, off + j * 4 + 2, none⟩) (World.block_lt_of_cell? wr _ p2)).trans p2; have p3' := (hb3.cell (p := ⟨b, off + j * 4 + 3, none⟩) (World.block_lt_of_cell? wr _ p3)).trans p3; have q0' := (hb3.cell (p := ⟨b', off' + j * 4, none⟩) (World.block_lt_of_cell? wr _ q0)).trans q0; have q1' := (hb3.cell (p := ⟨b', off' + j * 4 + 1, none⟩) (World.block_lt_of_cell? wr _ q1)).trans q1; have q2' := (hb3.cell (p := ⟨b', off' + j * 4 + 2, none⟩) (World.block_lt_of_cell? wr _ q2)).trans q2; have q3' := (hb3.cell (p := ⟨b', off' + j * 4 + 3, none⟩) (World.block_lt_of_cell? wr _ q3)).trans q3; clear hb3 hb3'))
    clear p0 p1 p2 p3 q0 q1 q2 q3 x3 y3 p0' p1' p2' p3' q0' q1' q2' q3' x3' y3' HC HX HY HB
    go_wp2
    go_roundw
    case rel => exact ⟨j + 1, by omega, by go_num, HX3, HY3, HB3⟩
    case measure => simp [intOf]; omega
   ·obtain rfl : j = N := by omega
    go_wp2
    go_ret
    exact ⟨rfl, HB.out⟩

def HvP (w : World) (e : Ending) (w' : World) : Prop := ∃ z, e = .returned (.int .i64 z) ∧ Below w.heap.size w w'

set_option linter.unusedSimpArgs false in
set_option maxRecDepth 100000 in
set_option maxHeartbeats 1600000 in
theorem heavy_any : ∀ (d : Nat) (w : World) (e : Ex) (cs : List Value) (m : Int), ExD w d e cs →
  Calls Tryd.prog 15 #[.agg cs.toArray, .int .i64 m] w fun e' w' => HvP w e' w'
 | 0, _, _, _, _, h => h.elim
 | d + 1, w, .mk k n s a, cs, M, h => by
  have IH := hide (fun W x ys hx => heavy_any d W x ys M hx)
  obtain ⟨d', o, cap, e, rfl, hmax, hat⟩ := h.shape
  obtain rfl : d = d' := by omega
  have HAT := hide hat
  obtain ⟨N, hN⟩ : ∃ N, a.length = N := ⟨_, rfl⟩
  rw [hN] at hmax ⊢
  have HN := hide hN
  have HB := hide (alloc_below w (.cells #[.int .i64 k, .int .i64 n, .string s, .slice o N cap] 24))
  have HX := hide (ExB.new w k n s (.slice o N cap))
  obtain ⟨z0, z1, z2, z3, -⟩ := HX.out.cells
  clear h hat e hN
  go_enter Tryd.func15, Tryd.ntmps15
  go_wp2
  go_loopw [5, 6] (fun q x wr => ∃ (j : Nat) (z : Int), j ≤ N ∧ x = .int .i64 j ∧ q = .int .i64 z ∧ Hid (ExB wr w.heap.size k n s (.slice o N cap)) ∧ Hid (Below w.heap.size w wr)) (fun _ x _ => N - (intOf x).toNat)
  case atStart => exact ⟨0, _, Nat.zero_le _, rfl, rfl, HX, HB⟩
  case round =>
   clear HX HB z0 z1 z2 z3
   obtain ⟨j, z, hj, rfl, rfl, HX, HB⟩ := hrel
   obtain ⟨-, -, -, z3, -⟩ := HX.out.cells
   by_cases hjl : j < N
   ·have gj : decide ((j : Int) < (N : Int)) = true := decide_eq_true (by omega)
    by_cases hz : z ≤ M
    ·have gz : decide (z ≤ M) = true := decide_eq_true hz
     obtain ⟨x, hget⟩ : ∃ x, a[j]? = some x := ⟨_, List.getElem?_eq_getElem (by rw [HN.out]; exact hjl)⟩
     obtain ⟨b, off, ys, ka, ma, sa, va, rfl, hlt, hys, hx, c0, c1, c2, c3, oa, na, ca, rfl⟩ := HAT.out j _ hget
     have p0 := (HB.out.cell (p := ⟨b, off + j * 4, none⟩) hlt).trans c0
     have p1 := (HB.out.cell (p := ⟨b, off + j * 4 + 1, none⟩) hlt).trans c1
     have p2 := (HB.out.cell (p := ⟨b, off + j * 4 + 2, none⟩) hlt).trans c2
     have p3 := (HB.out.cell (p := ⟨b, off + j * 4 + 3, none⟩) hlt).trans c3
     subst hys
     have HC := hide (IH.out wr x _ (hx.below HB.out))
     clear hx c0 c1 c2 c3 hget
     go_wp2_with fail
     refine HC.out.mono ?_
     rintro e w3 ⟨y, rfl, hb3⟩
     have HX3 := hide (HX.out.later hb3); have HB3 := hide (HB.out.trans (hb3.mono HB.out.size))
     clear hb3 HC HX HB p0 p1 p2 p3 z3
     go_wp2
     go_roundw
     case rel => exact ⟨j + 1, _, by omega, by go_num, rfl, HX3, HB3⟩
     case measure => simp [intOf]; omega
    ·have gz : decide (z ≤ M) = false := decide_eq_false hz
     go_wp2
     go_ret
     exact ⟨_, rfl, HB.out⟩
   ·have gj : decide ((j : Int) < (N : Int)) = false := decide_eq_false (by omega)
    obtain rfl : j = N := by omega
    go_wp2
    go_ret
    exact ⟨_, rfl, HB.out⟩

def LgP (w : World) (e : Ending) (w' : World) : Prop := ∃ b, e = .returned (.bool b) ∧ Below w.heap.size w w'

theorem lightExpr_any (w : World) (e : Ex) (cs : List Value) (h : ExV w e cs) : Calls Tryd.prog 6 #[.agg cs.toArray] w fun e' w' => LgP w e' w' := by
 obtain ⟨d, h⟩ := h
 obtain ⟨k, n, s, a⟩ := e
 obtain ⟨o, cap, rfl⟩ := h.agg
 have hb1 := alloc_below w (.cells #[.int .i64 k, .int .i64 n, .string s, .slice o a.length cap] 24)
 have HC := hide (heavy_any d _ _ _ 500 (h.below hb1))
 obtain ⟨N, hN⟩ : ∃ N, a.length = N := ⟨_, rfl⟩
 rw [hN] at HC hb1 ⊢
 have HB := hide hb1
 obtain ⟨z0, z1, z2, z3, -⟩ := (ExB.new w k n s (.slice o N cap)).cells
 clear h hb1 hN
 go_enter Tryd.func6, Tryd.ntmps6
 go_wp2_with fail
 refine HC.out.mono ?_
 rintro e w2 ⟨z, rfl, hb2⟩
 have HB2 := hide (HB.out.trans (hb2.mono HB.out.size))
 clear hb2 HC HB z0 z1 z2 z3
 go_wp2
 go_ret
 exact ⟨_, rfl, HB2.out⟩

end Go.Proofs.YtanjajjjancggaaDoor

/- TopQuery. -/
namespace Go.Proofs.YtanjajjjancggaaDoor
open Go.RowKit

theorem text_inj {p q : Qx} (hp : p.ok) (hq : q.ok) (h6 : p.deep ≤ 6) (k6 : q.deep ≤ 6) (h : p.text = q.text) : p = q := by
 have h1 := read_whole hp h6
 rw [h, read_whole hq k6] at h1
 exact ex_inj (Prod.mk.inj (Option.some.inj h1)).1.symm

theorem PsP.of_text {q : Qx} (hq : q.ok) (h6 : q.deep ≤ 6) (h0 : faultE q.ex = 0) {w w' : World} {e : Ending} (h : PsP q.text w e w') : Below w.heap.size w w' ∧ ∃ cs, e = .returned (.tuple #[.agg cs.toArray, .nilIface]) ∧ ExV w' q.ex cs := by
 obtain ⟨hb, ⟨-, hn⟩ | ⟨p, cs, hp, hp6, hp0, ht, he, hx⟩⟩ := h
 ·exact absurd rfl (hn q hq h6 h0)
 ·rw [← text_inj hp hq hp6 h6 ht]
  exact ⟨hb, cs, he, hx⟩

def qA : Qx := .name ⟨#[97]⟩

theorem qA_ok : qA.ok ∧ qA.deep ≤ 6 ∧ faultE qA.ex = 0 := by
 refine ⟨?_, by decide, ?_⟩
 ·show calledS _ = true
  unfold calledS
  rw [Lib.toList_data]
  decide +kernel
 ·unfold faultE
  rw [show roomE qA.ex 6 20 = 19 from rfl, if_neg (by decide), q_shaped qA (by show calledS _ = true; unfold calledS; rw [Lib.toList_data]; decide +kernel)]
  rfl

theorem ExV.agg {W : World} {e : Ex} {cs : List Value} (h : ExV W e cs) : ∃ k n s o m cap, cs = exC k n s (.slice o m cap) ∧ k = e.kind := by
 obtain ⟨d, h⟩ := h
 obtain ⟨k, n, s, a⟩ := e
 obtain ⟨o, cap, rfl⟩ := h.agg
 exact ⟨k, n, s, o, _, cap, rfl, rfl⟩

set_option linter.unusedSimpArgs false in
set_option maxRecDepth 100000 in
set_option maxHeartbeats 6400000 in
theorem topQuery_any (w : World) (x : Ex) (cs : List Value) (s : ByteArray) (hx : ExV w x cs) (he : ErrQ w) :
  Calls Tryd.prog 4 #[.agg cs.toArray, .string s] w fun e w' => e = .returned (.bool true) ∧ Below w.heap.size w w' := by
 obtain ⟨k, n, z, o, m, cap, rfl, -⟩ := hx.agg
 obtain ⟨l, hl⟩ : ∃ l, s.data.toList = l := ⟨_, rfl⟩
 obtain rfl : s = ⟨l.toArray⟩ := by rw [← hl, Array.toArray_toList]
 have hb1 := alloc_below w (.cells #[.int .i64 k, .int .i64 n, .string z, .slice o m cap] 24)
 have HB := hide (ExB.new w k n z (.slice o m cap))
 have HXV := hide (hx.below hb1); have HE := hide (he.below hb1); have HW := hide hb1
 obtain ⟨W1, hW1⟩ : ∃ W1, w.alloc (.cells #[.int .i64 k, .int .i64 n, .string z, .slice o m cap] 24) = W1 := ⟨_, rfl⟩
 rw [hW1] at HB HXV HE HW
 have HA := hide (parse_any W1 [97] (by decide) HE.out)
 clear hx he hb1 hl
 go_enter Tryd.func4, Tryd.ntmps4
 go_wp2_with fail
 refine HA.out.mono ?_
 rintro e w2 hps
 obtain ⟨hb2, ac, rfl, hav⟩ := PsP.of_text qA_ok.1 qA_ok.2.1 qA_ok.2.2 (show PsP qA.text W1 e w2 from hps)
 obtain ⟨k5, n5, z5, o5, m5, cap5, rfl, hk5⟩ := hav.agg
 have hk5' : k5 = 1 := hk5
 subst hk5'
 have HB2 := hide (HB.out.later hb2); have HXV2 := hide (HXV.out.below hb2); have HE2 := hide (HE.out.below hb2); have HW2 := hide (HW.out.trans (hb2.mono HW.out.size))
 clear hps hb2 hav hk5 HB HXV HE HW HA
 have hb3 := alloc_below w2 (.cells #[.int .i64 1, .int .i64 n5, .string z5, .slice o5 m5 cap5] 24)
 have hY3 := ExB.new w2 1 n5 z5 (.slice o5 m5 cap5)
 obtain ⟨W3, hW3⟩ : ∃ W3, w2.alloc (.cells #[.int .i64 1, .int .i64 n5, .string z5, .slice o5 m5 cap5] 24) = W3 := ⟨_, rfl⟩
 rw [hW3] at hb3 hY3
 have HB3 := hide (HB2.out.later hb3); have HXV3 := hide (HXV2.out.below hb3); have HE3 := hide (HE2.out.below hb3); have HW3 := hide (HW2.out.trans (hb3.mono HW2.out.size))
 obtain ⟨y0, -, -, -, -⟩ := hY3.cells
 clear hb3 hY3 HB2 HXV2 HE2 HW2
 obtain ⟨b0, b1, b2, b3, -⟩ := HB3.out.cells
 have HLG := hide (lightExpr_any W3 x _ HXV3.out)
 go_wp2_with fail
 refine HLG.out.mono ?_
 rintro e w4 ⟨bl, rfl, hb4⟩
 have HB4 := hide (HB3.out.later hb4); have HXV4 := hide (HXV3.out.below hb4); have HE4 := hide (HE3.out.below hb4); have HW4 := hide (HW3.out.trans (hb4.mono HW3.out.size))
 clear hb4 HLG b0 b1 b2 b3 y0 HB3 HXV3 HE3 HW3
 cases bl with
 | false =>
  go_wp2
  go_ret
  exact ⟨rfl, HW4.out⟩
 | true =>
  by_cases h5 : 500 < l.length
  ·have g5 : decide (500 < (l.length : Int)) = true := decide_eq_true (by omega)
   go_wp2
   go_ret
   exact ⟨rfl, HW4.out⟩
  have g5 : decide (500 < (l.length : Int)) = false := decide_eq_false (by omega)
  obtain ⟨b0, b1, b2, b3, -⟩ := HB4.out.cells
  have HTX := hide (text_any w4 x _ HXV4.out)
  go_wp2_with fail
  refine HTX.out.mono ?_
  rintro e w5 ⟨hb5, hres⟩
  have HB5 := hide (HB4.out.later hb5); have HXV5 := hide (HXV4.out.below hb5); have HE5 := hide (HE4.out.below hb5); have HW5 := hide (HW4.out.trans (hb5.mono HW4.out.size))
  clear hb5 HTX b0 b1 b2 b3 HB4 HXV4 HE4 HW4
  rcases hres with ⟨-, rfl⟩ | ⟨q, hq, hqe, hq6, hq0, rfl⟩
  ·generalize faultE x = F at *
   go_wp2_with fail
   refine (parse_any w5 l (by omega) HE5.out).mono ?_
   rintro e v1 ⟨hv1, hres⟩
   rcases hres with ⟨rfl, -⟩ | ⟨q, qc, hq, hq6, hq0, hqt, rfl, hqx⟩
   ·have HV1 := hide (HW5.out.trans (hv1.mono HW5.out.size))
    clear hv1
    go_wp2
    go_ret
    exact ⟨rfl, HV1.out.trans ((alloc_below _ _).mono HV1.out.size)⟩
   ·obtain ⟨k7, n7, z7, o7, m7, cap7, rfl, -⟩ := hqx.agg
    have hv2 := alloc_below v1 (.cells #[.int .i64 k7, .int .i64 n7, .string z7, .slice o7 m7 cap7] 24)
    have hY7 := ExB.new v1 k7 n7 z7 (.slice o7 m7 cap7)
    obtain ⟨V2, hV2⟩ : ∃ V2, v1.alloc (.cells #[.int .i64 k7, .int .i64 n7, .string z7, .slice o7 m7 cap7] 24) = V2 := ⟨_, rfl⟩
    rw [hV2] at hv2 hY7
    have HT7 := hide (text_any V2 q.ex _ (hqx.below hv2))
    have HV2 := hide (HW5.out.trans ((hv1.trans (hv2.mono hv1.size)).mono HW5.out.size))
    obtain ⟨y0, y1, y2, y3, -⟩ := hY7.cells
    have HQ0 := hide hq0; have HQT := hide hqt
    clear hv1 hv2 hY7 hqx hq0 hqt
    go_wp2_with fail
    refine HT7.out.mono ?_
    rintro e v3 ⟨hv3, hres⟩
    rcases hres with ⟨hne, -⟩ | ⟨p, hp, hpe, -, -, rfl⟩
    ·exact absurd HQ0.out hne
    ·obtain rfl := ex_inj hpe
     rw [HQT.out]
     have HV3 := hide (HV2.out.trans (hv3.mono HV2.out.size))
     clear hv3 HT7 y0 y1 y2 y3
     go_wp2
     go_ret
     exact ⟨rfl, HV3.out⟩
  ·have hql : q.text.length ≤ 1000000 := text_million hq (by omega)
   rw [← hqe] at hq0
   have HPQ := hide (fun W (hE : ErrQ W) => parse_any W q.text hql hE)
   have HOF := hide (fun (w w' : World) (e : Ending) (h : PsP q.text w e w') => PsP.of_text hq hq6 hq0 h)
   have HQE := hide hqe
   clear hq hqe hq6 hq0 hql
   go_wp2_with fail
   refine (HPQ.out w5 HE5.out).mono ?_
   rintro e w6 hps
   obtain ⟨hb6, qc, rfl, hqx⟩ := HOF.out _ _ _ hps
   rw [HQE.out] at hqx
   obtain ⟨k6, n6, z6, o6, m6, cap6, rfl, -⟩ := hqx.agg
   have hb7 := alloc_below w6 (.cells #[.int .i64 k6, .int .i64 n6, .string z6, .slice o6 m6 cap6] 24)
   have hY7 := ExB.new w6 k6 n6 z6 (.slice o6 m6 cap6)
   obtain ⟨W7, hW7⟩ : ∃ W7, w6.alloc (.cells #[.int .i64 k6, .int .i64 n6, .string z6, .slice o6 m6 cap6] 24) = W7 := ⟨_, rfl⟩
   rw [hW7] at hb7 hY7
   have hb57 := hb6.trans (hb7.mono hb6.size)
   have HB7 := hide (HB5.out.later hb57); have HE7 := hide (HE5.out.below hb57); have HW7 := hide (HW5.out.trans (hb57.mono HW5.out.size))
   have HSM : Hid (Calls Tryd.prog 14 #[.agg (exC k6 n6 z6 (.slice o6 m6 cap6)).toArray, .agg (exC k n z (.slice o m cap)).toArray] W7 fun e' w' => e' = .returned (.bool true) ∧ Below W7.heap.size W7 w') := by
    obtain ⟨d1, h1⟩ := hqx.below hb7
    obtain ⟨d2, h2⟩ := HXV5.out.below hb57
    exact sameExpr_any (max d1 d2) W7 x _ _ (h1.mono (Nat.le_max_left _ _)) (h2.mono (Nat.le_max_right _ _))
   obtain ⟨b0, b1, b2, b3, -⟩ := HB7.out.cells
   obtain ⟨y0, y1, y2, y3, -⟩ := hY7.cells
   clear hps hb6 hb7 hb57 hY7 hqx HB5 HXV5 HE5 HW5 HPQ HOF
   go_wp2_with fail
   refine HSM.out.mono ?_
   rintro e w8 ⟨rfl, hb8⟩
   have HE8 := hide (HE7.out.below hb8); have HW8 := hide (HW7.out.trans (hb8.mono HW7.out.size))
   clear hb8 HSM HB7 HE7 HW7 b0 b1 b2 b3 y0 y1 y2 y3
   go_wp2_with fail
   refine (parse_any w8 l (by omega) HE8.out).mono ?_
   rintro e v1 ⟨hv1, hres⟩
   rcases hres with ⟨rfl, -⟩ | ⟨q, qc, hq, hq6, hq0, hqt, rfl, hqx⟩
   ·have HV1 := hide (HW8.out.trans (hv1.mono HW8.out.size))
    clear hv1
    go_wp2
    go_ret
    exact ⟨rfl, HV1.out.trans ((alloc_below _ _).mono HV1.out.size)⟩
   ·obtain ⟨k7, n7, z7, o7, m7, cap7, rfl, -⟩ := hqx.agg
    have hv2 := alloc_below v1 (.cells #[.int .i64 k7, .int .i64 n7, .string z7, .slice o7 m7 cap7] 24)
    have hY7 := ExB.new v1 k7 n7 z7 (.slice o7 m7 cap7)
    obtain ⟨V2, hV2⟩ : ∃ V2, v1.alloc (.cells #[.int .i64 k7, .int .i64 n7, .string z7, .slice o7 m7 cap7] 24) = V2 := ⟨_, rfl⟩
    rw [hV2] at hv2 hY7
    have HT7 := hide (text_any V2 q.ex _ (hqx.below hv2))
    have HV2 := hide (HW8.out.trans ((hv1.trans (hv2.mono hv1.size)).mono HW8.out.size))
    obtain ⟨y0, y1, y2, y3, -⟩ := hY7.cells
    have HQ0 := hide hq0; have HQT := hide hqt
    clear hv1 hv2 hY7 hqx hq0 hqt
    go_wp2_with fail
    refine HT7.out.mono ?_
    rintro e v3 ⟨hv3, hres⟩
    rcases hres with ⟨hne, -⟩ | ⟨p, hp, hpe, -, -, rfl⟩
    ·exact absurd HQ0.out hne
    ·obtain rfl := ex_inj hpe
     rw [HQT.out]
     have HV3 := hide (HV2.out.trans (hv3.mono HV2.out.size))
     clear hv3 HT7 y0 y1 y2 y3
     go_wp2
     go_ret
     exact ⟨rfl, HV3.out⟩

end Go.Proofs.YtanjajjjancggaaDoor

/- Expressions that came in: as they read. -/
namespace Go.Proofs.YtanjajjjancggaaDoor
open Go.ChangeShapes Go.WideShapes Go.ChangeAt Go.RowKit Go.Joins

theorem Tryd.cellsExX : Tryd.prog.cellsOf 24 = 4 := by kernel_rfl
theorem Tryd.cellsStrX : Tryd.prog.cellsOf 9 = 1 := by kernel_rfl
theorem Tryd.cellsIntX : Tryd.prog.cellsOf 3 = 1 := by kernel_rfl
theorem Tryd.cellsExSX : Tryd.prog.cellsOf 22 = 1 := by kernel_rfl

instance : Inhabited Ex := ⟨.mk 0 0 ⟨#[]⟩ []⟩

section
variable {H : Type} {enc : TypeId × Value → H} {W : World}

theorem spot_noneX {a : Addr} {v : Value} (h : W.cell? (a.add 0) = some v) : ∃ b off, a = ⟨b, off, none⟩ ∧ b < W.heap.size := by
 obtain ⟨b, off, spot⟩ := a
 have hs : spot = none := by simpa [Addr.add] using World.cell?_spot h
 subst hs
 exact ⟨b, off, rfl, by simpa [Addr.add] using World.block_lt_of_cell? W _ h⟩

theorem ExD.len4 {d : Nat} {x : Ex} {cs : List Value} (h : ExD W d x cs) : cs.length = 4 := by
 cases d with
 | zero => exact h.elim
 | succ d =>
  obtain ⟨k, n, s, a⟩ := x
  rw [ExD] at h
  obtain ⟨o, cap, rfl, -⟩ := h
  rfl

set_option maxRecDepth 100000 in
theorem open_exD : ∀ (n : Nat) {cs : List Value} {y : DataW H × List MemPlace}, DataW.trod enc Tryd.prog W 0 (fun _ => true) true n 24 cs = some y → ∃ x, ExD W n x cs := by
 intro n
 induction n using Nat.strongRecOn with
 | _ n ih =>
 intro cs y h
 obtain ⟨xs, k, rfl, -, hl, hxl, hf⟩ := DataW.trod_struct Tryd.underlying24 h
 rw [Tryd.cellsExX] at hl
 match cs, hl with
 | [v0, v1, v2, v3], _ =>
  match xs, hxl with
  | [x0, x1, x2, x3], _ =>
   have g0 : DataW.trod enc Tryd.prog W 0 (fun _ => true) true k 3 (([v0, v1, v2, v3].drop 0).take (Tryd.prog.cellsOf 3)) = [x0, x1, x2, x3][0]? := hf 0 _ rfl
   have g1 : DataW.trod enc Tryd.prog W 0 (fun _ => true) true k 3 (([v0, v1, v2, v3].drop 1).take (Tryd.prog.cellsOf 3)) = [x0, x1, x2, x3][1]? := hf 1 _ rfl
   have g2 : DataW.trod enc Tryd.prog W 0 (fun _ => true) true k 9 (([v0, v1, v2, v3].drop 2).take (Tryd.prog.cellsOf 9)) = [x0, x1, x2, x3][2]? := hf 2 _ rfl
   have g3 : DataW.trod enc Tryd.prog W 0 (fun _ => true) true k 22 (([v0, v1, v2, v3].drop 3).take (Tryd.prog.cellsOf 22)) = [x0, x1, x2, x3][3]? := hf 3 _ rfl
   rw [Tryd.cellsIntX] at g0 g1
   rw [Tryd.cellsStrX] at g2
   rw [Tryd.cellsExSX] at g3
   obtain ⟨kd, e0, -, -⟩ := DataW.trod_int Tryd.underlying3 g0
   obtain ⟨nn, e1, -, -⟩ := DataW.trod_int Tryd.underlying3 g1
   obtain ⟨name, e2, -, -⟩ := DataW.trod_string Tryd.underlying9 g2
   have e0' : v0 = .int .i64 kd := by simpa using e0
   have e1' : v1 = .int .i64 nn := by simpa using e1
   have e2' : v2 = .string name := by simpa using e2
   subst e0' e1' e2'
   rcases DataW.trod_slice Tryd.underlying22 (show DataW.trod enc Tryd.prog W 0 (fun _ => true) true k 22 [v3] = some x3 from g3) with ⟨e, -⟩ | ⟨a, l, c, elems, rest, m, rfl, e, -, -, hlc, hcm, hel, hc, -⟩
   ·have e' : v3 = .slice none 0 0 := by simpa using e
    subst e'
    refine ⟨.mk kd nn name [], ?_⟩
    rw [ExD]
    exact ⟨none, 0, rfl, Nat.le_refl _, by decide, fun h => absurd h (by decide)⟩
   ·have e' : v3 = .slice (some a) l c := by simpa using e
    subst e'
    have hc' : ∀ i, i < l → ∃ cs', W.cells? 0 (a.add (i * 4)) 4 = some cs' ∧ ∃ y, DataW.trod enc Tryd.prog W 0 (fun _ => true) true m 24 cs' = some y := fun i hi => by
     have h1 := hc i hi
     rw [Tryd.cellsExX, List.getElem?_eq_getElem (by omega)] at h1
     obtain ⟨cs', h2, h3⟩ := Option.bind_eq_some_iff.1 h1
     exact ⟨cs', h2, _, h3⟩
    have each : ∀ i, i < l → ∃ q : Ex, ∃ ys, ExD W m q ys ∧ ∀ (j : Nat) (u : Value), ys[j]? = some u → W.cell? (a.add (i * 4 + j)) = some u := fun i hi => by
     obtain ⟨ys, h1, y, h2⟩ := hc' i hi
     obtain ⟨-, hlen, hcell⟩ := World.cells?_some h1
     obtain ⟨q, hq⟩ := ih m (by omega) h2
     refine ⟨q, ys, hq, fun j u hu => ?_⟩
     have hj := (List.getElem?_eq_some_iff.1 hu).1
     have := hcell j (by omega)
     rw [Go.Deep.add_add, hu] at this
     exact this
    obtain ⟨q, hq⟩ := Go.Deep.choose_lt each
    have hlen : ((List.range l).map q).length = l := by simp
    refine ⟨.mk kd nn name ((List.range l).map q), ?_⟩
    rw [ExD]
    have hmax : c ≤ 9223372036854775807 := Nat.le_trans hcm (by decide)
    refine ⟨some a, c, by rw [hlen], by rw [hlen]; exact hlc, by rw [hlen]; omega, fun h0 => ?_⟩
    rw [hlen] at h0
    obtain ⟨ys0, hd0, hc0⟩ := hq 0 h0
    have c0 := hc0 0 (ys0[0]'(by have := hd0.len4; omega)) (List.getElem?_eq_getElem _)
    obtain ⟨b, off, rfl, hlt⟩ := spot_noneX (by simpa using c0)
    refine ⟨b, off, rfl, hlt, fun i x hx => ?_⟩
    obtain ⟨hi, e⟩ := List.getElem?_eq_some_iff.1 hx
    rw [hlen] at hi
    have ep : x = q i := by simpa using e.symm
    subst ep
    obtain ⟨ys, hd, hcc⟩ := hq i hi
    refine ⟨ys, hd.up, fun j u hu => ?_⟩
    have := hcc j u hu
    rw [Go.WideShapes.add_plain] at this
    rw [Nat.add_assoc]
    exact this

set_option maxRecDepth 100000 in
theorem open_exV {r : Reach} {b0 : Nat} {v : Value} {d : DataW H} {p : List MemPlace} (hv : Value.okWide Tryd.prog W r b0 24 v) (h : DataW.Trod enc Tryd.prog W 0 (fun _ => true) true 24 v d p) : ∃ x cs, v = .agg cs.toArray ∧ ExV W x cs := by
 obtain ⟨cs, rfl, -⟩ := okWide_struct Tryd.underlying24 hv
 obtain ⟨fuel, hf⟩ := h
 obtain ⟨x, hx⟩ := open_exD fuel (cs := cs.toList) hf
 exact ⟨x, cs.toList, rfl, fuel, hx⟩

end

end Go.Proofs.YtanjajjjancggaaDoor
