/- The reference: a number of 64 bits. -/
import Derived.Test.YtanjajjjancggaaDoorRefA
import Derived.Test.YtanjajjjancggaaDoorOps2

namespace Go.Proofs.YtanjajjjancggaaDoor
open Go.RowKit Limbs Digs

def BoxR (w : World) (B : Nat) (u0 u1 : Value) : Prop := w.heap[B]? = some (.cells #[u0, u1] 58 (0, 0))

theorem BoxR.box {w : World} {B : Nat} {u0 u1 : Value} (h : BoxR w B u0 u1) : Box w B u0 u1 := by
 unfold BoxR at h
 simp [Box, World.cell?, World.frozen?, h]

theorem BoxR.lt {w : World} {B : Nat} {u0 u1 : Value} (h : BoxR w B u0 u1) : B < w.heap.size := heap_lt h

theorem BoxR.later {W w1 : World} {B C : Nat} {u0 u1 : Value} (h : BoxR W B u0 u1) (hb : Below C W w1) (hB : B < C) : BoxR w1 B u0 u1 := (hb.block B hB).trans h

theorem boxR_new (W : World) (u0 u1 : Value) (B : Nat) (hB : B = W.heap.size) : BoxR (W.alloc (.cells #[u0, u1] 58)) B u0 u1 := by
 subst hB; exact heap_alloc_new W _

theorem BoxR.set {w : World} {B : Nat} {u0 u1 : Value} (h : BoxR w B u0 u1) (v0 v1 : Value) : BoxR ((w.setCell ⟨B, 0, none⟩ v0).setCell ⟨B, 1, none⟩ v1) B v0 v1 := by
 have h1 := heap_setCell_same w B 0 _ _ v0 h
 have h2 := heap_setCell_same _ B 1 _ _ v1 h1
 exact h2

theorem BoxR.other {w : World} {B C : Nat} {u0 u1 : Value} (h : BoxR w B u0 u1) (hne : B ≠ C) (k : Nat) (v : Value) : BoxR (w.setCell ⟨C, k, none⟩ v) B u0 u1 :=
 (heap_setCell_other w ⟨C, k, none⟩ B v hne).trans h

theorem Dig.setCell {w : World} {v : Value} {ds : List Int} (h : Dig w v ds) {B : Nat} {c : Array Value} {t : TypeId} {fz : Nat × Nat} (hB : w.heap[B]? = some (.cells c t fz)) (ht : t ≠ 3) (k : Nat) (u : Value) : Dig (w.setCell ⟨B, k, none⟩ u) v ds := by
 obtain ⟨ao, cap, hv, h1, h2, h3, h4⟩ := h
 refine ⟨ao, cap, hv, h1, h2, h3, fun h0 => ?_⟩
 obtain ⟨b, off, cur, fz', e, hlt, hc⟩ := h4 h0
 have hne : b ≠ B := fun e => by
  subst e
  rw [hlt] at hB
  simp only [Option.some.injEq, Obj.cells.injEq] at hB
  exact ht hB.2.1.symm
 exact ⟨b, off, cur, fz', e, (heap_setCell_other w _ b u hne).trans hlt, fun i hi => (World.cell?_of_block (a := ⟨b, off + i, none⟩) (heap_setCell_other w ⟨B, k, none⟩ b u hne)).trans (hc i hi)⟩

theorem NumR.setCell {w : World} {v : Value} {z : Int} {n : Nat} (h : NumR w v z n) {B : Nat} {u0 u1 : Value} (hB : BoxR w B u0 u1) (v0 v1 : Value) : NumR ((w.setCell ⟨B, 0, none⟩ v0).setCell ⟨B, 1, none⟩ v1) v z n := by
 obtain ⟨s, sl, ds, h1, h2, h3⟩ := h
 have hb := heap_setCell_same w B 0 _ _ v0 hB
 exact ⟨s, sl, ds, h1, (h2.setCell hB (by decide) 0 v0).setCell hb (by decide) 1 v1, h3⟩

theorem boxedR {w w2 : World} {B : Nat} {z : Int} {n : Nat} {s : Int} {sl : Value} {u0 u1 : Value} (hr : NumR w2 (.agg #[.int .i64 s, sl]) z n) (hB : BoxR w2 B u0 u1) (hb : Below w.heap.size w w2) (hle : w.heap.size ≤ B) :
  RefPost w z n (.returned (.agg #[.int .i64 s, sl])) ((w2.setCell ⟨B, 0, none⟩ (.int .i64 s)).setCell ⟨B, 1, none⟩ sl) :=
 ⟨_, rfl, hr.setCell hB _ _, (hb.setCell (by exact hle) _).setCell (by exact hle) _⟩

theorem NumR.form {w : World} {v : Value} {z : Int} {n : Nat} (h : NumR w v z n) : ∃ (s : Int) (o : Option Addr) (l c : Nat), v = .agg #[.int .i64 s, .slice o l c] ∧ (s = 0 ∨ s = 1 ∨ s = -1) := by
 obtain ⟨s, sl, ds, h1, ⟨ao, cap, rfl, -⟩, -, -, hs, -⟩ := h
 exact ⟨s, ao, ds.length, cap, h1, by omega⟩

theorem DB_append {ds : List Int} (h : DB ds) {r : Int} (hr : 0 ≤ r ∧ r < 10000) : DB (ds ++ [r]) := by
 intro i
 rw [List.getD_eq_getElem?_getD]
 rcases Nat.lt_trichotomy i ds.length with hi | hi | hi
 ·rw [List.getElem?_append_left hi, ← List.getD_eq_getElem?_getD]; exact h i
 ·subst hi; simp; omega
 ·rw [List.getElem?_eq_none (by simp; omega)]; simp

theorem dv_snoc (ds : List Int) (r : Int) : dv (ds ++ [r]) = dv ds + dp ds.length * r := by
 rw [dv_append]; simp [dv]

def NInv (w wr : World) (m X : Int) (d : Value) (ds : List Int) : Prop :=
 wr.ownsRow (w.heap.size + 1) 3 1 d ds.length (ds.map (Value.int .i64)) ∧ BoxR wr w.heap.size (.int .i64 0) (.slice none 0 0) ∧ Below w.heap.size w wr ∧ DB ds ∧ m = dv ds + dp ds.length * X ∧ 0 ≤ X ∧ X ≤ 9223372036854775808 ∧ ds.length ≤ 5

theorem NInv.few {w wr : World} {m X : Int} {d : Value} {ds : List Int} (h : NInv w wr m X d ds) (hm : m ≤ 9223372036854775808) (hX : X ≠ 0) : ds.length < 5 := by
 obtain ⟨-, -, -, h4, h5, h6, -, h8⟩ := h
 by_cases hk : ds.length < 5
 ·exact hk
 ·have e : ds.length = 5 := by omega
  rw [e] at h5
  have := dv_nonneg h4
  have e5 : dp 5 = 100000000000000000000 := by decide
  rw [e5] at h5
  omega

theorem NInv.step {w wr w3 : World} {m X r : Int} {d d' : Value} {ds : List Int} (h : NInv w wr m X d ds) (hm : m ≤ 9223372036854775808) (hX : X ≠ 0) (hr : X % 10000 = r)
  (hown : w3.ownsRow (w.heap.size + 1) 3 1 d' (ds.length + 1) (ds.map (Value.int .i64) ++ [.int .i64 r])) (hg : (wr.alloc (.cells #[.int .i64 r] 3)).grownBy w3 d.ownBlock) : NInv w w3 m (X / 10000) d' (ds ++ [r]) := by
 have hf := h.few hm hX
 obtain ⟨h1, h2, h3, h4, h5, h6, h7, h8⟩ := h
 have hb := below_app h1 (by have := h2.lt; omega) hg
 refine ⟨by rw [List.length_append, List.map_append]; exact hown, h2.later hb (by omega), h3.trans (hb.mono (by omega)), DB_append h4 (by omega), ?_, by omega, by omega, by simp; omega⟩
 rw [dv_snoc, List.length_append, List.length_singleton, h5]
 simp only [dp]
 have e : 10000 * dp ds.length * (X / 10000) = dp ds.length * (10000 * (X / 10000)) := by rw [Int.mul_comm 10000, Int.mul_assoc]
 rw [e, Int.add_assoc, ← Int.mul_add]
 congr 2
 omega

set_option maxRecDepth 100000 in
set_option maxHeartbeats 1600000 in
theorem n_walk (w : World) (n s m : Int) (h0 : -9223372036854775808 ≤ n) (h1 : n ≤ 9223372036854775807) (hs : s = if n < 0 then -1 else 1) (hm : m = if n < 0 then -n else n) :
  Calls Tryd.prog 30 #[.int .i64 n] w fun e w' => RefPost w n 5 e w' := by
 obtain ⟨i0, hi, hz0, hz1, hz2⟩ := info_parts Tryd.infoInt
 have HM := hide (show n = s * m by rw [hs, hm]; split <;> omega)
 have HS := hide (show s = 1 ∨ s = -1 by rw [hs]; split <;> simp)
 have hm0 : 0 ≤ m := by rw [hm]; split <;> omega
 have hm1 : m ≤ 9223372036854775808 := by rw [hm]; split <;> omega
 have hx : Hid (NInv w (w.alloc (.cells #[.int .i64 0, .slice none 0 0] 58)) m m (.slice none 0 0) []) :=
  ⟨World.ownsRow_nil _ _ _ _, boxR_new w _ _ _ rfl, (Below.refl _ _).alloc (Nat.le_refl _) _, DB_nil, by simp [dv, dp], hm0, hm1, by simp⟩
 have hw : n < 0 → IntKind.u64.wrap (-IntKind.u64.wrap n) = m := fun h => by rw [IntKind.wrap_u64, IntKind.wrap_u64, hm, if_pos h]; omega
 have HW : Hid (Below w.heap.size w (w.alloc (.cells #[.int .i64 0, .slice none 0 0] 58))) := (Below.refl _ _).alloc (Nat.le_refl _) _
 go_enter Tryd.func30, Tryd.ntmps30
 by_cases hn : n < 0
 ·have hw' := hw hn
  rw [if_pos hn] at hs
  subst hs
  clear hm hw
  go_wp2
  go_loopw [4, 5] (fun x d wr => ∃ (X : Int) (ds : List Int), x = .int .u64 X ∧ NInv w wr m X d ds) (fun x _ _ => (intOf x).toNat)
  case atStart => exact ⟨m, [], rfl, hx.out⟩
  case round =>
   obtain ⟨X, ds, rfl, hinv⟩ := hrel
   have hX0 := hinv.2.2.2.2.2.1
   have hX1 := hinv.2.2.2.2.2.2.1
   by_cases hX : X = 0
   ·subst hX
    have HE := hide (show m = dv ds by have := hinv.2.2.2.2.1; simpa using this)
    have HD := hide (Dig.owns hinv.1 hinv.2.2.2.1 (by have := hinv.2.2.2.2.2.2.2; omega))
    have HBX := hide hinv.2.1
    have HBL := hide hinv.2.2.1
    have HL5 := hide hinv.2.2.2.2.2.2.2
    clear hinv
    go_wp2_with fail
    refine (cutNum_any wr _ _ ds HD.out (by simp)).mono ?_
    rintro e w2 ⟨r, rfl, hr, hb2⟩
    have hB := HBX.out.later hb2 HBX.out.lt
    rw [← HE.out, ← HM.out] at hr
    have hr5 := hr.mono HL5.out
    obtain ⟨sr, o, l, c, rfl, -⟩ := hr.form
    obtain ⟨c0, c1, f0, f1⟩ := hB.box
    have HF := hide (boxedR hr5 hB (HBL.out.trans (hb2.mono HBL.out.size)) (Nat.le_refl _))
    clear hr hr5 hB hb2 HBX HBL HD HE HM
    go_wp2
    exact bodyPost_ret (v := .agg #[.int .i64 sr, .slice o l c]) (by simp [results, Tryd.results30, go_sem, c0, c1]) rfl HF.out
   ·have hfew := hinv.few hm1 hX
    have hown := hinv.1
    have HBX := hide hinv.2.1.lt
    have HST := hide (fun d' w3 hown' hg => hinv.step (d' := d') (w3 := w3) hm1 hX rfl hown' hg)
    have hXp : 0 < X := by omega
    have hmod : X % 10000 ≤ 9999 := by omega
    have hmod0 : 0 ≤ X % 10000 := by omega
    have hdec : decide (0 < X) = true := decide_eq_true hXp
    clear hinv
    go_wp2_with (at_builtin; refine wpList_append_lies _ rfl _ _ 56 rfl (w.heap.size + 1) 3 i0 (.int .i64 0) 1 8 Tryd.underlying56 hi hz0 hz1 hz2 rfl (by decide) u5 ds.length (ds.map (Value.int .i64)) rfl (hown.alloc _) ⟨wr.heap.size, 0, none⟩ 1 1 [.int .i64 (X % 10000)] rfl rfl ?c1 ?c2 (by decide) ?c3 ?c4 ?c5 (wr.heap.size + 1) (by simp) ?_)
    case c1 => exact World.news_of_block (heap_alloc_new wr _)
    case c2 => intro u hu; simp at hu; subst hu; rfl
    case c3 => unfold maxLen; omega
    case c4 => omega
    case c5 => simp; have := HBX.out; omega
    intro g cap' w3 hown3 hgrow3 hat3 hlt3
    have HF := hide (HST.out _ _ hown3 hgrow3)
    clear hown3 hgrow3 hat3 hown HST HBX
    go_wp2
    go_roundw
    case rel => exact ⟨_, _, rfl, HF.out⟩
    case measure => simp [intOf]; omega
 ·rw [if_neg hn] at hs hm
  subst hs hm
  clear hw
  go_wp2
  go_loopw [4, 5] (fun x d wr => ∃ (X : Int) (ds : List Int), x = .int .u64 X ∧ NInv w wr m X d ds) (fun x _ _ => (intOf x).toNat)
  case atStart => exact ⟨m, [], rfl, hx.out⟩
  case round =>
   obtain ⟨X, ds, rfl, hinv⟩ := hrel
   have hX0 := hinv.2.2.2.2.2.1
   have hX1 := hinv.2.2.2.2.2.2.1
   by_cases hX : X = 0
   ·subst hX
    have HE := hide (show m = dv ds by have := hinv.2.2.2.2.1; simpa using this)
    have HD := hide (Dig.owns hinv.1 hinv.2.2.2.1 (by have := hinv.2.2.2.2.2.2.2; omega))
    have HBX := hide hinv.2.1
    have HBL := hide hinv.2.2.1
    have HL5 := hide hinv.2.2.2.2.2.2.2
    clear hinv
    go_wp2_with fail
    refine (cutNum_any wr _ _ ds HD.out (by simp)).mono ?_
    rintro e w2 ⟨r, rfl, hr, hb2⟩
    have hB := HBX.out.later hb2 HBX.out.lt
    rw [← HE.out, ← HM.out] at hr
    have hr5 := hr.mono HL5.out
    obtain ⟨sr, o, l, c, rfl, -⟩ := hr.form
    obtain ⟨c0, c1, f0, f1⟩ := hB.box
    have HF := hide (boxedR hr5 hB (HBL.out.trans (hb2.mono HBL.out.size)) (Nat.le_refl _))
    clear hr hr5 hB hb2 HBX HBL HD HE HM
    go_wp2
    exact bodyPost_ret (v := .agg #[.int .i64 sr, .slice o l c]) (by simp [results, Tryd.results30, go_sem, c0, c1]) rfl HF.out
   ·have hfew := hinv.few hm1 hX
    have hown := hinv.1
    have HBX := hide hinv.2.1.lt
    have HST := hide (fun d' w3 hown' hg => hinv.step (d' := d') (w3 := w3) hm1 hX rfl hown' hg)
    have hXp : 0 < X := by omega
    have hmod : X % 10000 ≤ 9999 := by omega
    have hmod0 : 0 ≤ X % 10000 := by omega
    have hdec : decide (0 < X) = true := decide_eq_true hXp
    clear hinv
    go_wp2_with (at_builtin; refine wpList_append_lies _ rfl _ _ 56 rfl (w.heap.size + 1) 3 i0 (.int .i64 0) 1 8 Tryd.underlying56 hi hz0 hz1 hz2 rfl (by decide) u5 ds.length (ds.map (Value.int .i64)) rfl (hown.alloc _) ⟨wr.heap.size, 0, none⟩ 1 1 [.int .i64 (X % 10000)] rfl rfl ?c1 ?c2 (by decide) ?c3 ?c4 ?c5 (wr.heap.size + 1) (by simp) ?_)
    case c1 => exact World.news_of_block (heap_alloc_new wr _)
    case c2 => intro u hu; simp at hu; subst hu; rfl
    case c3 => unfold maxLen; omega
    case c4 => omega
    case c5 => simp; have := HBX.out; omega
    intro g cap' w3 hown3 hgrow3 hat3 hlt3
    have HF := hide (HST.out _ _ hown3 hgrow3)
    clear hown3 hgrow3 hat3 hown HST HBX
    go_wp2
    go_roundw
    case rel => exact ⟨_, _, rfl, HF.out⟩
    case measure => simp [intOf]; omega

theorem n_any (w : World) (n : Int) (h0 : -9223372036854775808 ≤ n) (h1 : n ≤ 9223372036854775807) :
  Calls Tryd.prog 30 #[.int .i64 n] w fun e w' => RefPost w n 5 e w' := n_walk w n _ _ h0 h1 rfl rfl

end Go.Proofs.YtanjajjjancggaaDoor

/- The reference: digits put together. -/
namespace Go.Proofs.YtanjajjjancggaaDoor
open Go.RowKit Limbs Digs

def DigPost (w : World) (z : Int) (n : Nat) (e : Ending) (w' : World) : Prop :=
 ∃ v ds, e = .returned v ∧ Dig w' v ds ∧ dv ds = z ∧ ds.length ≤ n ∧ Below w.heap.size w w'

def AInv (w wr : World) (a b : List Int) (k : Nat) (c : Int) (d : Value) (ds : List Int) : Prop :=
 wr.ownsRow w.heap.size 3 1 d ds.length (ds.map (Value.int .i64)) ∧ Below w.heap.size w wr ∧ DB ds ∧ ds.length = k ∧ dv ds + dp k * c = dv (a.take k) + dv (b.take k) ∧ 0 ≤ c ∧ c ≤ 1

theorem AInv.step {w wr w3 : World} {a b : List Int} {k : Nat} {c t : Int} {d d' : Value} {ds : List Int} (ha : DB a) (hb : DB b) (h : AInv w wr a b k c d ds) (ht : t = c + a.getD k 0 + b.getD k 0)
  (hown : w3.ownsRow w.heap.size 3 1 d' (k + 1) (ds.map (Value.int .i64) ++ [.int .i64 (t % 10000)])) (hg : (wr.alloc (.cells #[.int .i64 (t % 10000)] 3)).grownBy w3 d.ownBlock) : AInv w w3 a b (k + 1) (t / 10000) d' (ds ++ [t % 10000]) := by
 obtain ⟨h1, h2, h3, h4, h5, h6, h7⟩ := h
 have hx := ha k
 have hy := hb k
 have hbl := below_app h1 h2.size hg
 refine ⟨by rw [List.length_append, List.map_append, h4]; exact hown, h2.trans hbl, DB_append h3 (by omega), by simp [h4], ?_, by omega, by omega⟩
 rw [dv_snoc, dv_take_succ, dv_take_succ, h4]
 simp only [dp]
 have e1 : 10000 * dp k * (t / 10000) = dp k * (10000 * (t / 10000)) := by rw [Int.mul_comm 10000, Int.mul_assoc]
 have e2 : dp k * (t % 10000) + dp k * (10000 * (t / 10000)) = dp k * t := by rw [← Int.mul_add]; congr 1; omega
 have e3 : dp k * t = dp k * c + dp k * a.getD k 0 + dp k * b.getD k 0 := by rw [ht, Int.mul_add, Int.mul_add]
 rw [e1]
 omega

end Go.Proofs.YtanjajjjancggaaDoor

/- The reference: digits taken from digits; their order. -/
namespace Go.Proofs.YtanjajjjancggaaDoor
open Go.RowKit Limbs Digs

def SInv (w wr : World) (a b : List Int) (k : Nat) (c : Int) (d : Value) (ds : List Int) : Prop :=
 wr.ownsRow w.heap.size 3 1 d ds.length (ds.map (Value.int .i64)) ∧ Below w.heap.size w wr ∧ DB ds ∧ ds.length = k ∧ dv ds = dv (a.take k) - dv (b.take k) + dp k * c ∧ 0 ≤ c ∧ c ≤ 1

theorem SInv.step {w wr w3 : World} {a b : List Int} {k : Nat} {c t c' : Int} {d d' : Value} {ds : List Int} (h : SInv w wr a b k c d ds) (ht : t = a.getD k 0 - c - b.getD k 0 + 10000 * c') (ht0 : 0 ≤ t ∧ t < 10000) (hc' : 0 ≤ c' ∧ c' ≤ 1)
  (hown : w3.ownsRow w.heap.size 3 1 d' (k + 1) (ds.map (Value.int .i64) ++ [.int .i64 t])) (hg : (wr.alloc (.cells #[.int .i64 t] 3)).grownBy w3 d.ownBlock) : SInv w w3 a b (k + 1) c' d' (ds ++ [t]) := by
 obtain ⟨h1, h2, h3, h4, h5, h6, h7⟩ := h
 have hbl := below_app h1 h2.size hg
 refine ⟨by rw [List.length_append, List.map_append, h4]; exact hown, h2.trans hbl, DB_append h3 ht0, by simp [h4], ?_, hc'.1, hc'.2⟩
 rw [dv_snoc, dv_take_succ, dv_take_succ, h4, h5]
 simp only [dp]
 have e1 : 10000 * dp k * c' = dp k * (10000 * c') := by rw [Int.mul_comm 10000, Int.mul_assoc]
 have e3 : dp k * t = dp k * a.getD k 0 - dp k * c - dp k * b.getD k 0 + dp k * (10000 * c') := by rw [ht, Int.mul_add, Int.mul_sub, Int.mul_sub]
 rw [e1]
 omega

end Go.Proofs.YtanjajjjancggaaDoor

/- The reference: sums. -/
namespace Go.Proofs.YtanjajjjancggaaDoor
open Go.RowKit Limbs Digs

structure ThreeR (w W : World) (a0 a1 b0 b1 r0 r1 : Value) : Prop where
 fst : BoxR W w.heap.size a0 a1
 snd : BoxR W (w.heap.size + 1) b0 b1
 res : BoxR W (w.heap.size + 1 + 1) r0 r1
 below : Below w.heap.size w W
 size : w.heap.size + 1 + 1 < W.heap.size

theorem ThreeR.later {w W W' : World} {a0 a1 b0 b1 r0 r1 : Value} (h : ThreeR w W a0 a1 b0 b1 r0 r1) (hb : Below W.heap.size W W') : ThreeR w W' a0 a1 b0 b1 r0 r1 where
 fst := h.fst.later hb h.fst.lt
 snd := h.snd.later hb h.snd.lt
 res := h.res.later hb h.res.lt
 below := h.below.trans (hb.mono h.below.size)
 size := Nat.lt_of_lt_of_le h.size hb.size

theorem ThreeR.drew {w W : World} {a0 a1 b0 b1 r0 r1 : Value} (h : ThreeR w W a0 a1 b0 b1 r0 r1) : ThreeR w W.drew a0 a1 b0 b1 r0 r1 := ⟨h.fst, h.snd, h.res, h.below.drew, h.size⟩

end Go.Proofs.YtanjajjjancggaaDoor

/- The reference: products. -/
namespace Go.Proofs.YtanjajjjancggaaDoor
open Go.RowKit Limbs Digs

def RowI (w : World) (g : Nat) (zs : List Int) : Prop :=
 (∃ cur fz, w.heap[g]? = some (.cells cur 3 fz)) ∧ DB zs ∧ ∀ j, j < zs.length → w.cell? ⟨g, j, none⟩ = some (.int .i64 (zs.getD j 0)) ∧ w.frozen? ⟨g, j, none⟩ = false

theorem RowI.made (w : World) (m : Nat) (g : Nat) (hg : g = w.heap.size) : RowI (w.alloc (.cells (madeCells #[.int .i64 0] m) 3)) g (List.replicate m 0) := by
 subst hg
 refine ⟨⟨_, _, heap_alloc_new w _⟩, DB_replicate m, fun j hj => ⟨?_, World.frozen?_alloc_new _ _ _ _⟩⟩
 rw [List.length_replicate] at hj
 rw [World.cell?_alloc_new]
 simp [madeCells, hj, Nat.mod_one, List.getD_eq_getElem?_getD]

theorem RowI.store {w : World} {g : Nat} {zs : List Int} (h : RowI w g zs) {k : Nat} (hk : k < zs.length) {z : Int} (hz : 0 ≤ z ∧ z < 10000) : RowI (w.setCell ⟨g, k, none⟩ (.int .i64 z)) g (zs.set k z) := by
 obtain ⟨⟨cur, fz, h1⟩, h2, h3⟩ := h
 refine ⟨⟨cur.setIfInBounds k (.int .i64 z), fz, ?_⟩, DB_set h2 k hz, fun j hj => ?_⟩
 ·simp [World.setCell, Array.getElem?_modify, h1]
 rw [List.length_set] at hj
 obtain ⟨c1, c2⟩ := h3 j hj
 obtain ⟨c3, c4⟩ := h3 k hk
 rw [World.frozen?_setCell, getD_set zs k j z hk]
 refine ⟨?_, c2⟩
 by_cases e : j = k
 ·subst e
  rw [if_pos rfl]
  exact World.cell?_setCell_same (h := c3) ..
 ·rw [if_neg e, ← c1]
  exact World.cell?_setCell_other (h := fun h => e (congrArg Addr.off h).symm) ..

theorem RowI.drewN {w : World} {g : Nat} {zs : List Int} (h : RowI w g zs) (n : Nat) : RowI (w.drewN n) g zs := h

theorem ThreeR.drewN {w W : World} {a0 a1 b0 b1 r0 r1 : Value} (h : ThreeR w W a0 a1 b0 b1 r0 r1) (n : Nat) : ThreeR w (W.drewN n) a0 a1 b0 b1 r0 r1 := ⟨h.fst, h.snd, h.res, below_drewN h.below n, h.size⟩

theorem ThreeR.set {w W : World} {a0 a1 b0 b1 r0 r1 : Value} (h : ThreeR w W a0 a1 b0 b1 r0 r1) {g : Nat} (hg : w.heap.size + 1 + 1 + 1 ≤ g) (k : Nat) (u : Value) : ThreeR w (W.setCell ⟨g, k, none⟩ u) a0 a1 b0 b1 r0 r1 :=
 ⟨h.fst.other (by omega) _ _, h.snd.other (by omega) _ _, h.res.other (by omega) _ _, h.below.setCell (by simp; omega) _, by simpa [World.setCell] using h.size⟩

def TInv (wr : World) (g : Nat) (a b : List Int) (i j : Nat) (cy : Int) (zs : List Int) : Prop :=
 zs.length = a.length + b.length + 1 ∧ RowI wr g zs ∧
  dv zs + dp (i + j) * cy = dv (a.take i) * dv b + dp i * (a.getD i 0 * dv (b.take j)) ∧ (∀ t, i + b.length ≤ t → i + j ≤ t → zs.getD t 0 = 0) ∧ 0 ≤ cy ∧ cy < 10000

def TOut (wr : World) (g : Nat) (a b : List Int) (i : Nat) (zs : List Int) : Prop :=
 zs.length = a.length + b.length + 1 ∧ RowI wr g zs ∧ dv zs = dv (a.take i) * dv b ∧ ∀ t, i + b.length ≤ t → zs.getD t 0 = 0

theorem TOut.inner {wr : World} {g : Nat} {a b : List Int} {i : Nat} {zs : List Int} (h : TOut wr g a b i zs) : TInv wr g a b i 0 0 zs := by
 obtain ⟨h1, h2, h4, h5⟩ := h
 exact ⟨h1, h2, by simp [dv, h4], fun t ht _ => h5 t ht, by decide, by decide⟩

theorem TInv.step {wr : World} {g : Nat} {a b : List Int} {i j : Nat} {cy : Int} {zs : List Int} (h : TInv wr g a b i j cy zs) (ha : DB a) (hb : DB b) (hi : i < a.length) (hj : j ≤ b.length) {T : Int} (hT : T = zs.getD (i + j) 0 + cy + a.getD i 0 * b.getD j 0) :
  TInv (wr.setCell ⟨g, i + j, none⟩ (.int .i64 (T % 10000))) g a b i (j + 1) (T / 10000) (zs.set (i + j) (T % 10000)) := by
 obtain ⟨h1, h2, h4, h5, h6, h7⟩ := h
 have hx := ha i
 have hy := hb j
 have hz := h2.2.1 (i + j)
 have hp0 : 0 ≤ a.getD i 0 * b.getD j 0 := Int.mul_nonneg hx.1 hy.1
 have hp1 : a.getD i 0 * b.getD j 0 ≤ 9999 * 9999 := Int.mul_le_mul (by omega) (by omega) hy.1 (by omega)
 refine ⟨by rw [List.length_set]; exact h1, h2.store (by omega) (by omega), ?_, fun t ht ht' => ?_, by omega, by omega⟩
 ·rw [dv_set _ _ _ (by omega), dv_take_succ]
  have e : dp (i + j) * (T % 10000 + 10000 * (T / 10000)) = dp (i + j) * T := by rw [Int.emod_add_mul_ediv]
  have e2 : dp (i + (j + 1)) * (T / 10000) = dp (i + j) * (10000 * (T / 10000)) := by rw [← Nat.add_assoc]; simp only [dp]; rw [Int.mul_comm 10000 (dp (i + j)), Int.mul_assoc]
  have e3 : dp (i + j) * (a.getD i 0 * b.getD j 0) = dp i * (a.getD i 0 * (dp j * b.getD j 0)) := by
   rw [dp_add, Int.mul_assoc, Int.mul_left_comm (dp j)]
  rw [e2, Int.mul_sub]
  rw [Int.mul_add] at e
  rw [hT, Int.mul_add, Int.mul_add] at e
  rw [← hT] at e
  rw [Int.mul_add, Int.mul_add]
  omega
 ·rw [getD_set _ _ _ _ (by omega), if_neg (by omega)]
  exact h5 t ht (by omega)

theorem TInv.drewN {wr : World} {g : Nat} {a b : List Int} {i j : Nat} {cy : Int} {zs : List Int} (h : TInv wr g a b i j cy zs) (n : Nat) : TInv (wr.drewN n) g a b i j cy zs := h

theorem TInv.done {wr : World} {g : Nat} {a b : List Int} {i j : Nat} {zs : List Int} (h : TInv wr g a b i j 0 zs) (hj : b.length ≤ j) (hj' : j ≤ b.length + 1) : TOut wr g a b (i + 1) zs := by
 obtain ⟨h1, h2, h4, h5, h6, h7⟩ := h
 refine ⟨h1, h2, ?_, fun t ht => h5 t (by omega) (by omega)⟩
 rw [dv_take_ge b hj, Int.mul_zero, Int.add_zero] at h4
 rw [h4, dv_take_succ, Int.add_mul, Int.mul_assoc]

end Go.Proofs.YtanjajjjancggaaDoor
