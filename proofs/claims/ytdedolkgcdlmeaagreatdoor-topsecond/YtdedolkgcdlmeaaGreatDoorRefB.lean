/- The reference: a number of 64 bits. -/
import Derived.Test.YtdedolkgcdlmeaaGreatDoorRefA
namespace Go.Proofs.YtdedolkgcdlmeaaGreatDoor
open Go.RowKit Limbs Digs

/-- A variable of the reference's numbers, whole. -/
def BoxR (w : World) (B : Nat) (u0 u1 : Value) : Prop := w.heap[B]? = some (.cells #[u0, u1] 40 (0, 0))

theorem BoxR.box {w : World} {B : Nat} {u0 u1 : Value} (h : BoxR w B u0 u1) : Box w B u0 u1 := by
  unfold BoxR at h
  simp [Box, World.cell?, World.frozen?, h]

theorem BoxR.lt {w : World} {B : Nat} {u0 u1 : Value} (h : BoxR w B u0 u1) : B < w.heap.size := heap_lt h

theorem BoxR.later {W w1 : World} {B C : Nat} {u0 u1 : Value} (h : BoxR W B u0 u1) (hb : Below C W w1) (hB : B < C) : BoxR w1 B u0 u1 := (hb.block B hB).trans h

theorem boxR_new (W : World) (u0 u1 : Value) (B : Nat) (hB : B = W.heap.size) : BoxR (W.alloc (.cells #[u0, u1] 40)) B u0 u1 := by
  subst hB; exact heap_alloc_new W _

theorem BoxR.set {w : World} {B : Nat} {u0 u1 : Value} (h : BoxR w B u0 u1) (v0 v1 : Value) : BoxR ((w.setCell ⟨B, 0, none⟩ v0).setCell ⟨B, 1, none⟩ v1) B v0 v1 := by
  have h1 := heap_setCell_same w B 0 _ _ v0 h
  have h2 := heap_setCell_same _ B 1 _ _ v1 h1
  exact h2

theorem BoxR.other {w : World} {B C : Nat} {u0 u1 : Value} (h : BoxR w B u0 u1) (hne : B ≠ C) (k : Nat) (v : Value) : BoxR (w.setCell ⟨C, k, none⟩ v) B u0 u1 :=
  (heap_setCell_other w ⟨C, k, none⟩ B v hne).trans h

theorem Dig.setCell {w : World} {v : Value} {ds : List Int} (h : Dig w v ds) {B : Nat} {c : Array Value} {t : TypeId} {fz : Nat × Nat} (hB : w.heap[B]? = some (.cells c t fz)) (ht : t ≠ 3) (k : Nat) (u : Value) : Dig (w.setCell ⟨B, k, none⟩ u) v ds := by
  obtain ⟨ao, cap, hv, h1, h2, h3, h4⟩ := h
  refine ⟨ao, cap, hv, h1, h2, h3, fun h0 => ?_⟩
  obtain ⟨b, off, cur, fz', e, hlt, hc⟩ := h4 h0
  have hne : b ≠ B := fun e => by
    subst e
    rw [hlt] at hB
    simp only [Option.some.injEq, Obj.cells.injEq] at hB
    exact ht hB.2.1.symm
  exact ⟨b, off, cur, fz', e, (heap_setCell_other w _ b u hne).trans hlt, fun i hi => (World.cell?_of_block (a := ⟨b, off + i, none⟩) (heap_setCell_other w ⟨B, k, none⟩ b u hne)).trans (hc i hi)⟩

theorem NumR.setCell {w : World} {v : Value} {z : Int} {n : Nat} (h : NumR w v z n) {B : Nat} {u0 u1 : Value} (hB : BoxR w B u0 u1) (v0 v1 : Value) : NumR ((w.setCell ⟨B, 0, none⟩ v0).setCell ⟨B, 1, none⟩ v1) v z n := by
  obtain ⟨s, sl, ds, h1, h2, h3⟩ := h
  have hb := heap_setCell_same w B 0 _ _ v0 hB
  exact ⟨s, sl, ds, h1, (h2.setCell hB (by decide) 0 v0).setCell hb (by decide) 1 v1, h3⟩

/-- The result's own variable is written, and read. -/
theorem boxedR {w w2 : World} {B : Nat} {z : Int} {n : Nat} {s : Int} {sl : Value} {u0 u1 : Value} (hr : NumR w2 (.agg #[.int .i64 s, sl]) z n) (hB : BoxR w2 B u0 u1) (hb : Below w.heap.size w w2) (hle : w.heap.size ≤ B) :
    RefPost w z n (.returned (.agg #[.int .i64 s, sl])) ((w2.setCell ⟨B, 0, none⟩ (.int .i64 s)).setCell ⟨B, 1, none⟩ sl) :=
  ⟨_, rfl, hr.setCell hB _ _, (hb.setCell (by exact hle) _).setCell (by exact hle) _⟩

theorem NumR.form {w : World} {v : Value} {z : Int} {n : Nat} (h : NumR w v z n) : ∃ (s : Int) (o : Option Addr) (l c : Nat), v = .agg #[.int .i64 s, .slice o l c] ∧ (s = 0 ∨ s = 1 ∨ s = -1) := by
  obtain ⟨s, sl, ds, h1, ⟨ao, cap, rfl, -⟩, -, -, hs, -⟩ := h
  exact ⟨s, ao, ds.length, cap, h1, by omega⟩

theorem DB_append {ds : List Int} (h : DB ds) {r : Int} (hr : 0 ≤ r ∧ r < 10000) : DB (ds ++ [r]) := by
  intro i
  rw [List.getD_eq_getElem?_getD]
  rcases Nat.lt_trichotomy i ds.length with hi | hi | hi
  · rw [List.getElem?_append_left hi, ← List.getD_eq_getElem?_getD]; exact h i
  · subst hi; simp; omega
  · rw [List.getElem?_eq_none (by simp; omega)]; simp

theorem dv_snoc (ds : List Int) (r : Int) : dv (ds ++ [r]) = dv ds + dp ds.length * r := by
  rw [dv_append]; simp [dv]

/-- At the loop's head: the digits so far, and what is left. -/
def NInv (w wr : World) (m X : Int) (d : Value) (ds : List Int) : Prop :=
  wr.ownsRow (w.heap.size + 1) 3 1 d ds.length (ds.map (Value.int .i64)) ∧ BoxR wr w.heap.size (.int .i64 0) (.slice none 0 0) ∧ Below w.heap.size w wr ∧ DB ds ∧ m = dv ds + dp ds.length * X ∧ 0 ≤ X ∧ X ≤ 9223372036854775808 ∧ ds.length ≤ 5

theorem NInv.few {w wr : World} {m X : Int} {d : Value} {ds : List Int} (h : NInv w wr m X d ds) (hm : m ≤ 9223372036854775808) (hX : X ≠ 0) : ds.length < 5 := by
  obtain ⟨-, -, -, h4, h5, h6, -, h8⟩ := h
  by_cases hk : ds.length < 5
  · exact hk
  · have e : ds.length = 5 := by omega
    rw [e] at h5
    have := dv_nonneg h4
    have e5 : dp 5 = 100000000000000000000 := by decide
    rw [e5] at h5
    omega

theorem NInv.step {w wr w3 : World} {m X r : Int} {d d' : Value} {ds : List Int} (h : NInv w wr m X d ds) (hm : m ≤ 9223372036854775808) (hX : X ≠ 0) (hr : X % 10000 = r)
    (hown : w3.ownsRow (w.heap.size + 1) 3 1 d' (ds.length + 1) (ds.map (Value.int .i64) ++ [.int .i64 r])) (hg : (wr.alloc (.cells #[.int .i64 r] 3)).grownBy w3 d.ownBlock) : NInv w w3 m (X / 10000) d' (ds ++ [r]) := by
  have hf := h.few hm hX
  obtain ⟨h1, h2, h3, h4, h5, h6, h7, h8⟩ := h
  have hb := below_app h1 (by have := h2.lt; omega) hg
  refine ⟨by rw [List.length_append, List.map_append]; exact hown, h2.later hb (by omega), h3.trans (hb.mono (by omega)), DB_append h4 (by omega), ?_, by omega, by omega, by simp; omega⟩
  rw [dv_snoc, List.length_append, List.length_singleton, h5]
  simp only [dp]
  have e : 10000 * dp ds.length * (X / 10000) = dp ds.length * (10000 * (X / 10000)) := by rw [Int.mul_comm 10000, Int.mul_assoc]
  rw [e, Int.add_assoc, ← Int.mul_add]
  congr 2
  omega

set_option maxRecDepth 100000 in
set_option maxHeartbeats 1600000 in
theorem n_walk (w : World) (n s m : Int) (h0 : -9223372036854775808 ≤ n) (h1 : n ≤ 9223372036854775807) (hs : s = if n < 0 then -1 else 1) (hm : m = if n < 0 then -n else n) :
    Calls Tryz.prog 58 #[.int .i64 n] w fun e w' => RefPost w n 5 e w' := by
  obtain ⟨i0, hi, hz0, hz1, hz2⟩ := info_parts Tryz.infoInt
  have HM := hide (show n = s * m by rw [hs, hm]; split <;> omega)
  have HS := hide (show s = 1 ∨ s = -1 by rw [hs]; split <;> simp)
  have hm0 : 0 ≤ m := by rw [hm]; split <;> omega
  have hm1 : m ≤ 9223372036854775808 := by rw [hm]; split <;> omega
  have hx : Hid (NInv w (w.alloc (.cells #[.int .i64 0, .slice none 0 0] 40)) m m (.slice none 0 0) []) :=
    ⟨World.ownsRow_nil _ _ _ _, boxR_new w _ _ _ rfl, (Below.refl _ _).alloc (Nat.le_refl _) _, DB_nil, by simp [dv, dp], hm0, hm1, by simp⟩
  have hw : n < 0 → IntKind.u64.wrap (-IntKind.u64.wrap n) = m := fun h => by rw [IntKind.wrap_u64, IntKind.wrap_u64, hm, if_pos h]; omega
  have HW : Hid (Below w.heap.size w (w.alloc (.cells #[.int .i64 0, .slice none 0 0] 40))) := (Below.refl _ _).alloc (Nat.le_refl _) _
  go_enter Tryz.func58, Tryz.ntmps58
  by_cases hn : n < 0
  · have hw' := hw hn
    rw [if_pos hn] at hs
    subst hs
    clear hm hw
    go_wp2
    go_loopw [4, 5] (fun x d wr => ∃ (X : Int) (ds : List Int), x = .int .u64 X ∧ NInv w wr m X d ds) (fun x _ _ => (intOf x).toNat)
    case atStart => exact ⟨m, [], rfl, hx.out⟩
    case round =>
      obtain ⟨X, ds, rfl, hinv⟩ := hrel
      have hX0 := hinv.2.2.2.2.2.1
      have hX1 := hinv.2.2.2.2.2.2.1
      by_cases hX : X = 0
      · subst hX
        have HE := hide (show m = dv ds by have := hinv.2.2.2.2.1; simpa using this)
        have HD := hide (Dig.owns hinv.1 hinv.2.2.2.1 (by have := hinv.2.2.2.2.2.2.2; omega))
        have HBX := hide hinv.2.1
        have HBL := hide hinv.2.2.1
        have HL5 := hide hinv.2.2.2.2.2.2.2
        clear hinv
        go_wp2_with fail
        refine (cutNum_any wr _ _ ds HD.out (by simp)).mono ?_
        rintro e w2 ⟨r, rfl, hr, hb2⟩
        have hB := HBX.out.later hb2 HBX.out.lt
        rw [← HE.out, ← HM.out] at hr
        have hr5 := hr.mono HL5.out
        obtain ⟨sr, o, l, c, rfl, -⟩ := hr.form
        obtain ⟨c0, c1, f0, f1⟩ := hB.box
        have HF := hide (boxedR hr5 hB (HBL.out.trans (hb2.mono HBL.out.size)) (Nat.le_refl _))
        clear hr hr5 hB hb2 HBX HBL HD HE HM
        go_wp2
        exact bodyPost_ret (v := .agg #[.int .i64 sr, .slice o l c]) (by simp [results, Tryz.results58, go_sem, c0, c1]) rfl HF.out
      · have hfew := hinv.few hm1 hX
        have hown := hinv.1
        have HBX := hide hinv.2.1.lt
        have HST := hide (fun d' w3 hown' hg => hinv.step (d' := d') (w3 := w3) hm1 hX rfl hown' hg)
        have hXp : 0 < X := by omega
        have hmod : X % 10000 ≤ 9999 := by omega
        have hmod0 : 0 ≤ X % 10000 := by omega
        have hdec : decide (0 < X) = true := decide_eq_true hXp
        clear hinv
        go_wp2_with (at_builtin; refine wpList_append_lies _ rfl _ _ 38 rfl (w.heap.size + 1) 3 i0 (.int .i64 0) 1 8 Tryz.underlying38 hi hz0 hz1 hz2 rfl (by decide) u5 ds.length (ds.map (Value.int .i64)) rfl (hown.alloc _) ⟨wr.heap.size, 0, none⟩ 1 1 [.int .i64 (X % 10000)] rfl rfl ?c1 ?c2 (by decide) ?c3 ?c4 ?c5 (wr.heap.size + 1) (by simp) ?_)
        case c1 => exact World.news_of_block (heap_alloc_new wr _)
        case c2 => intro u hu; simp at hu; subst hu; rfl
        case c3 => unfold maxLen; omega
        case c4 => omega
        case c5 => simp; have := HBX.out; omega
        intro g cap' w3 hown3 hgrow3 hat3 hlt3
        have HF := hide (HST.out _ _ hown3 hgrow3)
        clear hown3 hgrow3 hat3 hown HST HBX
        go_wp2
        go_roundw
        case rel => exact ⟨_, _, rfl, HF.out⟩
        case measure => simp [intOf]; omega
  · rw [if_neg hn] at hs hm
    subst hs hm
    clear hw
    go_wp2
    go_loopw [4, 5] (fun x d wr => ∃ (X : Int) (ds : List Int), x = .int .u64 X ∧ NInv w wr m X d ds) (fun x _ _ => (intOf x).toNat)
    case atStart => exact ⟨m, [], rfl, hx.out⟩
    case round =>
      obtain ⟨X, ds, rfl, hinv⟩ := hrel
      have hX0 := hinv.2.2.2.2.2.1
      have hX1 := hinv.2.2.2.2.2.2.1
      by_cases hX : X = 0
      · subst hX
        have HE := hide (show m = dv ds by have := hinv.2.2.2.2.1; simpa using this)
        have HD := hide (Dig.owns hinv.1 hinv.2.2.2.1 (by have := hinv.2.2.2.2.2.2.2; omega))
        have HBX := hide hinv.2.1
        have HBL := hide hinv.2.2.1
        have HL5 := hide hinv.2.2.2.2.2.2.2
        clear hinv
        go_wp2_with fail
        refine (cutNum_any wr _ _ ds HD.out (by simp)).mono ?_
        rintro e w2 ⟨r, rfl, hr, hb2⟩
        have hB := HBX.out.later hb2 HBX.out.lt
        rw [← HE.out, ← HM.out] at hr
        have hr5 := hr.mono HL5.out
        obtain ⟨sr, o, l, c, rfl, -⟩ := hr.form
        obtain ⟨c0, c1, f0, f1⟩ := hB.box
        have HF := hide (boxedR hr5 hB (HBL.out.trans (hb2.mono HBL.out.size)) (Nat.le_refl _))
        clear hr hr5 hB hb2 HBX HBL HD HE HM
        go_wp2
        exact bodyPost_ret (v := .agg #[.int .i64 sr, .slice o l c]) (by simp [results, Tryz.results58, go_sem, c0, c1]) rfl HF.out
      · have hfew := hinv.few hm1 hX
        have hown := hinv.1
        have HBX := hide hinv.2.1.lt
        have HST := hide (fun d' w3 hown' hg => hinv.step (d' := d') (w3 := w3) hm1 hX rfl hown' hg)
        have hXp : 0 < X := by omega
        have hmod : X % 10000 ≤ 9999 := by omega
        have hmod0 : 0 ≤ X % 10000 := by omega
        have hdec : decide (0 < X) = true := decide_eq_true hXp
        clear hinv
        go_wp2_with (at_builtin; refine wpList_append_lies _ rfl _ _ 38 rfl (w.heap.size + 1) 3 i0 (.int .i64 0) 1 8 Tryz.underlying38 hi hz0 hz1 hz2 rfl (by decide) u5 ds.length (ds.map (Value.int .i64)) rfl (hown.alloc _) ⟨wr.heap.size, 0, none⟩ 1 1 [.int .i64 (X % 10000)] rfl rfl ?c1 ?c2 (by decide) ?c3 ?c4 ?c5 (wr.heap.size + 1) (by simp) ?_)
        case c1 => exact World.news_of_block (heap_alloc_new wr _)
        case c2 => intro u hu; simp at hu; subst hu; rfl
        case c3 => unfold maxLen; omega
        case c4 => omega
        case c5 => simp; have := HBX.out; omega
        intro g cap' w3 hown3 hgrow3 hat3 hlt3
        have HF := hide (HST.out _ _ hown3 hgrow3)
        clear hown3 hgrow3 hat3 hown HST HBX
        go_wp2
        go_roundw
        case rel => exact ⟨_, _, rfl, HF.out⟩
        case measure => simp [intOf]; omega

theorem n_any (w : World) (n : Int) (h0 : -9223372036854775808 ≤ n) (h1 : n ≤ 9223372036854775807) :
    Calls Tryz.prog 58 #[.int .i64 n] w fun e w' => RefPost w n 5 e w' := n_walk w n _ _ h0 h1 rfl rfl

end Go.Proofs.YtdedolkgcdlmeaaGreatDoor
