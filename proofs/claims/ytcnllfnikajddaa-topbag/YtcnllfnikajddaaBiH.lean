/- bag: a lattice in memory of its own. -/
import Derived.Test.YtcnllfnikajddaaGKA
import Derived.Laws.MakeOwn
import Derived.Laws.OwnMore
import Derived.Test.YtcnllfnikajddaaBiF
import Derived.Deep.Cut
import Derived.Deep.CutRange
import Derived.Deep.CutBlock

namespace Go.Proofs.Ytcnllfnikajddaa
open Go.RowKit

theorem run_mkG (m : Nat) (hm : m ≤ 1000) (W : World) : (Instr.makeSlice 35 (.int .i64 (m : Int)) (.int .i64 (m : Int))).run Try.prog W = .ok (.slice (some ⟨W.heap.size, 0, none⟩) m m) (W.alloc (.cells (madeCells #[.slice none 0 0] m) 23)) := by
 obtain ⟨i0, hi, hz0, hz1, hz2⟩ := info_got Try.infoIntsB
 have h := run_make (P := Try.prog) W 35 23 i0 (.slice none 0 0) (by kernel_rfl) hi hz0 .i64 .i64 m m (by omega) (by omega) (by rw [hz2]; omega) (by omega)
 rw [hz1, Int.toNat_natCast, Nat.mul_one] at h
 exact h

structure FillG (w wr : World) (base P n k : Nat) (ps : List Gc) : Prop where
 own : wr.ownsRow base 23 1 (.slice (some ⟨P, 0, none⟩) n n) n (ps.map (·.1) ++ List.replicate (n - k) (.slice none 0 0))
 len : ps.length = k
 ins : ∀ g ∈ ps, GcIn wr g
 news : ∀ g ∈ ps, ∀ a l c, g.1 = .slice (some a) l c → base ≤ a.block
 below : Below w.heap.size w wr

theorem FillG.start (w W : World) (n : Nat) (hb : Below w.heap.size w W) (hn : n ≤ maxLen) : FillG w (W.alloc (.cells (madeCells #[.slice none 0 0] n) 23)) W.heap.size W.heap.size n 0 [] where
 own := by
  refine ⟨by simp, .inr ⟨W.heap.size, n, _, rfl, Nat.le_refl _, heap_alloc_new W _, Nat.le_refl _, hn, by rw [size_madeCells, Nat.mul_one], ?_⟩⟩
  rw [toList_madeCells_one]; simp
 len := rfl
 ins := fun _ h => by cases h
 news := fun _ h => by cases h
 below := hb.alloc hb.size _

theorem FillG.later {w wr w' : World} {base P n k : Nat} {ps : List Gc} (h : FillG w wr base P n k ps) (hb : Below wr.heap.size wr w') : FillG w w' base P n k ps :=
 ⟨ownsRow_later h.own hb, h.len, fun g hg => (h.ins g hg).below hb (Nat.le_refl _), h.news, h.below.trans (hb.mono h.below.size)⟩

theorem FillG.cell {w wr : World} {base P n k : Nat} {ps : List Gc} (h : FillG w wr base P n k ps) (hk : k < n) : wr.cell? ⟨P, k, none⟩ = some (.slice none 0 0) ∧ wr.frozen? ⟨P, k, none⟩ = false := by
 obtain ⟨g, cap, e, -, hc⟩ := own_at h.own (by omega)
 simp only [Value.slice.injEq, Option.some.injEq, Addr.mk.injEq, and_true, true_and] at e
 obtain ⟨rfl, rfl⟩ := e
 refine ⟨hc k _ ?_, own_free h.own k⟩
 have hl := h.len
 rw [List.getElem?_append_right (by rw [List.length_map]; omega), List.length_map, hl, Nat.sub_self, List.getElem?_replicate, if_pos (by omega)]

theorem FillG.put {w wr : World} {base P n k : Nat} {ps : List Gc} (h : FillG w wr base P n k ps) (hk : k < n) (hP : w.heap.size ≤ P) {u : Value} {g : List Int} (hg : RowS wr u g) (hnew : ∀ a l c, u = .slice (some a) l c → base ≤ a.block) : FillG w (wr.setCell ⟨P, k, none⟩ u) base P n (k + 1) (ps ++ [(u, g)]) where
 own := by
  have hl := h.len
  have := own_set h.own k u
  rw [List.set_append_right _ _ (by rw [List.length_map]; omega), List.length_map, hl, Nat.sub_self, show n - k = (n - (k + 1)) + 1 by omega, List.replicate_succ, List.set_cons_zero] at this
  rw [List.map_append, List.append_assoc]
  exact this
 len := by rw [List.length_append, h.len]; rfl
 ins := fun x hx => by
  have hc := (h.cell hk).1
  rcases List.mem_append.1 hx with h' | h'
  ·exact (h.ins x h').setOne hc u
  ·rw [List.mem_singleton] at h'; subst h'; exact hg.setOne hc u
 news := fun x hx => by
  rcases List.mem_append.1 hx with h' | h'
  ·exact h.news x h'
  ·rw [List.mem_singleton] at h'; subst h'; exact hnew
 below := h.below.setCell (p := ⟨P, k, none⟩) hP u

theorem RowS.setOther {W : World} {v : Value} {ks : List Int} (h : RowS W v ks) {p : Addr} (hp : ∀ a l c, v = .slice (some a) l c → a.block ≠ p.block) (x : Value) : RowS (W.setCell p x) v ks := by
 obtain ⟨ao, cap, e, hn, h6, hh⟩ := h
 refine ⟨ao, cap, e, hn, h6, fun h0 => ?_⟩
 obtain ⟨b, off, e', hlt, hcell⟩ := hh h0
 subst e'
 refine ⟨b, off, rfl, by simpa using hlt, fun i hi => (World.cell?_setCell_other _ _ _ _ fun e2 => ?_).trans (hcell i hi)⟩
 exact hp _ _ _ e (by rw [e2])

theorem FillG.set {w wr : World} {base P n k : Nat} {ps : List Gc} (h : FillG w wr base P n k ps) {p : Addr} (hp : p.block < base) (hw : w.heap.size ≤ p.block) (x : Value) : FillG w (wr.setCell p x) base P n k ps :=
 ⟨ownsRow_setCell_below h.own hp x, h.len, fun g hg => (h.ins g hg).setOther (fun a l c e => by have := h.news g hg a l c e; omega) x, h.news, h.below.setCell hw x⟩

theorem FillG.rows {w wr : World} {base P n : Nat} {ps : List Gc} (h : FillG w wr base P n n ps) : RowsS wr (.slice (some ⟨P, 0, none⟩) n n) (ps.map (·.2)) := by
 have ho := owns_seq h.own
 rw [Nat.sub_self, List.replicate_zero, List.append_nil] at ho
 have hl := h.len
 subst hl
 exact rowsS_of_seq ho h.ins

def BoxT (W : World) (B : Nat) (u0 u1 u2 : Value) : Prop := ThreeV W B u0 u1 u2 ∧ ∀ k, W.frozen? ⟨B, k, none⟩ = false

theorem BoxT.later {W W' : World} {B : Nat} {u0 u1 u2 : Value} (h : BoxT W B u0 u1 u2) (hb : Below W.heap.size W W') : BoxT W' B u0 u1 u2 :=
 ⟨h.1.later hb, fun k => (hb.frozen (p := ⟨B, k, none⟩) h.1.2.2.2).trans (h.2 k)⟩

theorem BoxT.new (W : World) (u0 u1 u2 : Value) (t : TypeId) : BoxT (W.alloc (.cells #[u0, u1, u2] t)) W.heap.size u0 u1 u2 := ⟨ThreeV.new W u0 u1 u2 t, fun k => by simp⟩

theorem BoxT.other {W : World} {B : Nat} {u0 u1 u2 : Value} (h : BoxT W B u0 u1 u2) {p : Addr} (hp : p.block ≠ B) (x : Value) : BoxT (W.setCell p x) B u0 u1 u2 := by
 obtain ⟨⟨h0, h1, h2, h3⟩, h4⟩ := h
 have ne : ∀ k, p ≠ ⟨B, k, none⟩ := fun k e => hp (by rw [e])
 exact ⟨⟨(World.cell?_setCell_other _ _ _ _ (ne 0)).trans h0, (World.cell?_setCell_other _ _ _ _ (ne 1)).trans h1, (World.cell?_setCell_other _ _ _ _ (ne 2)).trans h2, by simpa using h3⟩, fun k => by simpa using h4 k⟩

theorem BoxT.set2 {W : World} {B : Nat} {u0 u1 u2 : Value} (h : BoxT W B u0 u1 u2) (x : Value) : BoxT (W.setCell ⟨B, 2, none⟩ x) B u0 u1 x := by
 obtain ⟨⟨h0, h1, h2, h3⟩, h4⟩ := h
 exact ⟨⟨(World.cell?_setCell_other _ _ _ _ (fun e => by simp at e)).trans h0, (World.cell?_setCell_other _ _ _ _ (fun e => by simp at e)).trans h1, World.cell?_setCell_same _ _ _ h2, by simpa using h3⟩, fun k => by simpa using h4 k⟩

def NcFresh (base : Nat) (W : World) (q : Nc) : Prop :=
 ∃ (ps : List Gc) (b : Nat), q.o = some ⟨b, 0, none⟩ ∧ base ≤ b ∧ ps.map (·.2) = q.x.gens ∧ ps.length = q.l ∧ SeqV W (.slice q.o q.l q.c) q.l (ps.map (·.1)) ∧ ∀ g ∈ ps, GcIn W g ∧ ∀ a l c, g.1 = .slice (some a) l c → base ≤ a.block

theorem NcFresh.ins {base : Nat} {W : World} {q : Nc} (h : NcFresh base W q) : NcIn W q := by
 obtain ⟨ps, b, h1, h2, h3, h4, h5, h6⟩ := h
 have := rowsS_of_seq (v := .slice q.o q.l q.c) (by rw [h4]; exact h5) (fun g hg => (h6 g hg).1)
 rwa [h3] at this

theorem NcFresh.later {base : Nat} {W W' : World} {q : Nc} (h : NcFresh base W q) (hb : Below W.heap.size W W') : NcFresh base W' q := by
 obtain ⟨ps, b, h1, h2, h3, h4, h5, h6⟩ := h
 exact ⟨ps, b, h1, h2, h3, h4, h5.below hb (Nat.le_refl _), fun g hg => ⟨(h6 g hg).1.below hb (Nat.le_refl _), (h6 g hg).2⟩⟩

theorem NcFresh.set {base : Nat} {W : World} {q : Nc} (h : NcFresh base W q) {p : Addr} (hp : p.block < base) (x : Value) : NcFresh base (W.setCell p x) q := by
 obtain ⟨ps, b, h1, h2, h3, h4, h5, h6⟩ := h
 refine ⟨ps, b, h1, h2, h3, h4, ?_, fun g hg => ⟨(h6 g hg).1.setOther (fun a l c e => by have := (h6 g hg).2 a l c e; omega) x, (h6 g hg).2⟩⟩
 obtain ⟨ao, cap, e, hn, hh⟩ := h5
 refine ⟨ao, cap, e, hn, fun h0 => ?_⟩
 obtain ⟨b', off, e', hlt, hc⟩ := hh h0
 refine ⟨b', off, e', by simpa using hlt, fun j u hu => (World.cell?_setCell_other _ _ _ _ fun e2 => ?_).trans (hc j u hu)⟩
 simp only [Value.slice.injEq] at e
 rw [e', h1] at e
 simp only [Option.some.injEq, Addr.mk.injEq, and_true] at e
 have : p.block = b' := by rw [e2]
 omega

theorem NcFresh.mono {base base' : Nat} {W : World} {q : Nc} (h : NcFresh base W q) (hb : base' ≤ base) : NcFresh base' W q := by
 obtain ⟨ps, b, h1, h2, h3, h4, h5, h6⟩ := h
 exact ⟨ps, b, h1, by omega, h3, h4, h5, fun g hg => ⟨(h6 g hg).1, fun a l c e => Nat.le_trans hb ((h6 g hg).2 a l c e)⟩⟩

theorem FillG.fresh {w wr : World} {base P n : Nat} {ps : List Gc} (h : FillG w wr base P n n ps) (q : Nc) (hx : ps.map (·.2) = q.x.gens) (ho : q.o = some ⟨P, 0, none⟩) (hl : q.l = n) (hc : q.c = n) (hP : base ≤ P) : NcFresh base wr q := by
 have hs := owns_seq h.own
 rw [Nat.sub_self, List.replicate_zero, List.append_nil] at hs
 exact ⟨ps, P, ho, hP, hx, by rw [hl]; exact h.len, by rw [ho, hl, hc]; exact hs, fun g hg => ⟨h.ins g hg, h.news g hg⟩⟩

set_option linter.unusedSimpArgs false in
set_option maxRecDepth 100000 in
set_option maxHeartbeats 1600000 in
theorem copied_any (w : World) (q : Nc) (hq : NcIn w q) (hl : q.x.gens.length ≤ 1000) (hg : ∀ g ∈ q.x.gens, g.length ≤ 1000 ∧ g ≠ []) :
  Calls Try.prog 17 #[q.val] w fun e w' => ∃ q' : Nc, e = .returned q'.val ∧ q'.x = q.x ∧ NcFresh w.heap.size w' q' ∧ Below w.heap.size w w' := by
 obtain ⟨⟨nm, n, gens⟩, go, gl, gc⟩ := q
 have HQ : Hid (RowsS w (.slice go gl gc) gens) := hq
 have HG := hide hg
 have hgl : gl = gens.length := by
  obtain ⟨_, _, e, -⟩ := id HQ.out
  simp only [Value.slice.injEq] at e
  exact e.2.1
 subst hgl
 have hm := run_mkG gens.length hl
 have hb1 := alloc_below w (.cells #[.string nm, .int .i64 n, .slice go gens.length gc] 37)
 have hb2 := alloc_below (w.alloc (.cells #[.string nm, .int .i64 n, .slice go gens.length gc] 37)) (.cells #[.string ⟨#[]⟩, .int .i64 0, .slice none 0 0] 37)
 have X1 := hide ((BoxT.new w (.string nm) (.int .i64 n) (.slice go gens.length gc) 37).later hb2)
 have X2 : Hid (BoxT ((w.alloc (.cells #[.string nm, .int .i64 n, .slice go gens.length gc] 37)).alloc (.cells #[.string ⟨#[]⟩, .int .i64 0, .slice none 0 0] 37)) (w.heap.size + 1) (.string ⟨#[]⟩) (.int .i64 0) (.slice none 0 0)) := by
  have := BoxT.new (w.alloc (.cells #[.string nm, .int .i64 n, .slice go gens.length gc] 37)) (.string ⟨#[]⟩) (.int .i64 0) (.slice none 0 0) 37
  have e : (w.alloc (.cells #[.string nm, .int .i64 n, .slice go gens.length gc] 37)).heap.size = w.heap.size + 1 := by simp
  rwa [e] at this
 have HB := hide (hb1.trans (hb2.mono hb1.size))
 have HS : Hid (((w.alloc (.cells #[.string nm, .int .i64 n, .slice go gens.length gc] 37)).alloc (.cells #[.string ⟨#[]⟩, .int .i64 0, .slice none 0 0] 37)).heap.size = w.heap.size + 1 + 1) := by show _ = _; simp
 obtain ⟨⟨c0, c1, c2, -⟩, -⟩ := X1.out
 clear hq hg hb1 hb2
 show Calls Try.prog 17 #[.agg #[.string nm, .int .i64 n, .slice go gens.length gc]] w _
 go_enter Try.func17, Try.ntmps17
 go_wp2_with fail
 generalize (w.alloc (.cells #[.string nm, .int .i64 n, .slice go gens.length gc] 37)).alloc (.cells #[.string ⟨#[]⟩, .int .i64 0, .slice none 0 0] 37) = W0 at *
 have HF0 := hide (FillG.start w W0 gens.length HB.out (by unfold maxLen; omega))
 have hbM := alloc_below W0 (.cells (madeCells #[.slice none 0 0] gens.length) 23)
 have X1M := hide (X1.out.later hbM); have X2M := hide (X2.out.later hbM)
 clear X1 X2 hbM c0 c1 c2
 obtain ⟨⟨c0, c1, c2, -⟩, -⟩ := X1M.out
 rw [HS.out] at HF0
 generalize W0.alloc (.cells (madeCells #[.slice none 0 0] gens.length) 23) = W1 at *
 obtain ⟨P, hP⟩ : ∃ P, w.heap.size + 1 + 1 = P := ⟨_, rfl⟩
 rw [hP] at HF0
 rw [hP]
 have HPB : Hid (P = w.heap.size + 2) := by show _ = _; omega
 clear hP
 have HN : Hid (FillG w W1 P P gens.length 0 []) := HF0.out
 clear HF0 HB HS hm
 go_wp2_with fail
 go_loopw [12] (fun i wr => ∃ (k : Nat) (ps : List Gc), k ≤ gens.length ∧ i = .int .i64 k ∧ Hid (FillG w wr P P gens.length k ps) ∧ Hid (ps.map (·.2) = gens.take k) ∧ Hid (BoxT wr w.heap.size (.string nm) (.int .i64 n) (.slice go gens.length gc)) ∧ Hid (BoxT wr (w.heap.size + 1) (.string ⟨#[]⟩) (.int .i64 0) (.slice none 0 0))) (fun i _ => gens.length - (intOf i).toNat)
 case atStart => exact ⟨0, [], Nat.zero_le _, rfl, HN, hide (by simp), X1M, X2M⟩
 case round =>
  clear HN X1M X2M c0 c1 c2
  obtain ⟨k, ps, hk, rfl, HFI, HP, X1, X2⟩ := hrel
  obtain ⟨⟨c0, c1, c2, -⟩, -⟩ := X1.out
  by_cases hkl : k < gens.length
  ·obtain ⟨b, off, cap, e, hlt, u, cu, hu⟩ := (HQ.out.below HFI.out.below).at k hkl
   simp only [Value.slice.injEq, true_and] at e
   obtain ⟨rfl, rfl⟩ := e
   have HU := hide hu
   obtain ⟨uo, uc, rfl⟩ := hu.form
   have hg1 := HG.out gens[k] (List.getElem_mem hkl)
   have HP' : Hid (∀ v : Value, (ps ++ [(v, gens[k])]).map (·.2) = gens.take (k + 1)) := fun v => by
    rw [List.map_append, HP.out, List.take_succ_eq_append_getElem hkl]; rfl
   have HGL := hide hg1.1
   clear hu hg1
   generalize gens[k] = g at *
   go_wp2_with fail
   refine (cloneI_any wr _ g HU.out HGL.out).mono ?_
   rintro e w2 ⟨vo, vc, rfl, hv, hb, hnew⟩
   have HF2 := hide (HFI.out.later hb); have X12 := hide (X1.out.later hb); have X22 := hide (X2.out.later hb)
   obtain ⟨d1, d2⟩ := HF2.out.cell hkl
   have hbsz := hb.size
   have HN3 := hide (HF2.out.put hkl (by have := HPB.out; omega) hv (fun a l c e => by
    simp only [Value.slice.injEq] at e
    have h1 := hnew a e.1
    have h2 := HFI.out.own.lt P rfl
    omega))
   have X13 := hide (X12.out.other (p := ⟨P, k, none⟩) (by show P ≠ w.heap.size; have := HPB.out; omega) (.slice vo g.length vc)); have X23 := hide (X22.out.other (p := ⟨P, k, none⟩) (by show P ≠ w.heap.size + 1; have := HPB.out; omega) (.slice vo g.length vc))
   have HP2 := hide (HP'.out (.slice vo g.length vc))
   clear hv hb hnew HFI HF2 X1 X2 X12 X22 c0 c1 c2 cu HU HGL HP HP' hbsz
   go_wp2
   go_roundw
   case rel => exact ⟨k + 1, _, by omega, by go_num, HN3, HP2, X13, X23⟩
   case measure => simp [intOf]; omega
  ·obtain rfl : k = gens.length := by omega
   have hpp := HP.out
   rw [List.take_length] at hpp
   have HPP := hide hpp
   clear hpp
   obtain ⟨⟨y0, y1, y2, -⟩, y3⟩ := X2.out
   have f0 := y3 0; have f1 := y3 1; have f2 := y3 2
   have z2 := X1.out.2 2
   have HFa := hide (HFI.out.set (p := ⟨w.heap.size, 2, none⟩) (by show w.heap.size < P; have := HPB.out; omega) (Nat.le_refl _) (.slice (some ⟨P, 0, none⟩) gens.length gens.length))
   have x1 := X1.out.set2 (.slice (some ⟨P, 0, none⟩) gens.length gens.length)
   have x2 := X2.out.other (p := ⟨w.heap.size, 2, none⟩) (by show w.heap.size ≠ w.heap.size + 1; omega) (.slice (some ⟨P, 0, none⟩) gens.length gens.length)
   obtain ⟨⟨a0, a1, a2, -⟩, -⟩ := x1
   obtain ⟨⟨b0, b1, b2, -⟩, b3⟩ := x2
   have g0 := b3 0; have g1 := b3 1; have g2 := b3 2
   have HFd := hide ((((HFa.out.set (p := ⟨w.heap.size + 1, 0, none⟩) (by show w.heap.size + 1 < P; have := HPB.out; omega) (by show w.heap.size ≤ w.heap.size + 1; omega) (.string nm)).set (p := ⟨w.heap.size + 1, 1, none⟩) (by show w.heap.size + 1 < P; have := HPB.out; omega) (by show w.heap.size ≤ w.heap.size + 1; omega) (.int .i64 n)).set (p := ⟨w.heap.size + 1, 2, none⟩) (by show w.heap.size + 1 < P; have := HPB.out; omega) (by show w.heap.size ≤ w.heap.size + 1; omega) (.slice (some ⟨P, 0, none⟩) gens.length gens.length)))
   clear HFI HFa b3 y3 X1 X2 y0 y1 y2 f0 f1 f2
   have HRO := hide ((HFd.out.fresh ⟨⟨nm, n, gens⟩, some ⟨P, 0, none⟩, gens.length, gens.length⟩ HPP.out rfl rfl rfl (Nat.le_refl _)).mono (base' := w.heap.size) (by have := HPB.out; omega))
   have e0 : ((((wr.setCell ⟨w.heap.size, 2, none⟩ (.slice (some ⟨P, 0, none⟩) gens.length gens.length)).setCell ⟨w.heap.size + 1, 0, none⟩ (.string nm)).setCell ⟨w.heap.size + 1, 1, none⟩ (.int .i64 n)).setCell ⟨w.heap.size + 1, 2, none⟩ (.slice (some ⟨P, 0, none⟩) gens.length gens.length)).cell? ⟨w.heap.size + 1, 0, none⟩ = some (.string nm) := (World.cell?_setCell_other _ _ _ _ (fun e => by simp at e)).trans ((World.cell?_setCell_other _ _ _ _ (fun e => by simp at e)).trans (World.cell?_setCell_same _ _ _ b0))
   have b1' := (World.cell?_setCell_other (wr.setCell ⟨w.heap.size, 2, none⟩ (.slice (some ⟨P, 0, none⟩) gens.length gens.length)) ⟨w.heap.size + 1, 0, none⟩ ⟨w.heap.size + 1, 1, none⟩ (.string nm) (fun e => by simp at e)).trans b1
   have b2' := (World.cell?_setCell_other _ ⟨w.heap.size + 1, 1, none⟩ ⟨w.heap.size + 1, 2, none⟩ (.int .i64 n) (fun e => by simp at e)).trans ((World.cell?_setCell_other (wr.setCell ⟨w.heap.size, 2, none⟩ (.slice (some ⟨P, 0, none⟩) gens.length gens.length)) ⟨w.heap.size + 1, 0, none⟩ ⟨w.heap.size + 1, 2, none⟩ (.string nm) (fun e => by simp at e)).trans b2)
   have e1 := (World.cell?_setCell_other (((wr.setCell ⟨w.heap.size, 2, none⟩ (.slice (some ⟨P, 0, none⟩) gens.length gens.length)).setCell ⟨w.heap.size + 1, 0, none⟩ (.string nm)).setCell ⟨w.heap.size + 1, 1, none⟩ (.int .i64 n)) ⟨w.heap.size + 1, 2, none⟩ ⟨w.heap.size + 1, 1, none⟩ (.slice (some ⟨P, 0, none⟩) gens.length gens.length) (fun e => by simp at e)).trans (World.cell?_setCell_same _ _ (.int .i64 n) b1')
   have e2 := World.cell?_setCell_same _ _ (.slice (some ⟨P, 0, none⟩) gens.length gens.length) b2'
   have HE := hide (And.intro e0 (And.intro e1 e2))
   have HBX := hide HFd.out.below
   clear e0 e1 e2 b1' b2' HFd
   go_wp2
   obtain ⟨e0, e1, e2⟩ := HE.out
   exact bodyPost_ret (v := .agg #[.string nm, .int .i64 n, .slice (some ⟨P, 0, none⟩) gens.length gens.length]) (by simp [results, Try.results17, go_sem, e0, e1, e2]) rfl ⟨⟨⟨nm, n, gens⟩, some ⟨P, 0, none⟩, gens.length, gens.length⟩, rfl, rfl, HRO.out, HBX.out⟩

end Go.Proofs.Ytcnllfnikajddaa

/- bag: a catalog's lattices, in memory of their own. -/
namespace Go.Proofs.Ytcnllfnikajddaa
open Go.RowKit

theorem run_mkN (m : Nat) (hm : m ≤ 1000) (W : World) : (Instr.makeSlice 24 (.int .i64 (m : Int)) (.int .i64 (m : Int))).run Try.prog W = .ok (.slice (some ⟨W.heap.size, 0, none⟩) m m) (W.alloc (.cells (madeCells #[.string ⟨#[]⟩, .int .i64 0, .slice none 0 0] (m * 3)) 37)) := by
 obtain ⟨i0, hi, hz0, hz1, hz2⟩ := info_got Try.infoNamed
 have h := run_make (P := Try.prog) W 24 37 i0 (.agg #[.string ⟨#[]⟩, .int .i64 0, .slice none 0 0]) (by kernel_rfl) hi hz0 .i64 .i64 m m (by omega) (by omega) (by rw [hz2]; omega) (by omega)
 rw [hz1, Int.toNat_natCast] at h
 exact h

theorem made_three (m : Nat) : (madeCells #[.string ⟨#[]⟩, .int .i64 0, .slice none 0 0] (m * 3)).toList = (List.replicate m [Value.string ⟨#[]⟩, .int .i64 0, .slice none 0 0]).flatten := by
 induction m with
 | zero => simp [madeCells]
 | succ m ih =>
  have e : (madeCells #[.string ⟨#[]⟩, .int .i64 0, .slice none 0 0] ((m + 1) * 3)).toList = (madeCells #[.string ⟨#[]⟩, .int .i64 0, .slice none 0 0] (m * 3)).toList ++ [Value.string ⟨#[]⟩, .int .i64 0, .slice none 0 0] := by
   unfold madeCells
   rw [Array.toList_map, Array.toList_map, Array.toList_range, Array.toList_range, show (m + 1) * 3 = m * 3 + 1 + 1 + 1 by omega, List.range_succ, List.range_succ, List.range_succ]
   simp only [List.map_append, List.map_cons, List.map_nil, List.append_assoc, List.cons_append, List.nil_append]
   have h0 : m * 3 % 3 = 0 := by omega
   have h1 : (m * 3 + 1) % 3 = 1 := by omega
   have h2 : (m * 3 + 1 + 1) % 3 = 2 := by omega
   simp [h0, h1, h2]
  rw [e, ih, List.replicate_succ', List.flatten_append]; simp

structure FillN (w wr : World) (base P n k : Nat) (rs : List Nc) : Prop where
 own : wr.ownsRow base 37 3 (.slice (some ⟨P, 0, none⟩) n n) n (rs.flatMap Nc.cells ++ (List.replicate (n - k) [Value.string ⟨#[]⟩, .int .i64 0, .slice none 0 0]).flatten)
 len : rs.length = k
 ins : ∀ q ∈ rs, NcFresh (P + 1) wr q
 below : Below w.heap.size w wr

theorem FillN.start (w W : World) (n : Nat) (hb : Below w.heap.size w W) (hn : n ≤ maxLen) : FillN w (W.alloc (.cells (madeCells #[.string ⟨#[]⟩, .int .i64 0, .slice none 0 0] (n * 3)) 37)) W.heap.size W.heap.size n 0 [] where
 own := by
  refine ⟨by rw [List.flatMap_nil, List.nil_append, Nat.sub_zero, ← made_three, Array.length_toList, size_madeCells], .inr ⟨W.heap.size, n, _, rfl, Nat.le_refl _, heap_alloc_new W _, Nat.le_refl _, hn, by rw [size_madeCells], ?_⟩⟩
  rw [made_three, List.flatMap_nil, List.nil_append, Nat.sub_zero]
  exact List.take_of_length_le (by rw [← made_three, Array.length_toList, size_madeCells]; exact Nat.le_refl _)
 len := rfl
 ins := fun _ h => by cases h
 below := hb.alloc hb.size _

theorem FillN.later {w wr w' : World} {base P n k : Nat} {rs : List Nc} (h : FillN w wr base P n k rs) (hb : Below wr.heap.size wr w') : FillN w w' base P n k rs :=
 ⟨ownsRow_later h.own hb, h.len, fun g hg => (h.ins g hg).later hb, h.below.trans (hb.mono h.below.size)⟩

theorem FillN.cell {w wr : World} {base P n k : Nat} {rs : List Nc} (h : FillN w wr base P n k rs) (hk : k < n) : wr.cell? ⟨P, k * 3, none⟩ = some (.string ⟨#[]⟩) ∧ wr.cell? ⟨P, k * 3 + 1, none⟩ = some (.int .i64 0) ∧ wr.cell? ⟨P, k * 3 + 2, none⟩ = some (.slice none 0 0) ∧ ∀ j, wr.frozen? ⟨P, j, none⟩ = false := by
 obtain ⟨g, cap, e, -, hc⟩ := own_at h.own (by omega)
 simp only [Value.slice.injEq, Option.some.injEq, Addr.mk.injEq, and_true, true_and] at e
 obtain ⟨rfl, rfl⟩ := e
 have hl : (rs.flatMap Nc.cells).length = k * 3 := by rw [nccells_len, h.len]
 have key : ∀ j, j < 3 → (rs.flatMap Nc.cells ++ (List.replicate (n - k) [Value.string ⟨#[]⟩, .int .i64 0, .slice none 0 0]).flatten)[k * 3 + j]? = [Value.string ⟨#[]⟩, .int .i64 0, .slice none 0 0][j]? := fun j hj => by
  rw [List.getElem?_append_right (by omega), hl, show n - k = (n - k - 1) + 1 by omega, List.replicate_succ, List.flatten_cons, List.getElem?_append_left (by simp; omega), show k * 3 + j - k * 3 = j by omega]
 exact ⟨hc _ _ ((key 0 (by omega)).trans rfl), hc _ _ ((key 1 (by omega)).trans rfl), hc _ _ ((key 2 (by omega)).trans rfl), own_free h.own⟩

theorem FillN.put {w wr : World} {base P n k : Nat} {rs : List Nc} (h : FillN w wr base P n k rs) (hk : k < n) (hP : w.heap.size ≤ P) {q : Nc} (hq : NcFresh (P + 1) wr q) : FillN w (((wr.setCell ⟨P, k * 3, none⟩ (.string q.x.name)).setCell ⟨P, k * 3 + 1, none⟩ (.int .i64 q.x.n)).setCell ⟨P, k * 3 + 2, none⟩ (.slice q.o q.l q.c)) base P n (k + 1) (rs ++ [q]) where
 own := by
  have hl : (rs.flatMap Nc.cells).length = k * 3 := by rw [nccells_len, h.len]
  have h1 := own_set (own_set (own_set h.own (k * 3) (.string q.x.name)) (k * 3 + 1) (.int .i64 q.x.n)) (k * 3 + 2) (.slice q.o q.l q.c)
  have e : ((((rs.flatMap Nc.cells ++ (List.replicate (n - k) [Value.string ⟨#[]⟩, .int .i64 0, .slice none 0 0]).flatten).set (k * 3) (.string q.x.name)).set (k * 3 + 1) (.int .i64 q.x.n)).set (k * 3 + 2) (.slice q.o q.l q.c)) = (rs ++ [q]).flatMap Nc.cells ++ (List.replicate (n - (k + 1)) [Value.string ⟨#[]⟩, .int .i64 0, .slice none 0 0]).flatten := by
   rw [List.set_append_right _ _ (by omega), List.set_append_right _ _ (by omega), List.set_append_right _ _ (by omega), hl, Nat.sub_self, show k * 3 + 1 - k * 3 = 1 by omega, show k * 3 + 2 - k * 3 = 2 by omega, show n - k = (n - (k + 1)) + 1 by omega, List.replicate_succ, List.flatten_cons, List.flatMap_append, List.append_assoc]
   simp [Nc.cells]
  rw [e] at h1
  exact h1
 len := by rw [List.length_append, h.len]; rfl
 ins := fun x hx => by
  rcases List.mem_append.1 hx with h' | h'
  ·exact (((h.ins x h').set (p := ⟨P, k * 3, none⟩) (Nat.lt_succ_self P) _).set (p := ⟨P, k * 3 + 1, none⟩) (Nat.lt_succ_self P) _).set (p := ⟨P, k * 3 + 2, none⟩) (Nat.lt_succ_self P) _
  ·rw [List.mem_singleton] at h'; subst h'
   exact ((hq.set (p := ⟨P, k * 3, none⟩) (Nat.lt_succ_self P) _).set (p := ⟨P, k * 3 + 1, none⟩) (Nat.lt_succ_self P) _).set (p := ⟨P, k * 3 + 2, none⟩) (Nat.lt_succ_self P) _
 below := ((h.below.setCell (p := ⟨P, k * 3, none⟩) hP _).setCell (p := ⟨P, k * 3 + 1, none⟩) hP _).setCell (p := ⟨P, k * 3 + 2, none⟩) hP _

theorem FillN.cat {w wr : World} {base P n : Nat} {rs : List Nc} (h : FillN w wr base P n n rs) : CatN wr (.slice (some ⟨P, 0, none⟩) n n) rs := by
 have ho := h.own
 rw [Nat.sub_self, List.replicate_zero, List.flatten_nil, List.append_nil] at ho
 have hl := h.len
 subst hl
 exact catN_of_owns ho (fun q hq => (h.ins q hq).ins)

theorem One.other {W : World} {B : Nat} {u : Value} (h : One W B u) {p : Addr} (hp : p.block ≠ B) (x : Value) : One (W.setCell p x) B u :=
 ⟨(World.cell?_setCell_other _ _ _ _ (fun e => hp (by rw [e]))).trans h.1, by simpa using h.2.1, by simpa using h.2.2⟩

def CatPost (w : World) (cs : List Nmd) (e : Ending) (w' : World) : Prop := ∃ u rs, e = .returned u ∧ CatN w' u rs ∧ rs.map (·.x) = cs ∧ Below w.heap.size w w'

set_option linter.unusedSimpArgs false in
set_option maxRecDepth 100000 in
set_option maxHeartbeats 1600000 in
theorem lattices_any2 (w : World) (v : Value) (qs : List Nc) (h : CatV w v qs) (hq : qs.length ≤ 100) (hok : ∀ x ∈ qs.map (·.x), NmOk x) :
  Calls Try.prog 5 #[v] w fun e w' => CatPost w (qs.map (·.x)) e w' := by
 obtain ⟨u, rfl, hu⟩ := h
 obtain ⟨ao, cap, rfl, hcap, -⟩ := id hu
 have HQ := hide hu; have HOK := hide hok
 have hm := run_mkN qs.length (by omega)
 have hb1 := alloc_below w (.cells #[.slice ao qs.length cap] 26)
 have X1 := hide (One.new w (.slice ao qs.length cap) 26)
 have HB := hide hb1
 have HS : Hid ((w.alloc (.cells #[.slice ao qs.length cap] 26)).heap.size = w.heap.size + 1) := by show _ = _; simp
 obtain ⟨c0, -, -⟩ := X1.out
 clear hu hok hb1
 go_enter Try.func5, Try.ntmps5
 go_wp2_with fail
 generalize w.alloc (.cells #[.slice ao qs.length cap] 26) = W0 at *
 have HF0 := hide (FillN.start w W0 qs.length HB.out (by unfold maxLen; omega))
 have hbM := alloc_below W0 (.cells (madeCells #[.string ⟨#[]⟩, .int .i64 0, .slice none 0 0] (qs.length * 3)) 37)
 have X1M := hide (X1.out.later hbM)
 clear X1 hbM c0
 obtain ⟨c0, -, -⟩ := X1M.out
 rw [HS.out] at HF0
 generalize W0.alloc (.cells (madeCells #[.string ⟨#[]⟩, .int .i64 0, .slice none 0 0] (qs.length * 3)) 37) = W1 at *
 obtain ⟨P, hP⟩ : ∃ P, w.heap.size + 1 = P := ⟨_, rfl⟩
 rw [hP] at HF0
 rw [hP]
 have HPB : Hid (P = w.heap.size + 1) := hP.symm
 have HN : Hid (FillN w W1 P P qs.length 0 []) := HF0.out
 clear HF0 HB HS hm hP
 go_wp2_with fail
 go_loopw [12] (fun i wr => ∃ (k : Nat) (rs : List Nc), k ≤ qs.length ∧ i = .int .i64 k ∧ Hid (FillN w wr P P qs.length k rs) ∧ Hid (rs.map (·.x) = (qs.map (·.x)).take k) ∧ Hid (One wr w.heap.size (.slice ao qs.length cap))) (fun i _ => qs.length - (intOf i).toNat)
 case atStart => exact ⟨0, [], Nat.zero_le _, rfl, HN, hide (by simp), X1M⟩
 case round =>
  clear HN X1M c0
  obtain ⟨k, rs, hk, rfl, HFI, HP, X1⟩ := hrel
  obtain ⟨c0, -, -⟩ := X1.out
  by_cases hkl : k < qs.length
  ·have HQ1 := hide (HQ.out.below HFI.out.below)
   obtain ⟨b, off, cap', e⟩ := HQ1.out.form (by omega)
   simp only [Value.slice.injEq, true_and] at e
   obtain ⟨rfl, rfl⟩ := e
   obtain ⟨hlt, d0, d1, d2, hin⟩ := HQ1.out.at k hkl
   have hx := HOK.out qs[k].x (List.mem_map.2 ⟨_, List.getElem_mem hkl, rfl⟩)
   have HCO := hide (copied_any wr qs[k] hin (by have := hx.few; omega) (fun g hg => by
    have h1 := (genF_ok.1 (hx.gens g hg)).1
    have h2 := hx.n
    refine ⟨by omega, fun e => ?_⟩
    rw [e] at h1
    simp at h1
    omega))
   have HP' : Hid (∀ q : Nc, q.x = qs[k].x → (rs ++ [q]).map (·.x) = (qs.map (·.x)).take (k + 1)) := fun q e => by
    rw [List.map_append, HP.out, List.take_succ_eq_append_getElem (by rw [List.length_map]; exact hkl), List.getElem_map]; simp [e]
   clear hin hx HQ1 HP
   generalize qs[k] = q at *
   obtain ⟨⟨nm, n, gens⟩, go, gl, gc⟩ := q
   go_wp2_with fail
   refine HCO.out.mono ?_
   rintro e w2 ⟨⟨⟨nm2, n2, gens2⟩, go2, gl2, gc2⟩, rfl, hx2, hfr, hb⟩
   have HF2 := hide (HFI.out.later hb); have X2 := hide (X1.out.later hb)
   obtain ⟨y0, y1, y2, y3⟩ := HF2.out.cell hkl
   have f0 := y3 (k * 3); have f1 := y3 (k * 3 + 1); have f2 := y3 (k * 3 + 2)
   have hPw := HFI.out.own.lt P rfl
   have HN3 := hide (HF2.out.put hkl (by have := HPB.out; omega) (hfr.mono (base' := P + 1) (by omega)))
   have X3 := hide (((X2.out.other (p := ⟨P, k * 3, none⟩) (by show P ≠ w.heap.size; have := HPB.out; omega) (.string nm2)).other (p := ⟨P, k * 3 + 1, none⟩) (by show P ≠ w.heap.size; have := HPB.out; omega) (.int .i64 n2)).other (p := ⟨P, k * 3 + 2, none⟩) (by show P ≠ w.heap.size; have := HPB.out; omega) (.slice go2 gl2 gc2))
   have HP2 := hide (HP'.out _ hx2)
   clear hfr hb hx2 HFI HF2 X1 X2 c0 d0 d1 d2 y3 HCO HP' hPw
   simp only [Nc.val]
   go_wp2
   go_roundw
   case rel => exact ⟨k + 1, _, by omega, by go_num, HN3, HP2, X3⟩
   case measure => simp [intOf]; omega
  ·obtain rfl : k = qs.length := by omega
   have hpp := HP.out
   rw [List.take_of_length_le (by rw [List.length_map]; exact Nat.le_refl _)] at hpp
   have HPP := hide hpp
   clear hpp HP c0
   go_wp2
   go_ret
   exact ⟨_, rs, rfl, HFI.out.cat, HPP.out, HFI.out.below⟩

end Go.Proofs.Ytcnllfnikajddaa

/- TopBag: its head. -/
namespace Go.Proofs.Ytcnllfnikajddaa
open Go.RowKit

theorem applyC_a : applyC [] ⟨1, ⟨#[97]⟩, 1, []⟩ = (0, [⟨⟨#[97]⟩, 1, []⟩]) := by rfl

set_option linter.unusedSimpArgs false in
set_option maxRecDepth 100000 in
set_option maxHeartbeats 3200000 in
theorem topBag_H (w : World) (ao vo : Option Addr) (cap vc : Nat) (os : List OpC) (vs : List Int) (hops : OpsN w (.slice ao os.length cap) os)
  (hB : vs.length ≤ 10 → ∀ (W' : World) (co : Option Addr) (cl ck : Nat) (qs : List Nc), Below w.heap.size w W' → One W' w.heap.size (.slice co cl ck) → CatN W' (.slice co cl ck) qs → CatOk (qs.map (·.x)) → ∀ {sl2 sl3 sl4 sl6 sl7 sl8 sl9 sl10 sl11 sl12 sl13 sl14 sl15 sl16 sl17 sl18 sl19 sl20 sl21 sl22 sl23 sl24 sl25 sl26 sl27 sl28 sl29 sl30 sl31 sl32 sl33 sl34 sl35 sl36 sl37 sl38 sl39 sl40 sl41 sl42 sl43 sl44 sl45 sl46 sl47 sl48 sl49 sl50 sl51 sl52 sl53 sl54 sl55 sl56 sl57 sl58 sl59 sl60 sl61 sl62 sl63 sl64 sl65 sl66 sl67 sl68 sl69 sl70 sl71 sl72 sl73 sl74 sl75 sl76 sl77 sl78 sl79 sl80 sl81 sl82 sl83 sl84 sl85 sl86 sl87 sl88 sl89 sl90 sl91 sl92 sl93 sl94 sl95 sl96 sl97 sl98 sl99 sl100 sl101 sl102 sl103 sl104 sl105 sl106 sl107 sl108 sl109 sl110 sl111 sl112 sl113 sl114 sl115 sl116 sl117 sl118 sl119 sl120 sl121 sl122 sl123 sl124 sl125 sl126 sl127 sl128 sl129 sl130 sl131 sl132 sl133 sl134 sl135 sl136 sl137 sl138 sl139 sl140 sl141 sl142 sl143 sl144 sl145 sl146 sl147 sl148 sl149 sl150 sl151 sl152 sl153 sl154 sl155 sl156 sl157 sl158 sl159 sl160 sl161 sl162 sl163 sl164 sl165 sl166 sl167 sl168 sl169 sl170 sl171 sl172 sl173 sl174 sl175 sl176 sl177 sl178 sl179 sl180 sl181 sl182 sl183 sl184 sl185 sl186 sl187 sl188 sl189 sl190 sl191 sl192 sl193 sl194 : Value}, (Code.tail (Code.tail (Code.tail (Code.tail (Code.tail (Code.tail (Code.tail ((Try.f3.body).getD .skip)))))))).wp Try.prog (bodyPost Try.prog Try.f3 (fun e w' => e = .returned (.bool true) ∧ Below w.heap.size w w')) ⟨#[(.slice ao os.length cap), (.slice vo vs.length vc), sl2, sl3, sl4, (.pointer (some ⟨w.heap.size, 0, none⟩)), sl6, sl7, sl8, sl9, sl10, sl11, sl12, sl13, sl14, sl15, sl16, sl17, sl18, sl19, sl20, sl21, sl22, sl23, sl24, sl25, sl26, sl27, sl28, sl29, sl30, sl31, sl32, sl33, sl34, sl35, sl36, sl37, sl38, sl39, sl40, sl41, sl42, sl43, sl44, sl45, sl46, sl47, sl48, sl49, sl50, sl51, sl52, sl53, sl54, sl55, sl56, sl57, sl58, sl59, sl60, sl61, sl62, sl63, sl64, sl65, sl66, sl67, sl68, sl69, sl70, sl71, sl72, sl73, sl74, sl75, sl76, sl77, sl78, sl79, sl80, sl81, sl82, sl83, sl84, sl85, sl86, sl87, sl88, sl89, sl90, sl91, sl92, sl93, sl94, sl95, sl96, sl97, sl98, sl99, sl100, sl101, sl102, sl103, sl104, sl105, sl106, sl107, sl108, sl109, sl110, sl111, sl112, sl113, sl114, sl115, sl116, sl117, sl118, sl119, sl120, sl121, sl122, sl123, sl124, sl125, sl126, sl127, sl128, sl129, sl130, sl131, sl132, sl133, sl134, sl135, sl136, sl137, sl138, sl139, sl140, sl141, sl142, sl143, sl144, sl145, sl146, sl147, sl148, sl149, sl150, sl151, sl152, sl153, sl154, sl155, sl156, sl157, sl158, sl159, sl160, sl161, sl162, sl163, sl164, sl165, sl166, sl167, sl168, sl169, sl170, sl171, sl172, sl173, sl174, sl175, sl176, sl177, sl178, sl179, sl180, sl181, sl182, sl183, sl184, sl185, sl186, sl187, sl188, sl189, sl190, sl191, sl192, sl193, sl194], []⟩ W') :
  Calls Try.prog 3 #[.slice ao os.length cap, .slice vo vs.length vc] w (fun e w' => e = .returned (.bool true) ∧ Below w.heap.size w w') := by
 have HB := hide hB; have HO := hide hops
 have HBE := hide (alloc_below w (.cells #[.slice none 0 0] 26)); have X0 := hide (One.new w (.slice none 0 0) 26)
 obtain ⟨p0, p1, -⟩ := X0.out
 clear hB hops
 go_enter Try.func3, Try.ntmps3
 go_wp2_with fail
 generalize w.alloc (.cells #[.slice none 0 0] 26) = W0 at *
 refine (apply_any W0 _ [] ⟨1, ⟨#[97]⟩, 1, []⟩ none 0 ⟨_, rfl, none, 0, rfl, Nat.le_refl _, fun h => absurd h (by simp)⟩ catOk_nil ⟨none, 0, rfl, Nat.le_refl _, fun i => by simp, fun h => absurd h (by simp)⟩ (by simp)).mono ?_
 rintro e w1 hres
 obtain ⟨o, l, k', ev, rfl, hg, hb1⟩ := catG_of hres
 rw [show applyC (List.map (fun x => x.x) ([] : List Nc)) ⟨1, ⟨#[97]⟩, 1, []⟩ = (0, [⟨⟨#[97]⟩, 1, []⟩]) from applyC_a] at hg
 have X1 := hide (X0.out.later hb1); have HB1 := hide (HBE.out.trans (hb1.mono HBE.out.size))
 clear hres hb1 X0 HBE p0 p1
 rcases hg with ⟨h, -⟩ | ⟨-, rfl, qs, hq, hc⟩
 ·exact absurd rfl h
 have hql : qs.length = 1 := by have := congrArg List.length hq; simpa using this
 have hok : CatOk (qs.map (·.x)) := by rw [hq]; exact applyC_ok catOk_nil ⟨1, ⟨#[97]⟩, 1, []⟩ (by rw [applyC_a])
 have X2 := hide (X1.out.write (.slice o l k')); have HB2 := hide (HB1.out.setCell (p := ⟨w.heap.size, 0, none⟩) (Nat.le_refl _) (.slice o l k'))
 have HC2 := hide (hc.setOne (nonE_of_ok hok.all) X1.out.1 (.slice o l k'))
 have HOK := hide hok; have HQL := hide hql
 obtain ⟨p0, p1, -⟩ := X1.out
 clear hc hq hql hok
 go_wp2_with fail
 generalize w1.setCell ⟨w.heap.size, 0, none⟩ (.slice o l k') = W2 at *
 clear p0 p1 X1 HB1
 refine (lattices_any2 W2 _ qs ⟨_, rfl, HC2.out⟩ (by have := HQL.out; omega) HOK.out.all).mono ?_
 rintro e w3 ⟨u, rs, rfl, hcr, hrs, hb3⟩
 have hrl : rs.length = 1 := by have := congrArg List.length hrs; simp only [List.length_map] at this; rw [this]; exact HQL.out
 obtain ⟨ro, rc, rfl, -⟩ := hcr
 rw [hrl]
 have X3 := hide (X2.out.later hb3); have HB3 := hide (HB2.out.trans (hb3.mono HB2.out.size))
 clear hb3 hrs hrl X2 HB2 HC2 HOK HQL
 obtain ⟨p0, p1, -⟩ := X3.out
 go_wp2_with fail
 refine (lightOps_any w3 _ os 40 (HO.out.below HB3.out) (by omega)).mono ?_
 rintro e w4 ⟨rfl, rfl⟩
 cases hL : lightL os 40 with
 | false =>
  go_wp2
  go_ret
  exact ⟨rfl, HB3.out⟩
 | true =>
  by_cases h10 : 10 < vs.length
  ·have g0 : decide (10 < (vs.length : Int)) = true := decide_eq_true (by omega)
   clear h10
   go_wp2
   go_ret
   exact ⟨rfl, HB3.out⟩
  ·have g0 : decide (10 < (vs.length : Int)) = false := decide_eq_false (by omega)
   obtain ⟨hl40, hli⟩ := lightL_ok hL
   have HLI := hide hli; have HLN := hide hl40
   have X4 := hide (X3.out.write (.slice none 0 0)); have HB4 := hide (HB3.out.setCell (p := ⟨w.heap.size, 0, none⟩) (Nat.le_refl _) (.slice none 0 0))
   clear hli hL hl40
   go_upto_region 7 with fail
   go_cut [] from 18 (fun wx => wx = w4.setCell ⟨w.heap.size, 0, none⟩ (.slice none 0 0))
   case first =>
    go_wp2
    go_meet
    case rel => rfl
   case rest =>
    subst hcut
    apply_assumption
    exact topBag_A w _ ao (.slice vo vs.length vc) cap w.heap.size os HB4.out HO.out (fun q hq => (HLI.out q hq).2) (by have := HLN.out; omega) (Nat.le_refl _) X4.out (fun W' co cl ck qs a1 a2 a3 a4 => HB.out (by omega) W' co cl ck qs a1 a2 a3 a4)

end Go.Proofs.Ytcnllfnikajddaa
