/- bag: a lattice in memory of its own. -/
import Derived.Test.YtmalhbkmfddhoaaDoorBpB
import Derived.Laws.MakeOwn
import Derived.Laws.OwnMore

namespace Go.Proofs.YtmalhbkmfddhoaaDoor
open Go.RowKit

theorem run_mkG (m : Nat) (hm : m ≤ 1000) (W : World) : (Instr.makeSlice 48 (.int .i64 (m : Int)) (.int .i64 (m : Int))).run Tryd.prog W = .ok (.slice (some ⟨W.heap.size, 0, none⟩) m m) (W.alloc (.cells (madeCells #[.slice none 0 0] m) 34)) := by
 obtain ⟨i0, hi, hz0, hz1, hz2⟩ := info_got Tryd.infoIntsB
 have h := run_make (P := Tryd.prog) W 48 34 i0 (.slice none 0 0) (by kernel_rfl) hi hz0 .i64 .i64 m m (by omega) (by omega) (by rw [hz2]; omega) (by omega)
 rw [hz1, Int.toNat_natCast, Nat.mul_one] at h
 exact h

structure FillG (w wr : World) (base P n k : Nat) (ps : List Gc) : Prop where
 own : wr.ownsRow base 34 1 (.slice (some ⟨P, 0, none⟩) n n) n (ps.map (·.1) ++ List.replicate (n - k) (.slice none 0 0))
 len : ps.length = k
 ins : ∀ g ∈ ps, GcIn wr g
 news : ∀ g ∈ ps, ∀ a l c, g.1 = .slice (some a) l c → base ≤ a.block
 below : Below w.heap.size w wr

theorem FillG.start (w W : World) (n : Nat) (hb : Below w.heap.size w W) (hn : n ≤ maxLen) : FillG w (W.alloc (.cells (madeCells #[.slice none 0 0] n) 34)) W.heap.size W.heap.size n 0 [] where
 own := by
  refine ⟨by simp, .inr ⟨W.heap.size, n, _, rfl, Nat.le_refl _, heap_alloc_new W _, Nat.le_refl _, hn, by rw [size_madeCells, Nat.mul_one], ?_⟩⟩
  rw [toList_madeCells_one]; simp
 len := rfl
 ins := fun _ h => by cases h
 news := fun _ h => by cases h
 below := hb.alloc hb.size _

theorem FillG.later {w wr w' : World} {base P n k : Nat} {ps : List Gc} (h : FillG w wr base P n k ps) (hb : Below wr.heap.size wr w') : FillG w w' base P n k ps :=
 ⟨ownsRow_later h.own hb, h.len, fun g hg => (h.ins g hg).below hb (Nat.le_refl _), h.news, h.below.trans (hb.mono h.below.size)⟩

theorem FillG.cell {w wr : World} {base P n k : Nat} {ps : List Gc} (h : FillG w wr base P n k ps) (hk : k < n) : wr.cell? ⟨P, k, none⟩ = some (.slice none 0 0) ∧ wr.frozen? ⟨P, k, none⟩ = false := by
 obtain ⟨g, cap, e, -, hc⟩ := own_at h.own (by omega)
 simp only [Value.slice.injEq, Option.some.injEq, Addr.mk.injEq, and_true, true_and] at e
 obtain ⟨rfl, rfl⟩ := e
 refine ⟨hc k _ ?_, own_free h.own k⟩
 have hl := h.len
 rw [List.getElem?_append_right (by rw [List.length_map]; omega), List.length_map, hl, Nat.sub_self, List.getElem?_replicate, if_pos (by omega)]

theorem FillG.put {w wr : World} {base P n k : Nat} {ps : List Gc} (h : FillG w wr base P n k ps) (hk : k < n) (hP : w.heap.size ≤ P) {u : Value} {g : List Int} (hg : RowS wr u g) (hnew : ∀ a l c, u = .slice (some a) l c → base ≤ a.block) : FillG w (wr.setCell ⟨P, k, none⟩ u) base P n (k + 1) (ps ++ [(u, g)]) where
 own := by
  have hl := h.len
  have := own_set h.own k u
  rw [List.set_append_right _ _ (by rw [List.length_map]; omega), List.length_map, hl, Nat.sub_self, show n - k = (n - (k + 1)) + 1 by omega, List.replicate_succ, List.set_cons_zero] at this
  rw [List.map_append, List.append_assoc]
  exact this
 len := by rw [List.length_append, h.len]; rfl
 ins := fun x hx => by
  have hc := (h.cell hk).1
  rcases List.mem_append.1 hx with h' | h'
  ·exact (h.ins x h').setOne hc u
  ·rw [List.mem_singleton] at h'; subst h'; exact hg.setOne hc u
 news := fun x hx => by
  rcases List.mem_append.1 hx with h' | h'
  ·exact h.news x h'
  ·rw [List.mem_singleton] at h'; subst h'; exact hnew
 below := h.below.setCell (p := ⟨P, k, none⟩) hP u

theorem RowS.setOther {W : World} {v : Value} {ks : List Int} (h : RowS W v ks) {p : Addr} (hp : ∀ a l c, v = .slice (some a) l c → a.block ≠ p.block) (x : Value) : RowS (W.setCell p x) v ks := by
 obtain ⟨ao, cap, e, hn, h6, hh⟩ := h
 refine ⟨ao, cap, e, hn, h6, fun h0 => ?_⟩
 obtain ⟨b, off, e', hlt, hcell⟩ := hh h0
 subst e'
 refine ⟨b, off, rfl, by simpa using hlt, fun i hi => (World.cell?_setCell_other _ _ _ _ fun e2 => ?_).trans (hcell i hi)⟩
 exact hp _ _ _ e (by rw [e2])

theorem FillG.set {w wr : World} {base P n k : Nat} {ps : List Gc} (h : FillG w wr base P n k ps) {p : Addr} (hp : p.block < base) (hw : w.heap.size ≤ p.block) (x : Value) : FillG w (wr.setCell p x) base P n k ps :=
 ⟨ownsRow_setCell_below h.own hp x, h.len, fun g hg => (h.ins g hg).setOther (fun a l c e => by have := h.news g hg a l c e; omega) x, h.news, h.below.setCell hw x⟩

theorem FillG.rows {w wr : World} {base P n : Nat} {ps : List Gc} (h : FillG w wr base P n n ps) : RowsS wr (.slice (some ⟨P, 0, none⟩) n n) (ps.map (·.2)) := by
 have ho := owns_seq h.own
 rw [Nat.sub_self, List.replicate_zero, List.append_nil] at ho
 have hl := h.len
 subst hl
 exact rowsS_of_seq ho h.ins

def BoxT (W : World) (B : Nat) (u0 u1 u2 : Value) : Prop := ThreeV W B u0 u1 u2 ∧ ∀ k, W.frozen? ⟨B, k, none⟩ = false

theorem BoxT.later {W W' : World} {B : Nat} {u0 u1 u2 : Value} (h : BoxT W B u0 u1 u2) (hb : Below W.heap.size W W') : BoxT W' B u0 u1 u2 :=
 ⟨h.1.later hb, fun k => (hb.frozen (p := ⟨B, k, none⟩) h.1.2.2.2).trans (h.2 k)⟩

theorem BoxT.new (W : World) (u0 u1 u2 : Value) (t : TypeId) : BoxT (W.alloc (.cells #[u0, u1, u2] t)) W.heap.size u0 u1 u2 := ⟨ThreeV.new W u0 u1 u2 t, fun k => by simp⟩

theorem BoxT.other {W : World} {B : Nat} {u0 u1 u2 : Value} (h : BoxT W B u0 u1 u2) {p : Addr} (hp : p.block ≠ B) (x : Value) : BoxT (W.setCell p x) B u0 u1 u2 := by
 obtain ⟨⟨h0, h1, h2, h3⟩, h4⟩ := h
 have ne : ∀ k, p ≠ ⟨B, k, none⟩ := fun k e => hp (by rw [e])
 exact ⟨⟨(World.cell?_setCell_other _ _ _ _ (ne 0)).trans h0, (World.cell?_setCell_other _ _ _ _ (ne 1)).trans h1, (World.cell?_setCell_other _ _ _ _ (ne 2)).trans h2, by simpa using h3⟩, fun k => by simpa using h4 k⟩

theorem BoxT.set2 {W : World} {B : Nat} {u0 u1 u2 : Value} (h : BoxT W B u0 u1 u2) (x : Value) : BoxT (W.setCell ⟨B, 2, none⟩ x) B u0 u1 x := by
 obtain ⟨⟨h0, h1, h2, h3⟩, h4⟩ := h
 exact ⟨⟨(World.cell?_setCell_other _ _ _ _ (fun e => by simp at e)).trans h0, (World.cell?_setCell_other _ _ _ _ (fun e => by simp at e)).trans h1, World.cell?_setCell_same _ _ _ h2, by simpa using h3⟩, fun k => by simpa using h4 k⟩

def NcFresh (base : Nat) (W : World) (q : Nc) : Prop :=
 ∃ (ps : List Gc) (b : Nat), q.o = some ⟨b, 0, none⟩ ∧ base ≤ b ∧ ps.map (·.2) = q.x.gens ∧ ps.length = q.l ∧ SeqV W (.slice q.o q.l q.c) q.l (ps.map (·.1)) ∧ ∀ g ∈ ps, GcIn W g ∧ ∀ a l c, g.1 = .slice (some a) l c → base ≤ a.block

theorem NcFresh.ins {base : Nat} {W : World} {q : Nc} (h : NcFresh base W q) : NcIn W q := by
 obtain ⟨ps, b, h1, h2, h3, h4, h5, h6⟩ := h
 have := rowsS_of_seq (v := .slice q.o q.l q.c) (by rw [h4]; exact h5) (fun g hg => (h6 g hg).1)
 rwa [h3] at this

theorem NcFresh.later {base : Nat} {W W' : World} {q : Nc} (h : NcFresh base W q) (hb : Below W.heap.size W W') : NcFresh base W' q := by
 obtain ⟨ps, b, h1, h2, h3, h4, h5, h6⟩ := h
 exact ⟨ps, b, h1, h2, h3, h4, h5.below hb (Nat.le_refl _), fun g hg => ⟨(h6 g hg).1.below hb (Nat.le_refl _), (h6 g hg).2⟩⟩

theorem NcFresh.set {base : Nat} {W : World} {q : Nc} (h : NcFresh base W q) {p : Addr} (hp : p.block < base) (x : Value) : NcFresh base (W.setCell p x) q := by
 obtain ⟨ps, b, h1, h2, h3, h4, h5, h6⟩ := h
 refine ⟨ps, b, h1, h2, h3, h4, ?_, fun g hg => ⟨(h6 g hg).1.setOther (fun a l c e => by have := (h6 g hg).2 a l c e; omega) x, (h6 g hg).2⟩⟩
 obtain ⟨ao, cap, e, hn, hh⟩ := h5
 refine ⟨ao, cap, e, hn, fun h0 => ?_⟩
 obtain ⟨b', off, e', hlt, hc⟩ := hh h0
 refine ⟨b', off, e', by simpa using hlt, fun j u hu => (World.cell?_setCell_other _ _ _ _ fun e2 => ?_).trans (hc j u hu)⟩
 simp only [Value.slice.injEq] at e
 rw [e', h1] at e
 simp only [Option.some.injEq, Addr.mk.injEq, and_true] at e
 have : p.block = b' := by rw [e2]
 omega

theorem NcFresh.mono {base base' : Nat} {W : World} {q : Nc} (h : NcFresh base W q) (hb : base' ≤ base) : NcFresh base' W q := by
 obtain ⟨ps, b, h1, h2, h3, h4, h5, h6⟩ := h
 exact ⟨ps, b, h1, by omega, h3, h4, h5, fun g hg => ⟨(h6 g hg).1, fun a l c e => Nat.le_trans hb ((h6 g hg).2 a l c e)⟩⟩

theorem FillG.fresh {w wr : World} {base P n : Nat} {ps : List Gc} (h : FillG w wr base P n n ps) (q : Nc) (hx : ps.map (·.2) = q.x.gens) (ho : q.o = some ⟨P, 0, none⟩) (hl : q.l = n) (hc : q.c = n) (hP : base ≤ P) : NcFresh base wr q := by
 have hs := owns_seq h.own
 rw [Nat.sub_self, List.replicate_zero, List.append_nil] at hs
 exact ⟨ps, P, ho, hP, hx, by rw [hl]; exact h.len, by rw [ho, hl, hc]; exact hs, fun g hg => ⟨h.ins g hg, h.news g hg⟩⟩

set_option linter.unusedSimpArgs false in
set_option maxRecDepth 100000 in
set_option maxHeartbeats 1600000 in
theorem copied_any (w : World) (q : Nc) (hq : NcIn w q) (hl : q.x.gens.length ≤ 1000) (hg : ∀ g ∈ q.x.gens, g.length ≤ 1000 ∧ g ≠ []) :
  Calls Tryd.prog 15 #[q.val] w fun e w' => ∃ q' : Nc, e = .returned q'.val ∧ q'.x = q.x ∧ NcFresh w.heap.size w' q' ∧ Below w.heap.size w w' := by
 obtain ⟨⟨nm, n, gens⟩, go, gl, gc⟩ := q
 have HQ : Hid (RowsS w (.slice go gl gc) gens) := hq
 have HG := hide hg
 have hgl : gl = gens.length := by
  obtain ⟨_, _, e, -⟩ := id HQ.out
  simp only [Value.slice.injEq] at e
  exact e.2.1
 subst hgl
 have hm := run_mkG gens.length hl
 have hb1 := alloc_below w (.cells #[.string nm, .int .i64 n, .slice go gens.length gc] 50)
 have hb2 := alloc_below (w.alloc (.cells #[.string nm, .int .i64 n, .slice go gens.length gc] 50)) (.cells #[.string ⟨#[]⟩, .int .i64 0, .slice none 0 0] 50)
 have X1 := hide ((BoxT.new w (.string nm) (.int .i64 n) (.slice go gens.length gc) 50).later hb2)
 have X2 : Hid (BoxT ((w.alloc (.cells #[.string nm, .int .i64 n, .slice go gens.length gc] 50)).alloc (.cells #[.string ⟨#[]⟩, .int .i64 0, .slice none 0 0] 50)) (w.heap.size + 1) (.string ⟨#[]⟩) (.int .i64 0) (.slice none 0 0)) := by
  have := BoxT.new (w.alloc (.cells #[.string nm, .int .i64 n, .slice go gens.length gc] 50)) (.string ⟨#[]⟩) (.int .i64 0) (.slice none 0 0) 50
  have e : (w.alloc (.cells #[.string nm, .int .i64 n, .slice go gens.length gc] 50)).heap.size = w.heap.size + 1 := by simp
  rwa [e] at this
 have HB := hide (hb1.trans (hb2.mono hb1.size))
 have HS : Hid (((w.alloc (.cells #[.string nm, .int .i64 n, .slice go gens.length gc] 50)).alloc (.cells #[.string ⟨#[]⟩, .int .i64 0, .slice none 0 0] 50)).heap.size = w.heap.size + 1 + 1) := by show _ = _; simp
 obtain ⟨⟨c0, c1, c2, -⟩, -⟩ := X1.out
 clear hq hg hb1 hb2
 show Calls Tryd.prog 15 #[.agg #[.string nm, .int .i64 n, .slice go gens.length gc]] w _
 go_enter Tryd.func15, Tryd.ntmps15
 go_wp2_with fail
 generalize (w.alloc (.cells #[.string nm, .int .i64 n, .slice go gens.length gc] 50)).alloc (.cells #[.string ⟨#[]⟩, .int .i64 0, .slice none 0 0] 50) = W0 at *
 have HF0 := hide (FillG.start w W0 gens.length HB.out (by unfold maxLen; omega))
 have hbM := alloc_below W0 (.cells (madeCells #[.slice none 0 0] gens.length) 34)
 have X1M := hide (X1.out.later hbM); have X2M := hide (X2.out.later hbM)
 clear X1 X2 hbM c0 c1 c2
 obtain ⟨⟨c0, c1, c2, -⟩, -⟩ := X1M.out
 rw [HS.out] at HF0
 generalize W0.alloc (.cells (madeCells #[.slice none 0 0] gens.length) 34) = W1 at *
 obtain ⟨P, hP⟩ : ∃ P, w.heap.size + 1 + 1 = P := ⟨_, rfl⟩
 rw [hP] at HF0
 rw [hP]
 have HPB : Hid (P = w.heap.size + 2) := by show _ = _; omega
 clear hP
 have HN : Hid (FillG w W1 P P gens.length 0 []) := HF0.out
 clear HF0 HB HS hm
 go_wp2_with fail
 go_loopw [12] (fun i wr => ∃ (k : Nat) (ps : List Gc), k ≤ gens.length ∧ i = .int .i64 k ∧ Hid (FillG w wr P P gens.length k ps) ∧ Hid (ps.map (·.2) = gens.take k) ∧ Hid (BoxT wr w.heap.size (.string nm) (.int .i64 n) (.slice go gens.length gc)) ∧ Hid (BoxT wr (w.heap.size + 1) (.string ⟨#[]⟩) (.int .i64 0) (.slice none 0 0))) (fun i _ => gens.length - (intOf i).toNat)
 case atStart => exact ⟨0, [], Nat.zero_le _, rfl, HN, hide (by simp), X1M, X2M⟩
 case round =>
  clear HN X1M X2M c0 c1 c2
  obtain ⟨k, ps, hk, rfl, HFI, HP, X1, X2⟩ := hrel
  obtain ⟨⟨c0, c1, c2, -⟩, -⟩ := X1.out
  by_cases hkl : k < gens.length
  ·obtain ⟨b, off, cap, e, hlt, u, cu, hu⟩ := (HQ.out.below HFI.out.below).at k hkl
   simp only [Value.slice.injEq, true_and] at e
   obtain ⟨rfl, rfl⟩ := e
   have HU := hide hu
   obtain ⟨uo, uc, rfl⟩ := hu.form
   have hg1 := HG.out gens[k] (List.getElem_mem hkl)
   have HP' : Hid (∀ v : Value, (ps ++ [(v, gens[k])]).map (·.2) = gens.take (k + 1)) := fun v => by
    rw [List.map_append, HP.out, List.take_succ_eq_append_getElem hkl]; rfl
   have HGL := hide hg1.1
   clear hu hg1
   generalize gens[k] = g at *
   go_wp2_with fail
   refine (cloneI_any wr _ g HU.out HGL.out).mono ?_
   rintro e w2 ⟨vo, vc, rfl, hv, hb, hnew⟩
   have HF2 := hide (HFI.out.later hb); have X12 := hide (X1.out.later hb); have X22 := hide (X2.out.later hb)
   obtain ⟨d1, d2⟩ := HF2.out.cell hkl
   have hbsz := hb.size
   have HN3 := hide (HF2.out.put hkl (by have := HPB.out; omega) hv (fun a l c e => by
    simp only [Value.slice.injEq] at e
    have h1 := hnew a e.1
    have h2 := HFI.out.own.lt P rfl
    omega))
   have X13 := hide (X12.out.other (p := ⟨P, k, none⟩) (by show P ≠ w.heap.size; have := HPB.out; omega) (.slice vo g.length vc)); have X23 := hide (X22.out.other (p := ⟨P, k, none⟩) (by show P ≠ w.heap.size + 1; have := HPB.out; omega) (.slice vo g.length vc))
   have HP2 := hide (HP'.out (.slice vo g.length vc))
   clear hv hb hnew HFI HF2 X1 X2 X12 X22 c0 c1 c2 cu HU HGL HP HP' hbsz
   go_wp2
   go_roundw
   case rel => exact ⟨k + 1, _, by omega, by go_num, HN3, HP2, X13, X23⟩
   case measure => simp [intOf]; omega
  ·obtain rfl : k = gens.length := by omega
   have hpp := HP.out
   rw [List.take_length] at hpp
   have HPP := hide hpp
   clear hpp
   obtain ⟨⟨y0, y1, y2, -⟩, y3⟩ := X2.out
   have f0 := y3 0; have f1 := y3 1; have f2 := y3 2
   have z2 := X1.out.2 2
   have HFa := hide (HFI.out.set (p := ⟨w.heap.size, 2, none⟩) (by show w.heap.size < P; have := HPB.out; omega) (Nat.le_refl _) (.slice (some ⟨P, 0, none⟩) gens.length gens.length))
   have x1 := X1.out.set2 (.slice (some ⟨P, 0, none⟩) gens.length gens.length)
   have x2 := X2.out.other (p := ⟨w.heap.size, 2, none⟩) (by show w.heap.size ≠ w.heap.size + 1; omega) (.slice (some ⟨P, 0, none⟩) gens.length gens.length)
   obtain ⟨⟨a0, a1, a2, -⟩, -⟩ := x1
   obtain ⟨⟨b0, b1, b2, -⟩, b3⟩ := x2
   have g0 := b3 0; have g1 := b3 1; have g2 := b3 2
   have HFd := hide ((((HFa.out.set (p := ⟨w.heap.size + 1, 0, none⟩) (by show w.heap.size + 1 < P; have := HPB.out; omega) (by show w.heap.size ≤ w.heap.size + 1; omega) (.string nm)).set (p := ⟨w.heap.size + 1, 1, none⟩) (by show w.heap.size + 1 < P; have := HPB.out; omega) (by show w.heap.size ≤ w.heap.size + 1; omega) (.int .i64 n)).set (p := ⟨w.heap.size + 1, 2, none⟩) (by show w.heap.size + 1 < P; have := HPB.out; omega) (by show w.heap.size ≤ w.heap.size + 1; omega) (.slice (some ⟨P, 0, none⟩) gens.length gens.length)))
   clear HFI HFa b3 y3 X1 X2 y0 y1 y2 f0 f1 f2
   have HRO := hide ((HFd.out.fresh ⟨⟨nm, n, gens⟩, some ⟨P, 0, none⟩, gens.length, gens.length⟩ HPP.out rfl rfl rfl (Nat.le_refl _)).mono (base' := w.heap.size) (by have := HPB.out; omega))
   have e0 : ((((wr.setCell ⟨w.heap.size, 2, none⟩ (.slice (some ⟨P, 0, none⟩) gens.length gens.length)).setCell ⟨w.heap.size + 1, 0, none⟩ (.string nm)).setCell ⟨w.heap.size + 1, 1, none⟩ (.int .i64 n)).setCell ⟨w.heap.size + 1, 2, none⟩ (.slice (some ⟨P, 0, none⟩) gens.length gens.length)).cell? ⟨w.heap.size + 1, 0, none⟩ = some (.string nm) := (World.cell?_setCell_other _ _ _ _ (fun e => by simp at e)).trans ((World.cell?_setCell_other _ _ _ _ (fun e => by simp at e)).trans (World.cell?_setCell_same _ _ _ b0))
   have b1' := (World.cell?_setCell_other (wr.setCell ⟨w.heap.size, 2, none⟩ (.slice (some ⟨P, 0, none⟩) gens.length gens.length)) ⟨w.heap.size + 1, 0, none⟩ ⟨w.heap.size + 1, 1, none⟩ (.string nm) (fun e => by simp at e)).trans b1
   have b2' := (World.cell?_setCell_other _ ⟨w.heap.size + 1, 1, none⟩ ⟨w.heap.size + 1, 2, none⟩ (.int .i64 n) (fun e => by simp at e)).trans ((World.cell?_setCell_other (wr.setCell ⟨w.heap.size, 2, none⟩ (.slice (some ⟨P, 0, none⟩) gens.length gens.length)) ⟨w.heap.size + 1, 0, none⟩ ⟨w.heap.size + 1, 2, none⟩ (.string nm) (fun e => by simp at e)).trans b2)
   have e1 := (World.cell?_setCell_other (((wr.setCell ⟨w.heap.size, 2, none⟩ (.slice (some ⟨P, 0, none⟩) gens.length gens.length)).setCell ⟨w.heap.size + 1, 0, none⟩ (.string nm)).setCell ⟨w.heap.size + 1, 1, none⟩ (.int .i64 n)) ⟨w.heap.size + 1, 2, none⟩ ⟨w.heap.size + 1, 1, none⟩ (.slice (some ⟨P, 0, none⟩) gens.length gens.length) (fun e => by simp at e)).trans (World.cell?_setCell_same _ _ (.int .i64 n) b1')
   have e2 := World.cell?_setCell_same _ _ (.slice (some ⟨P, 0, none⟩) gens.length gens.length) b2'
   have HE := hide (And.intro e0 (And.intro e1 e2))
   have HBX := hide HFd.out.below
   clear e0 e1 e2 b1' b2' HFd
   go_wp2
   obtain ⟨e0, e1, e2⟩ := HE.out
   exact bodyPost_ret (v := .agg #[.string nm, .int .i64 n, .slice (some ⟨P, 0, none⟩) gens.length gens.length]) (by simp [results, Tryd.results15, go_sem, e0, e1, e2]) rfl ⟨⟨⟨nm, n, gens⟩, some ⟨P, 0, none⟩, gens.length, gens.length⟩, rfl, rfl, HRO.out, HBX.out⟩

end Go.Proofs.YtmalhbkmfddhoaaDoor

/- Lists that grow by one. -/
namespace Go.Proofs.YtmalhbkmfddhoaaDoor
open Go.RowKit

theorem step_append_run {P : Program} {ops : Array Oper} {o : Oper} {a : Act} {w : World} {K : Act → World → Prop} {Q : Exit → Act → World → Prop} {E : Prop} (hg : o.guard = none) (s x : Operand) (t tn : TypeId)
  (ho : o.op = .call { callee := .builtin .append, args := #[s, x], argTypes := #[t, tn] }) (vs vx : Value) (hs : a.eval s = vs) (hx : a.eval x = vx)
  (v' : Value) (w' : World) (hr : (Builtin.append_ #[t, tn] o.type #[vs, vx]).run P w = .ok v' w') (hK : K (a.put o.dst v') w') :
  if Region.wanted o (yielded ops a.tmps) = true then Oper.wp P o a w K Q else E := by
 rw [if_pos (by simp [Region.wanted, hg])]
 exact Lib.wp_append_run w s x t tn ho vs vx hs hx v' w' hr hK

theorem own_snoc {P : Program} (W : World) (base : Nat) (hbase : base ≤ W.heap.size) (t ty e : TypeId) (i : TypeInfo) (z : Value) (sz by' : Nat) (ht : P.underlying t = some (.slice e)) (hi : P.info? e = some i) (hz : i.zero = some z)
  (hsize : i.size = sz) (hby : i.bytes = by') (hzs : z.cells.size = sz) (hsz : 0 < sz) (v : Value) (n : Nat) (xs : List Value) (hown : W.ownsRow base e sz v n xs)
  (ys : Array Value) (tb : TypeId) (hl : ys.size = sz) (h1 : ∀ y ∈ ys.toList, y.oneCell' = true) (h63 : n + 1 ≤ maxLen) (hbytes : (n + 1) * by' ≤ 140737488355328) :
  ∃ o c W', (Builtin.append_ #[t, t] ty #[v, .slice (some ⟨W.heap.size, 0, none⟩) 1 1]).run P (W.alloc (.cells ys tb)) = .ok (.slice o (n + 1) c) W' ∧ W'.ownsRow base e sz (.slice o (n + 1) c) (n + 1) (xs ++ ys.toList) ∧ Below base W W' := by
 obtain ⟨v', W', hr, hown', hg, -⟩ := run_append_own (P := P) (W.alloc (.cells ys tb)) base t ty e i z sz by' ht hi hz hsize hby hzs hsz v n xs (hown.alloc _) ⟨W.heap.size, 0, none⟩ 1 1 ys.toList (by rw [Array.length_toList, hl, Nat.one_mul]) (World.news_of_block (heap_alloc_new W _)) h1 h63 hbytes (by simp; omega)
 obtain ⟨o, c, rfl, -⟩ := owns_form hown'
 exact ⟨o, c, W', hr, hown', owns_below hown hbase hg⟩

theorem BoxT.laterC {W W' : World} {B C : Nat} {u0 u1 u2 : Value} (h : BoxT W B u0 u1 u2) (hb : Below C W W') (hC : B < C) : BoxT W' B u0 u1 u2 :=
 ⟨⟨(hb.cell (p := ⟨B, 0, none⟩) hC).trans h.1.1, (hb.cell (p := ⟨B, 1, none⟩) hC).trans h.1.2.1, (hb.cell (p := ⟨B, 2, none⟩) hC).trans h.1.2.2.1, Nat.lt_of_lt_of_le h.1.2.2.2 hb.size⟩, fun k => (hb.frozen (p := ⟨B, k, none⟩) hC).trans (h.2 k)⟩

structure BackI (W8 wr : World) (ps : List Gc) (m : Nat) (nm : ByteArray) (N : Int) (vo : Option Addr) (vc : Nat) : Prop where
 box : BoxT wr W8.heap.size (.string nm) (.int .i64 N) (.slice vo m vc)
 own : wr.ownsRow (W8.heap.size + 1) 34 1 (.slice vo m vc) m ((ps.reverse.take m).map (·.1))
 below : Below W8.heap.size W8 wr

theorem BackI.start (W8 : World) (ps : List Gc) (nm : ByteArray) (N : Int) (t : TypeId) : BackI W8 (W8.alloc (.cells #[.string nm, .int .i64 N, .slice none 0 0] t)) ps 0 nm N none 0 :=
 ⟨BoxT.new _ _ _ _ _, by rw [List.take_zero]; exact World.ownsRow_nil _ _ _ _, alloc_below _ _⟩

theorem BackI.step {W8 wr W' : World} {ps : List Gc} {u' : Gc} {m : Nat} {nm : ByteArray} {N : Int} {vo : Option Addr} {vc : Nat} (h : BackI W8 wr ps m nm N vo vc) (hm : m < ps.length) {o' : Option Addr} {c' : Nat} {u : Value} (hu : ps.reverse[m]? = some u') (hu1 : u'.1 = u)
  (hown : W'.ownsRow (W8.heap.size + 1) 34 1 (.slice o' (m + 1) c') (m + 1) ((ps.reverse.take m).map (·.1) ++ [u])) (hb : Below (W8.heap.size + 1) wr W') : BackI W8 (W'.setCell ⟨W8.heap.size, 2, none⟩ (.slice o' (m + 1) c')) ps (m + 1) nm N o' c' where
 box := (h.box.laterC hb (Nat.lt_succ_self _)).set2 _
 own := by
  have hl : m < ps.reverse.length := by rw [List.length_reverse]; exact hm
  have e : ps.reverse[m] = u' := by rw [List.getElem?_eq_getElem hl] at hu; exact Option.some.inj hu
  rw [List.take_succ_eq_append_getElem hl, List.map_append, e]
  show World.ownsRow _ _ _ _ _ _ (_ ++ [u'.1])
  rw [hu1]
  exact ownsRow_setCell_below hown (a := ⟨W8.heap.size, 2, none⟩) (Nat.lt_succ_self W8.heap.size) _
 below := (h.below.trans (hb.mono (Nat.le_succ _))).setCell (p := ⟨W8.heap.size, 2, none⟩) (Nat.le_refl _) _

theorem BackI.rows {W8 wr : World} {ps : List Gc} {nm : ByteArray} {N : Int} {vo : Option Addr} {vc : Nat} (h : BackI W8 wr ps ps.length nm N vo vc) (hin : ∀ g ∈ ps, GcIn W8 g) {gs : List (List Int)} (hps : ps.map (·.2) = gs) : NcIn wr ⟨⟨nm, N, gs.reverse⟩, vo, ps.length, vc⟩ := by
 have ho := owns_seq h.own
 have hl : ps.reverse.take ps.length = ps.reverse := List.take_of_length_le (by rw [List.length_reverse]; exact Nat.le_refl _)
 rw [hl] at ho
 have h2 := rowsS_of_seq (ps := ps.reverse) (v := .slice vo ps.length vc) (W := wr) (by rw [List.length_reverse]; exact ho) (fun g hg => (hin g (List.mem_reverse.1 hg)).below h.below (Nat.le_refl _))
 rw [List.map_reverse, hps] at h2
 exact h2

theorem BackI.rows' {W8 wr : World} {ps : List Gc} {m : Nat} {nm : ByteArray} {N : Int} {vo : Option Addr} {vc : Nat} (h : BackI W8 wr ps m nm N vo vc) (hm : ps.length = m) (hin : ∀ g ∈ ps, GcIn W8 g) {gs : List (List Int)} (hps : ps.map (·.2) = gs) : NcIn wr ⟨⟨nm, N, gs.reverse⟩, vo, m, vc⟩ := by
 subst hm
 exact h.rows hin hps

end Go.Proofs.YtmalhbkmfddhoaaDoor
