/- bag: a lattice in memory of its own. -/
import Derived.Test.YtnhbfehfipafoaaGreatDoorBgO
import Derived.Laws.MakeOwn
import Derived.Laws.OwnMore
import Derived.Shelf.Small.Bits
import Derived.Shelf.Small.Wraps
import Derived.Shelf.Strings.BuilderK
import Derived.Shelf.Strconv.Itoa3
import Derived.Test.YtnhbfehfipafoaaGreatDoorProg

namespace Go.Proofs.YtnhbfehfipafoaaGreatDoor
open Go.RowKit

theorem run_mkG (m : Nat) (hm : m ≤ 1000) (W : World) : (Instr.makeSlice 105 (.int .i64 (m : Int)) (.int .i64 (m : Int))).run Tryz.prog W = .ok (.slice (some ⟨W.heap.size, 0, none⟩) m m) (W.alloc (.cells (madeCells #[.slice none 0 0] m) 41)) := by
 obtain ⟨i0, hi, hz0, hz1, hz2⟩ := info_got Tryz.infoIntsB
 have h := run_make (P := Tryz.prog) W 105 41 i0 (.slice none 0 0) (by kernel_rfl) hi hz0 .i64 .i64 m m (by omega) (by omega) (by rw [hz2]; omega) (by omega)
 rw [hz1, Int.toNat_natCast, Nat.mul_one] at h
 exact h

structure FillG (w wr : World) (base P n k : Nat) (ps : List Gc) : Prop where
 own : wr.ownsRow base 41 1 (.slice (some ⟨P, 0, none⟩) n n) n (ps.map (·.1) ++ List.replicate (n - k) (.slice none 0 0))
 len : ps.length = k
 ins : ∀ g ∈ ps, GcIn wr g
 news : ∀ g ∈ ps, ∀ a l c, g.1 = .slice (some a) l c → base ≤ a.block
 below : Below w.heap.size w wr

theorem FillG.start (w W : World) (n : Nat) (hb : Below w.heap.size w W) (hn : n ≤ maxLen) : FillG w (W.alloc (.cells (madeCells #[.slice none 0 0] n) 41)) W.heap.size W.heap.size n 0 [] where
 own := by
  refine ⟨by simp, .inr ⟨W.heap.size, n, _, rfl, Nat.le_refl _, heap_alloc_new W _, Nat.le_refl _, hn, by rw [size_madeCells, Nat.mul_one], ?_⟩⟩
  rw [toList_madeCells_one]; simp
 len := rfl
 ins := fun _ h => by cases h
 news := fun _ h => by cases h
 below := hb.alloc hb.size _

theorem FillG.later {w wr w' : World} {base P n k : Nat} {ps : List Gc} (h : FillG w wr base P n k ps) (hb : Below wr.heap.size wr w') : FillG w w' base P n k ps :=
 ⟨ownsRow_later h.own hb, h.len, fun g hg => (h.ins g hg).below hb (Nat.le_refl _), h.news, h.below.trans (hb.mono h.below.size)⟩

theorem FillG.cell {w wr : World} {base P n k : Nat} {ps : List Gc} (h : FillG w wr base P n k ps) (hk : k < n) : wr.cell? ⟨P, k, none⟩ = some (.slice none 0 0) ∧ wr.frozen? ⟨P, k, none⟩ = false := by
 obtain ⟨g, cap, e, -, hc⟩ := own_at h.own (by omega)
 simp only [Value.slice.injEq, Option.some.injEq, Addr.mk.injEq, and_true, true_and] at e
 obtain ⟨rfl, rfl⟩ := e
 refine ⟨hc k _ ?_, own_free h.own k⟩
 have hl := h.len
 rw [List.getElem?_append_right (by rw [List.length_map]; omega), List.length_map, hl, Nat.sub_self, List.getElem?_replicate, if_pos (by omega)]

theorem FillG.put {w wr : World} {base P n k : Nat} {ps : List Gc} (h : FillG w wr base P n k ps) (hk : k < n) (hP : w.heap.size ≤ P) {u : Value} {g : List Int} (hg : GcIn wr (u, g)) (hnew : ∀ a l c, u = .slice (some a) l c → base ≤ a.block) : FillG w (wr.setCell ⟨P, k, none⟩ u) base P n (k + 1) (ps ++ [(u, g)]) where
 own := by
  have hl := h.len
  have := own_set h.own k u
  rw [List.set_append_right _ _ (by rw [List.length_map]; omega), List.length_map, hl, Nat.sub_self, show n - k = (n - (k + 1)) + 1 by omega, List.replicate_succ, List.set_cons_zero] at this
  rw [List.map_append, List.append_assoc]
  exact this
 len := by rw [List.length_append, h.len]; rfl
 ins := fun x hx => by
  have hc := (h.cell hk).1
  rcases List.mem_append.1 hx with h' | h'
  ·exact (h.ins x h').setOne hc u
  ·rw [List.mem_singleton] at h'; subst h'; exact hg.setOne hc u
 news := fun x hx => by
  rcases List.mem_append.1 hx with h' | h'
  ·exact h.news x h'
  ·rw [List.mem_singleton] at h'; subst h'; exact hnew
 below := h.below.setCell (p := ⟨P, k, none⟩) hP u

theorem RowS.setOther {W : World} {v : Value} {ks : List Int} (h : RowS W v ks) {p : Addr} (hp : ∀ a l c, v = .slice (some a) l c → a.block ≠ p.block) (x : Value) : RowS (W.setCell p x) v ks := by
 obtain ⟨ao, cap, e, hn, h6, hh⟩ := h
 refine ⟨ao, cap, e, hn, h6, fun h0 => ?_⟩
 obtain ⟨b, off, e', hlt, hcell⟩ := hh h0
 subst e'
 refine ⟨b, off, rfl, by simpa using hlt, fun i hi => (World.cell?_setCell_other _ _ _ _ fun e2 => ?_).trans (hcell i hi)⟩
 exact hp _ _ _ e (by rw [e2])

theorem GcIn.setOther {W : World} {g : Gc} (h : GcIn W g) {p : Addr} (hp : ∀ a l c, g.1 = .slice (some a) l c → a.block ≠ p.block) (x : Value) : GcIn (W.setCell p x) g := h.set (h.1.setOther hp x)

theorem FillG.set {w wr : World} {base P n k : Nat} {ps : List Gc} (h : FillG w wr base P n k ps) {p : Addr} (hp : p.block < base) (hw : w.heap.size ≤ p.block) (x : Value) : FillG w (wr.setCell p x) base P n k ps :=
 ⟨ownsRow_setCell_below h.own hp x, h.len, fun g hg => (h.ins g hg).setOther (fun a l c e => by have := h.news g hg a l c e; omega) x, h.news, h.below.setCell hw x⟩

theorem FillG.rows {w wr : World} {base P n : Nat} {ps : List Gc} (h : FillG w wr base P n n ps) : GensIn wr (.slice (some ⟨P, 0, none⟩) n n) (ps.map (·.2)) := by
 have ho := owns_seq h.own
 rw [Nat.sub_self, List.replicate_zero, List.append_nil] at ho
 have hl := h.len
 subst hl
 exact rowsS_of_seq ho h.ins (kinH_owns h.own kinT_G)

def BoxT (W : World) (B : Nat) (u0 u1 u2 : Value) : Prop := ThreeV W B u0 u1 u2 ∧ ∀ k, W.frozen? ⟨B, k, none⟩ = false

theorem BoxT.later {W W' : World} {B : Nat} {u0 u1 u2 : Value} (h : BoxT W B u0 u1 u2) (hb : Below W.heap.size W W') : BoxT W' B u0 u1 u2 :=
 ⟨h.1.later hb, fun k => (hb.frozen (p := ⟨B, k, none⟩) h.1.2.2.2).trans (h.2 k)⟩

theorem BoxT.new (W : World) (u0 u1 u2 : Value) (t : TypeId) : BoxT (W.alloc (.cells #[u0, u1, u2] t)) W.heap.size u0 u1 u2 := ⟨ThreeV.new W u0 u1 u2 t, fun k => by simp⟩

theorem BoxT.other {W : World} {B : Nat} {u0 u1 u2 : Value} (h : BoxT W B u0 u1 u2) {p : Addr} (hp : p.block ≠ B) (x : Value) : BoxT (W.setCell p x) B u0 u1 u2 := by
 obtain ⟨⟨h0, h1, h2, h3⟩, h4⟩ := h
 have ne : ∀ k, p ≠ ⟨B, k, none⟩ := fun k e => hp (by rw [e])
 exact ⟨⟨(World.cell?_setCell_other _ _ _ _ (ne 0)).trans h0, (World.cell?_setCell_other _ _ _ _ (ne 1)).trans h1, (World.cell?_setCell_other _ _ _ _ (ne 2)).trans h2, by simpa using h3⟩, fun k => by simpa using h4 k⟩

theorem BoxT.set2 {W : World} {B : Nat} {u0 u1 u2 : Value} (h : BoxT W B u0 u1 u2) (x : Value) : BoxT (W.setCell ⟨B, 2, none⟩ x) B u0 u1 x := by
 obtain ⟨⟨h0, h1, h2, h3⟩, h4⟩ := h
 exact ⟨⟨(World.cell?_setCell_other _ _ _ _ (fun e => by simp at e)).trans h0, (World.cell?_setCell_other _ _ _ _ (fun e => by simp at e)).trans h1, World.cell?_setCell_same _ _ _ h2, by simpa using h3⟩, fun k => by simpa using h4 k⟩

def NcFresh (base : Nat) (W : World) (q : Nc) : Prop :=
 ∃ (ps : List Gc) (b : Nat), q.o = some ⟨b, 0, none⟩ ∧ base ≤ b ∧ ps.map (·.2) = q.x.gens ∧ ps.length = q.l ∧ (SeqV W (.slice q.o q.l q.c) q.l (ps.map (·.1)) ∧ KinH W (.slice q.o q.l q.c)) ∧ ∀ g ∈ ps, GcIn W g ∧ ∀ a l c, g.1 = .slice (some a) l c → base ≤ a.block

theorem NcFresh.ins {base : Nat} {W : World} {q : Nc} (h : NcFresh base W q) : NcIn W q := by
 obtain ⟨ps, b, h1, h2, h3, h4, h5, h6⟩ := h
 have := rowsS_of_seq (v := .slice q.o q.l q.c) (by rw [h4]; exact h5.1) (fun g hg => (h6 g hg).1) h5.2
 rwa [h3] at this

theorem NcFresh.later {base : Nat} {W W' : World} {q : Nc} (h : NcFresh base W q) (hb : Below W.heap.size W W') : NcFresh base W' q := by
 obtain ⟨ps, b, h1, h2, h3, h4, h5, h6⟩ := h
 exact ⟨ps, b, h1, h2, h3, h4, ⟨h5.1.below hb (Nat.le_refl _), h5.2.below hb (Nat.le_refl _)⟩, fun g hg => ⟨(h6 g hg).1.below hb (Nat.le_refl _), (h6 g hg).2⟩⟩

theorem NcFresh.set {base : Nat} {W : World} {q : Nc} (h : NcFresh base W q) {p : Addr} (hp : p.block < base) (x : Value) : NcFresh base (W.setCell p x) q := by
 obtain ⟨ps, b, h1, h2, h3, h4, h5, h6⟩ := h
 refine ⟨ps, b, h1, h2, h3, h4, ⟨?_, h5.2.set p x⟩, fun g hg => ⟨(h6 g hg).1.setOther (fun a l c e => by have := (h6 g hg).2 a l c e; omega) x, (h6 g hg).2⟩⟩
 obtain ⟨ao, cap, e, hn, hh⟩ := h5.1
 refine ⟨ao, cap, e, hn, fun h0 => ?_⟩
 obtain ⟨b', off, e', hlt, hc⟩ := hh h0
 refine ⟨b', off, e', by simpa using hlt, fun j u hu => (World.cell?_setCell_other _ _ _ _ fun e2 => ?_).trans (hc j u hu)⟩
 simp only [Value.slice.injEq] at e
 rw [e', h1] at e
 simp only [Option.some.injEq, Addr.mk.injEq, and_true] at e
 have : p.block = b' := by rw [e2]
 omega

theorem NcFresh.mono {base base' : Nat} {W : World} {q : Nc} (h : NcFresh base W q) (hb : base' ≤ base) : NcFresh base' W q := by
 obtain ⟨ps, b, h1, h2, h3, h4, h5, h6⟩ := h
 exact ⟨ps, b, h1, by omega, h3, h4, h5, fun g hg => ⟨(h6 g hg).1, fun a l c e => Nat.le_trans hb ((h6 g hg).2 a l c e)⟩⟩

theorem FillG.fresh {w wr : World} {base P n : Nat} {ps : List Gc} (h : FillG w wr base P n n ps) (q : Nc) (hx : ps.map (·.2) = q.x.gens) (ho : q.o = some ⟨P, 0, none⟩) (hl : q.l = n) (hc : q.c = n) (hP : base ≤ P) : NcFresh base wr q := by
 have hs := owns_seq h.own
 rw [Nat.sub_self, List.replicate_zero, List.append_nil] at hs
 exact ⟨ps, P, ho, hP, hx, by rw [hl]; exact h.len, by rw [ho, hl, hc]; exact ⟨hs, kinH_owns h.own kinT_G⟩, fun g hg => ⟨h.ins g hg, h.news g hg⟩⟩

set_option linter.unusedSimpArgs false in
set_option maxRecDepth 100000 in
set_option maxHeartbeats 1600000 in
theorem copied_any (w : World) (q : Nc) (hq : NcIn w q) (hl : q.x.gens.length ≤ 1000) (hg : ∀ g ∈ q.x.gens, g.length ≤ 1000 ∧ g ≠ []) :
  Calls Tryz.prog 56 #[q.val] w fun e w' => ∃ q' : Nc, e = .returned q'.val ∧ q'.x = q.x ∧ NcFresh w.heap.size w' q' ∧ Below w.heap.size w w' := by
 obtain ⟨⟨nm, n, gens⟩, go, gl, gc⟩ := q
 have HQ : Hid (RowsS w (.slice go gl gc) gens) := hq.1
 have HG := hide hg
 have hgl : gl = gens.length := by
  obtain ⟨_, _, e, -⟩ := id HQ.out
  simp only [Value.slice.injEq] at e
  exact e.2.1
 subst hgl
 have hm := run_mkG gens.length hl
 have hb1 := alloc_below w (.cells #[.string nm, .int .i64 n, .slice go gens.length gc] 107)
 have hb2 := alloc_below (w.alloc (.cells #[.string nm, .int .i64 n, .slice go gens.length gc] 107)) (.cells #[.string ⟨#[]⟩, .int .i64 0, .slice none 0 0] 107)
 have X1 := hide ((BoxT.new w (.string nm) (.int .i64 n) (.slice go gens.length gc) 107).later hb2)
 have X2 : Hid (BoxT ((w.alloc (.cells #[.string nm, .int .i64 n, .slice go gens.length gc] 107)).alloc (.cells #[.string ⟨#[]⟩, .int .i64 0, .slice none 0 0] 107)) (w.heap.size + 1) (.string ⟨#[]⟩) (.int .i64 0) (.slice none 0 0)) := by
  have := BoxT.new (w.alloc (.cells #[.string nm, .int .i64 n, .slice go gens.length gc] 107)) (.string ⟨#[]⟩) (.int .i64 0) (.slice none 0 0) 107
  have e : (w.alloc (.cells #[.string nm, .int .i64 n, .slice go gens.length gc] 107)).heap.size = w.heap.size + 1 := by simp
  rwa [e] at this
 have HB := hide (hb1.trans (hb2.mono hb1.size))
 have HS : Hid (((w.alloc (.cells #[.string nm, .int .i64 n, .slice go gens.length gc] 107)).alloc (.cells #[.string ⟨#[]⟩, .int .i64 0, .slice none 0 0] 107)).heap.size = w.heap.size + 1 + 1) := by show _ = _; simp
 obtain ⟨⟨c0, c1, c2, -⟩, -⟩ := X1.out
 clear hq hg hb1 hb2
 show Calls Tryz.prog 56 #[.agg #[.string nm, .int .i64 n, .slice go gens.length gc]] w _
 go_enter Tryz.func56, Tryz.ntmps56
 go_wp2_with fail
 generalize (w.alloc (.cells #[.string nm, .int .i64 n, .slice go gens.length gc] 107)).alloc (.cells #[.string ⟨#[]⟩, .int .i64 0, .slice none 0 0] 107) = W0 at *
 have HF0 := hide (FillG.start w W0 gens.length HB.out (by unfold maxLen; omega))
 have hbM := alloc_below W0 (.cells (madeCells #[.slice none 0 0] gens.length) 41)
 have X1M := hide (X1.out.later hbM); have X2M := hide (X2.out.later hbM)
 clear X1 X2 hbM c0 c1 c2
 obtain ⟨⟨c0, c1, c2, -⟩, -⟩ := X1M.out
 rw [HS.out] at HF0
 generalize W0.alloc (.cells (madeCells #[.slice none 0 0] gens.length) 41) = W1 at *
 obtain ⟨P, hP⟩ : ∃ P, w.heap.size + 1 + 1 = P := ⟨_, rfl⟩
 rw [hP] at HF0
 rw [hP]
 have HPB : Hid (P = w.heap.size + 2) := by show _ = _; omega
 clear hP
 have HN : Hid (FillG w W1 P P gens.length 0 []) := HF0.out
 clear HF0 HB HS hm
 go_wp2_with fail
 go_loopw [12] (fun i wr => ∃ (k : Nat) (ps : List Gc), k ≤ gens.length ∧ i = .int .i64 k ∧ Hid (FillG w wr P P gens.length k ps) ∧ Hid (ps.map (·.2) = gens.take k) ∧ Hid (BoxT wr w.heap.size (.string nm) (.int .i64 n) (.slice go gens.length gc)) ∧ Hid (BoxT wr (w.heap.size + 1) (.string ⟨#[]⟩) (.int .i64 0) (.slice none 0 0))) (fun i _ => gens.length - (intOf i).toNat)
 case atStart => exact ⟨0, [], Nat.zero_le _, rfl, HN, hide (by simp), X1M, X2M⟩
 case round =>
  clear HN X1M X2M c0 c1 c2
  obtain ⟨k, ps, hk, rfl, HFI, HP, X1, X2⟩ := hrel
  obtain ⟨⟨c0, c1, c2, -⟩, -⟩ := X1.out
  by_cases hkl : k < gens.length
  ·obtain ⟨b, off, cap, e, hlt, u, cu, hu⟩ := (HQ.out.below HFI.out.below).at k hkl
   simp only [Value.slice.injEq, true_and] at e
   obtain ⟨rfl, rfl⟩ := e
   have HU := hide hu
   obtain ⟨uo, uc, rfl⟩ := hu.form
   have hg1 := HG.out gens[k] (List.getElem_mem hkl)
   have HP' : Hid (∀ v : Value, (ps ++ [(v, gens[k])]).map (·.2) = gens.take (k + 1)) := fun v => by
    rw [List.map_append, HP.out, List.take_succ_eq_append_getElem hkl]; rfl
   have HGL := hide hg1.1
   clear hu hg1
   generalize gens[k] = g at *
   go_wp2_with fail
   refine (cloneI_any wr _ g HU.out HGL.out).mono ?_
   rintro e w2 ⟨vo, vc, rfl, hv, hb, hnew⟩
   have HF2 := hide (HFI.out.later hb); have X12 := hide (X1.out.later hb); have X22 := hide (X2.out.later hb)
   obtain ⟨d1, d2⟩ := HF2.out.cell hkl
   have hbsz := hb.size
   have HN3 := hide (HF2.out.put hkl (by have := HPB.out; omega) hv (fun a l c e => by
    simp only [Value.slice.injEq] at e
    have h1 := hnew a e.1
    have h2 := HFI.out.own.lt P rfl
    omega))
   have X13 := hide (X12.out.other (p := ⟨P, k, none⟩) (by show P ≠ w.heap.size; have := HPB.out; omega) (.slice vo g.length vc)); have X23 := hide (X22.out.other (p := ⟨P, k, none⟩) (by show P ≠ w.heap.size + 1; have := HPB.out; omega) (.slice vo g.length vc))
   have HP2 := hide (HP'.out (.slice vo g.length vc))
   clear hv hb hnew HFI HF2 X1 X2 X12 X22 c0 c1 c2 cu HU HGL HP HP' hbsz
   go_wp2
   go_roundw
   case rel => exact ⟨k + 1, _, by omega, by go_num, HN3, HP2, X13, X23⟩
   case measure => simp [intOf]; omega
  ·obtain rfl : k = gens.length := by omega
   have hpp := HP.out
   rw [List.take_length] at hpp
   have HPP := hide hpp
   clear hpp
   obtain ⟨⟨y0, y1, y2, -⟩, y3⟩ := X2.out
   have f0 := y3 0; have f1 := y3 1; have f2 := y3 2
   have z2 := X1.out.2 2
   have HFa := hide (HFI.out.set (p := ⟨w.heap.size, 2, none⟩) (by show w.heap.size < P; have := HPB.out; omega) (Nat.le_refl _) (.slice (some ⟨P, 0, none⟩) gens.length gens.length))
   have x1 := X1.out.set2 (.slice (some ⟨P, 0, none⟩) gens.length gens.length)
   have x2 := X2.out.other (p := ⟨w.heap.size, 2, none⟩) (by show w.heap.size ≠ w.heap.size + 1; omega) (.slice (some ⟨P, 0, none⟩) gens.length gens.length)
   obtain ⟨⟨a0, a1, a2, -⟩, -⟩ := x1
   obtain ⟨⟨b0, b1, b2, -⟩, b3⟩ := x2
   have g0 := b3 0; have g1 := b3 1; have g2 := b3 2
   have HFd := hide ((((HFa.out.set (p := ⟨w.heap.size + 1, 0, none⟩) (by show w.heap.size + 1 < P; have := HPB.out; omega) (by show w.heap.size ≤ w.heap.size + 1; omega) (.string nm)).set (p := ⟨w.heap.size + 1, 1, none⟩) (by show w.heap.size + 1 < P; have := HPB.out; omega) (by show w.heap.size ≤ w.heap.size + 1; omega) (.int .i64 n)).set (p := ⟨w.heap.size + 1, 2, none⟩) (by show w.heap.size + 1 < P; have := HPB.out; omega) (by show w.heap.size ≤ w.heap.size + 1; omega) (.slice (some ⟨P, 0, none⟩) gens.length gens.length)))
   clear HFI HFa b3 y3 X1 X2 y0 y1 y2 f0 f1 f2
   have HRO := hide ((HFd.out.fresh ⟨⟨nm, n, gens⟩, some ⟨P, 0, none⟩, gens.length, gens.length⟩ HPP.out rfl rfl rfl (Nat.le_refl _)).mono (base' := w.heap.size) (by have := HPB.out; omega))
   have e0 : ((((wr.setCell ⟨w.heap.size, 2, none⟩ (.slice (some ⟨P, 0, none⟩) gens.length gens.length)).setCell ⟨w.heap.size + 1, 0, none⟩ (.string nm)).setCell ⟨w.heap.size + 1, 1, none⟩ (.int .i64 n)).setCell ⟨w.heap.size + 1, 2, none⟩ (.slice (some ⟨P, 0, none⟩) gens.length gens.length)).cell? ⟨w.heap.size + 1, 0, none⟩ = some (.string nm) := (World.cell?_setCell_other _ _ _ _ (fun e => by simp at e)).trans ((World.cell?_setCell_other _ _ _ _ (fun e => by simp at e)).trans (World.cell?_setCell_same _ _ _ b0))
   have b1' := (World.cell?_setCell_other (wr.setCell ⟨w.heap.size, 2, none⟩ (.slice (some ⟨P, 0, none⟩) gens.length gens.length)) ⟨w.heap.size + 1, 0, none⟩ ⟨w.heap.size + 1, 1, none⟩ (.string nm) (fun e => by simp at e)).trans b1
   have b2' := (World.cell?_setCell_other _ ⟨w.heap.size + 1, 1, none⟩ ⟨w.heap.size + 1, 2, none⟩ (.int .i64 n) (fun e => by simp at e)).trans ((World.cell?_setCell_other (wr.setCell ⟨w.heap.size, 2, none⟩ (.slice (some ⟨P, 0, none⟩) gens.length gens.length)) ⟨w.heap.size + 1, 0, none⟩ ⟨w.heap.size + 1, 2, none⟩ (.string nm) (fun e => by simp at e)).trans b2)
   have e1 := (World.cell?_setCell_other (((wr.setCell ⟨w.heap.size, 2, none⟩ (.slice (some ⟨P, 0, none⟩) gens.length gens.length)).setCell ⟨w.heap.size + 1, 0, none⟩ (.string nm)).setCell ⟨w.heap.size + 1, 1, none⟩ (.int .i64 n)) ⟨w.heap.size + 1, 2, none⟩ ⟨w.heap.size + 1, 1, none⟩ (.slice (some ⟨P, 0, none⟩) gens.length gens.length) (fun e => by simp at e)).trans (World.cell?_setCell_same _ _ (.int .i64 n) b1')
   have e2 := World.cell?_setCell_same _ _ (.slice (some ⟨P, 0, none⟩) gens.length gens.length) b2'
   have HE := hide (And.intro e0 (And.intro e1 e2))
   have HBX := hide HFd.out.below
   clear e0 e1 e2 b1' b2' HFd
   go_wp2
   obtain ⟨e0, e1, e2⟩ := HE.out
   exact bodyPost_ret (v := .agg #[.string nm, .int .i64 n, .slice (some ⟨P, 0, none⟩) gens.length gens.length]) (by simp [results, Tryz.results56, go_sem, e0, e1, e2]) rfl ⟨⟨⟨nm, n, gens⟩, some ⟨P, 0, none⟩, gens.length, gens.length⟩, rfl, rfl, HRO.out, HBX.out⟩

end Go.Proofs.YtnhbfehfipafoaaGreatDoor

/- bag: a catalog's lattices, in memory of their own. -/
namespace Go.Proofs.YtnhbfehfipafoaaGreatDoor
open Go.RowKit

theorem run_mkN (m : Nat) (hm : m ≤ 1000) (W : World) : (Instr.makeSlice 36 (.int .i64 (m : Int)) (.int .i64 (m : Int))).run Tryz.prog W = .ok (.slice (some ⟨W.heap.size, 0, none⟩) m m) (W.alloc (.cells (madeCells #[.string ⟨#[]⟩, .int .i64 0, .slice none 0 0] (m * 3)) 107)) := by
 obtain ⟨i0, hi, hz0, hz1, hz2⟩ := info_got Tryz.infoNamed
 have h := run_make (P := Tryz.prog) W 36 107 i0 (.agg #[.string ⟨#[]⟩, .int .i64 0, .slice none 0 0]) (by kernel_rfl) hi hz0 .i64 .i64 m m (by omega) (by omega) (by rw [hz2]; omega) (by omega)
 rw [hz1, Int.toNat_natCast] at h
 exact h

theorem made_three (m : Nat) : (madeCells #[.string ⟨#[]⟩, .int .i64 0, .slice none 0 0] (m * 3)).toList = (List.replicate m [Value.string ⟨#[]⟩, .int .i64 0, .slice none 0 0]).flatten := by
 induction m with
 | zero => simp [madeCells]
 | succ m ih =>
  have e : (madeCells #[.string ⟨#[]⟩, .int .i64 0, .slice none 0 0] ((m + 1) * 3)).toList = (madeCells #[.string ⟨#[]⟩, .int .i64 0, .slice none 0 0] (m * 3)).toList ++ [Value.string ⟨#[]⟩, .int .i64 0, .slice none 0 0] := by
   unfold madeCells
   rw [Array.toList_map, Array.toList_map, Array.toList_range, Array.toList_range, show (m + 1) * 3 = m * 3 + 1 + 1 + 1 by omega, List.range_succ, List.range_succ, List.range_succ]
   simp only [List.map_append, List.map_cons, List.map_nil, List.append_assoc, List.cons_append, List.nil_append]
   have h0 : m * 3 % 3 = 0 := by omega
   have h1 : (m * 3 + 1) % 3 = 1 := by omega
   have h2 : (m * 3 + 1 + 1) % 3 = 2 := by omega
   simp [h0, h1, h2]
  rw [e, ih, List.replicate_succ', List.flatten_append]; simp

structure FillN (w wr : World) (base P n k : Nat) (rs : List Nc) : Prop where
 own : wr.ownsRow base 107 3 (.slice (some ⟨P, 0, none⟩) n n) n (rs.flatMap Nc.cells ++ (List.replicate (n - k) [Value.string ⟨#[]⟩, .int .i64 0, .slice none 0 0]).flatten)
 len : rs.length = k
 ins : ∀ q ∈ rs, NcFresh (P + 1) wr q
 below : Below w.heap.size w wr

theorem FillN.start (w W : World) (n : Nat) (hb : Below w.heap.size w W) (hn : n ≤ maxLen) : FillN w (W.alloc (.cells (madeCells #[.string ⟨#[]⟩, .int .i64 0, .slice none 0 0] (n * 3)) 107)) W.heap.size W.heap.size n 0 [] where
 own := by
  refine ⟨by rw [List.flatMap_nil, List.nil_append, Nat.sub_zero, ← made_three, Array.length_toList, size_madeCells], .inr ⟨W.heap.size, n, _, rfl, Nat.le_refl _, heap_alloc_new W _, Nat.le_refl _, hn, by rw [size_madeCells], ?_⟩⟩
  rw [made_three, List.flatMap_nil, List.nil_append, Nat.sub_zero]
  exact List.take_of_length_le (by rw [← made_three, Array.length_toList, size_madeCells]; exact Nat.le_refl _)
 len := rfl
 ins := fun _ h => by cases h
 below := hb.alloc hb.size _

theorem FillN.later {w wr w' : World} {base P n k : Nat} {rs : List Nc} (h : FillN w wr base P n k rs) (hb : Below wr.heap.size wr w') : FillN w w' base P n k rs :=
 ⟨ownsRow_later h.own hb, h.len, fun g hg => (h.ins g hg).later hb, h.below.trans (hb.mono h.below.size)⟩

theorem FillN.cell {w wr : World} {base P n k : Nat} {rs : List Nc} (h : FillN w wr base P n k rs) (hk : k < n) : wr.cell? ⟨P, k * 3, none⟩ = some (.string ⟨#[]⟩) ∧ wr.cell? ⟨P, k * 3 + 1, none⟩ = some (.int .i64 0) ∧ wr.cell? ⟨P, k * 3 + 2, none⟩ = some (.slice none 0 0) ∧ ∀ j, wr.frozen? ⟨P, j, none⟩ = false := by
 obtain ⟨g, cap, e, -, hc⟩ := own_at h.own (by omega)
 simp only [Value.slice.injEq, Option.some.injEq, Addr.mk.injEq, and_true, true_and] at e
 obtain ⟨rfl, rfl⟩ := e
 have hl : (rs.flatMap Nc.cells).length = k * 3 := by rw [nccells_len, h.len]
 have key : ∀ j, j < 3 → (rs.flatMap Nc.cells ++ (List.replicate (n - k) [Value.string ⟨#[]⟩, .int .i64 0, .slice none 0 0]).flatten)[k * 3 + j]? = [Value.string ⟨#[]⟩, .int .i64 0, .slice none 0 0][j]? := fun j hj => by
  rw [List.getElem?_append_right (by omega), hl, show n - k = (n - k - 1) + 1 by omega, List.replicate_succ, List.flatten_cons, List.getElem?_append_left (by simp; omega), show k * 3 + j - k * 3 = j by omega]
 exact ⟨hc _ _ ((key 0 (by omega)).trans rfl), hc _ _ ((key 1 (by omega)).trans rfl), hc _ _ ((key 2 (by omega)).trans rfl), own_free h.own⟩

theorem FillN.put {w wr : World} {base P n k : Nat} {rs : List Nc} (h : FillN w wr base P n k rs) (hk : k < n) (hP : w.heap.size ≤ P) {q : Nc} (hq : NcFresh (P + 1) wr q) : FillN w (((wr.setCell ⟨P, k * 3, none⟩ (.string q.x.name)).setCell ⟨P, k * 3 + 1, none⟩ (.int .i64 q.x.n)).setCell ⟨P, k * 3 + 2, none⟩ (.slice q.o q.l q.c)) base P n (k + 1) (rs ++ [q]) where
 own := by
  have hl : (rs.flatMap Nc.cells).length = k * 3 := by rw [nccells_len, h.len]
  have h1 := own_set (own_set (own_set h.own (k * 3) (.string q.x.name)) (k * 3 + 1) (.int .i64 q.x.n)) (k * 3 + 2) (.slice q.o q.l q.c)
  have e : ((((rs.flatMap Nc.cells ++ (List.replicate (n - k) [Value.string ⟨#[]⟩, .int .i64 0, .slice none 0 0]).flatten).set (k * 3) (.string q.x.name)).set (k * 3 + 1) (.int .i64 q.x.n)).set (k * 3 + 2) (.slice q.o q.l q.c)) = (rs ++ [q]).flatMap Nc.cells ++ (List.replicate (n - (k + 1)) [Value.string ⟨#[]⟩, .int .i64 0, .slice none 0 0]).flatten := by
   rw [List.set_append_right _ _ (by omega), List.set_append_right _ _ (by omega), List.set_append_right _ _ (by omega), hl, Nat.sub_self, show k * 3 + 1 - k * 3 = 1 by omega, show k * 3 + 2 - k * 3 = 2 by omega, show n - k = (n - (k + 1)) + 1 by omega, List.replicate_succ, List.flatten_cons, List.flatMap_append, List.append_assoc]
   simp [Nc.cells]
  rw [e] at h1
  exact h1
 len := by rw [List.length_append, h.len]; rfl
 ins := fun x hx => by
  rcases List.mem_append.1 hx with h' | h'
  ·exact (((h.ins x h').set (p := ⟨P, k * 3, none⟩) (Nat.lt_succ_self P) _).set (p := ⟨P, k * 3 + 1, none⟩) (Nat.lt_succ_self P) _).set (p := ⟨P, k * 3 + 2, none⟩) (Nat.lt_succ_self P) _
  ·rw [List.mem_singleton] at h'; subst h'
   exact ((hq.set (p := ⟨P, k * 3, none⟩) (Nat.lt_succ_self P) _).set (p := ⟨P, k * 3 + 1, none⟩) (Nat.lt_succ_self P) _).set (p := ⟨P, k * 3 + 2, none⟩) (Nat.lt_succ_self P) _
 below := ((h.below.setCell (p := ⟨P, k * 3, none⟩) hP _).setCell (p := ⟨P, k * 3 + 1, none⟩) hP _).setCell (p := ⟨P, k * 3 + 2, none⟩) hP _

theorem FillN.cat {w wr : World} {base P n : Nat} {rs : List Nc} (h : FillN w wr base P n n rs) : CatN wr (.slice (some ⟨P, 0, none⟩) n n) rs := by
 have ho := h.own
 rw [Nat.sub_self, List.replicate_zero, List.flatten_nil, List.append_nil] at ho
 have hl := h.len
 subst hl
 exact catN_of_owns ho (fun q hq => (h.ins q hq).ins)

theorem One.other {W : World} {B : Nat} {u : Value} (h : One W B u) {p : Addr} (hp : p.block ≠ B) (x : Value) : One (W.setCell p x) B u :=
 ⟨(World.cell?_setCell_other _ _ _ _ (fun e => hp (by rw [e]))).trans h.1, by simpa using h.2.1, by simpa using h.2.2⟩

def CatPost (w : World) (cs : List Nmd) (e : Ending) (w' : World) : Prop := ∃ u rs, e = .returned u ∧ CatN w' u rs ∧ rs.map (·.x) = cs ∧ Below w.heap.size w w'

def CatNew (w : World) (cs : List Nmd) (e : Ending) (w' : World) : Prop := ∃ P n rs, e = .returned (.slice (some ⟨P, 0, none⟩) n n) ∧ w.heap.size < P ∧ FillN w w' P P n n rs ∧ rs.map (·.x) = cs

set_option linter.unusedSimpArgs false in
set_option maxRecDepth 100000 in
set_option maxHeartbeats 1600000 in
theorem lattices_any3 (w : World) (v : Value) (qs : List Nc) (h : CatV w v qs) (hq : qs.length ≤ 100) (hok : ∀ x ∈ qs.map (·.x), NmOk x) :
  Calls Tryz.prog 22 #[v] w fun e w' => CatNew w (qs.map (·.x)) e w' := by
 obtain ⟨u, rfl, hu⟩ := h
 obtain ⟨ao, cap, rfl, hcap, -⟩ := id hu
 have HQ := hide hu; have HOK := hide hok
 have hm := run_mkN qs.length (by omega)
 have hb1 := alloc_below w (.cells #[.slice ao qs.length cap] 53)
 have X1 := hide (One.new w (.slice ao qs.length cap) 53)
 have HB := hide hb1
 have HS : Hid ((w.alloc (.cells #[.slice ao qs.length cap] 53)).heap.size = w.heap.size + 1) := by show _ = _; simp
 obtain ⟨c0, -, -⟩ := X1.out
 clear hu hok hb1
 go_enter Tryz.func22, Tryz.ntmps22
 go_wp2_with fail
 generalize w.alloc (.cells #[.slice ao qs.length cap] 53) = W0 at *
 have HF0 := hide (FillN.start w W0 qs.length HB.out (by unfold maxLen; omega))
 have hbM := alloc_below W0 (.cells (madeCells #[.string ⟨#[]⟩, .int .i64 0, .slice none 0 0] (qs.length * 3)) 107)
 have X1M := hide (X1.out.later hbM)
 clear X1 hbM c0
 obtain ⟨c0, -, -⟩ := X1M.out
 rw [HS.out] at HF0
 generalize W0.alloc (.cells (madeCells #[.string ⟨#[]⟩, .int .i64 0, .slice none 0 0] (qs.length * 3)) 107) = W1 at *
 obtain ⟨P, hP⟩ : ∃ P, w.heap.size + 1 = P := ⟨_, rfl⟩
 rw [hP] at HF0
 rw [hP]
 have HPB : Hid (P = w.heap.size + 1) := hP.symm
 have HN : Hid (FillN w W1 P P qs.length 0 []) := HF0.out
 clear HF0 HB HS hm hP
 go_wp2_with fail
 go_loopw [12] (fun i wr => ∃ (k : Nat) (rs : List Nc), k ≤ qs.length ∧ i = .int .i64 k ∧ Hid (FillN w wr P P qs.length k rs) ∧ Hid (rs.map (·.x) = (qs.map (·.x)).take k) ∧ Hid (One wr w.heap.size (.slice ao qs.length cap))) (fun i _ => qs.length - (intOf i).toNat)
 case atStart => exact ⟨0, [], Nat.zero_le _, rfl, HN, hide (by simp), X1M⟩
 case round =>
  clear HN X1M c0
  obtain ⟨k, rs, hk, rfl, HFI, HP, X1⟩ := hrel
  obtain ⟨c0, -, -⟩ := X1.out
  by_cases hkl : k < qs.length
  ·have HQ1 := hide (HQ.out.below HFI.out.below)
   obtain ⟨b, off, cap', e⟩ := HQ1.out.form (by omega)
   simp only [Value.slice.injEq, true_and] at e
   obtain ⟨rfl, rfl⟩ := e
   obtain ⟨hlt, d0, d1, d2, hin⟩ := HQ1.out.at k hkl
   have hx := HOK.out qs[k].x (List.mem_map.2 ⟨_, List.getElem_mem hkl, rfl⟩)
   have HCO := hide (copied_any wr qs[k] hin (by have := hx.few; omega) (fun g hg => by
    have h1 := (genF_ok.1 (hx.gens g hg)).1
    have h2 := hx.n
    refine ⟨by omega, fun e => ?_⟩
    rw [e] at h1
    simp at h1
    omega))
   have HP' : Hid (∀ q : Nc, q.x = qs[k].x → (rs ++ [q]).map (·.x) = (qs.map (·.x)).take (k + 1)) := fun q e => by
    rw [List.map_append, HP.out, List.take_succ_eq_append_getElem (by rw [List.length_map]; exact hkl), List.getElem_map]; simp [e]
   clear hin hx HQ1 HP
   generalize qs[k] = q at *
   obtain ⟨⟨nm, n, gens⟩, go, gl, gc⟩ := q
   go_wp2_with fail
   refine HCO.out.mono ?_
   rintro e w2 ⟨⟨⟨nm2, n2, gens2⟩, go2, gl2, gc2⟩, rfl, hx2, hfr, hb⟩
   have HF2 := hide (HFI.out.later hb); have X2 := hide (X1.out.later hb)
   obtain ⟨y0, y1, y2, y3⟩ := HF2.out.cell hkl
   have f0 := y3 (k * 3); have f1 := y3 (k * 3 + 1); have f2 := y3 (k * 3 + 2)
   have hPw := HFI.out.own.lt P rfl
   have HN3 := hide (HF2.out.put hkl (by have := HPB.out; omega) (hfr.mono (base' := P + 1) (by omega)))
   have X3 := hide (((X2.out.other (p := ⟨P, k * 3, none⟩) (by show P ≠ w.heap.size; have := HPB.out; omega) (.string nm2)).other (p := ⟨P, k * 3 + 1, none⟩) (by show P ≠ w.heap.size; have := HPB.out; omega) (.int .i64 n2)).other (p := ⟨P, k * 3 + 2, none⟩) (by show P ≠ w.heap.size; have := HPB.out; omega) (.slice go2 gl2 gc2))
   have HP2 := hide (HP'.out _ hx2)
   clear hfr hb hx2 HFI HF2 X1 X2 c0 d0 d1 d2 y3 HCO HP' hPw
   simp only [Nc.val]
   go_wp2
   go_roundw
   case rel => exact ⟨k + 1, _, by omega, by go_num, HN3, HP2, X3⟩
   case measure => simp [intOf]; omega
  ·obtain rfl : k = qs.length := by omega
   have hpp := HP.out
   rw [List.take_of_length_le (by rw [List.length_map]; exact Nat.le_refl _)] at hpp
   have HPP := hide hpp
   clear hpp HP c0
   go_wp2
   go_ret
   exact ⟨P, qs.length, rs, rfl, by have := HPB.out; omega, HFI.out, HPP.out⟩

theorem lattices_any2 (w : World) (v : Value) (qs : List Nc) (h : CatV w v qs) (hq : qs.length ≤ 100) (hok : ∀ x ∈ qs.map (·.x), NmOk x) :
  Calls Tryz.prog 22 #[v] w fun e w' => CatPost w (qs.map (·.x)) e w' := by
 refine (lattices_any3 w v qs h hq hok).mono ?_
 rintro e w' ⟨P, n, rs, rfl, -, hf, hx⟩
 exact ⟨_, rs, rfl, hf.cat, hx, hf.below⟩

end Go.Proofs.YtnhbfehfipafoaaGreatDoor

/- Library functions' contracts, laid at this translation: strconv.Itoa, bits.LeadingZeros32, strings.CutPrefix, the Builder's writes and its text. -/
namespace Go.Proofs
open Go.Shelf Go.RowKit Go.Sort
def Tryz.lays171_ren : Go.Shelf.Ren := ⟨fun | 171 => 114 | 243 => 135 | 246 => 153 | 283 => 164 | 284 => 165 | 285 => 166 | 286 => 167 | 129 => 175 | 317 => 174 | 318 => 176 | 319 => 177 | 320 => 178 | 337 => 181 | 338 => 182 | n => n, fun | 3 => 3 | 9 => 9 | 2 => 2 | 4 => 4 | 171 => 225 | 0 => 0 | 53 => 40 | 37 => 142 | 5 => 5 | 173 => 228 | 212 => 237 | 51 => 89 | 20 => 20 | 213 => 238 | 46 => 184 | 232 => 246 | 233 => 84 | n => n, fun | 17 => 3 | 18 => 6 | 19 => 7 | n => n⟩
theorem Tryz.lays171 : Go.Proofs.Lays.n171 Tryz.prog Tryz.lays171_ren := {
 mixed := by kernel_rfl
 f129 := Tryz.func175.trans (congrArg some (by kernel_rfl))
 f171 := Tryz.func114.trans (congrArg some (by kernel_rfl))
 f243 := Tryz.func135.trans (congrArg some (by kernel_rfl))
 f246 := Tryz.func153.trans (congrArg some (by kernel_rfl))
 f283 := Tryz.func164.trans (congrArg some (by kernel_rfl))
 f284 := Tryz.func165.trans (congrArg some (by kernel_rfl))
 f285 := Tryz.func166.trans (congrArg some (by kernel_rfl))
 f286 := Tryz.func167.trans (congrArg some (by kernel_rfl))
 f317 := Tryz.func174.trans (congrArg some (by kernel_rfl))
 f318 := Tryz.func176.trans (congrArg some (by kernel_rfl))
 f319 := Tryz.func177.trans (congrArg some (by kernel_rfl))
 f320 := Tryz.func178.trans (congrArg some (by kernel_rfl))
 f337 := Tryz.func181.trans (congrArg some (by kernel_rfl))
 f338 := Tryz.func182.trans (congrArg some (by kernel_rfl))
 t0 := Tryz.underlying0
 a0 := Tryz.isAgg0
 z0 := Tryz.sizeOf0
 v0 := Tryz.zeroValue0
 t2 := Tryz.underlying2
 a2 := Tryz.isAgg2
 z2 := Tryz.sizeOf2
 v2 := Tryz.zeroValue2
 t3 := Tryz.underlying3
 a3 := Tryz.isAgg3
 z3 := Tryz.sizeOf3
 v3 := Tryz.zeroValue3
 t4 := Tryz.underlying4
 a4 := Tryz.isAgg4
 z4 := Tryz.sizeOf4
 v4 := Tryz.zeroValue4
 t5 := Tryz.underlying5
 a5 := Tryz.isAgg5
 z5 := Tryz.sizeOf5
 v5 := Tryz.zeroValue5
 t9 := Tryz.underlying9
 a9 := Tryz.isAgg9
 z9 := Tryz.sizeOf9
 v9 := Tryz.zeroValue9
 t20 := Tryz.underlying20
 a20 := Tryz.isAgg20
 z20 := Tryz.sizeOf20
 v20 := Tryz.zeroValue20
 t37 := Tryz.underlying142
 a37 := Tryz.isAgg142
 z37 := Tryz.sizeOf142
 v37 := Tryz.zeroValue142
 t46 := Tryz.underlying184
 a46 := Tryz.isAgg184
 z46 := Tryz.sizeOf184
 v46 := Tryz.zeroValue184
 t51 := Tryz.underlying89
 a51 := Tryz.isAgg89
 z51 := Tryz.sizeOf89
 v51 := Tryz.zeroValue89
 t53 := Tryz.underlying40
 a53 := Tryz.isAgg40
 z53 := Tryz.sizeOf40
 v53 := Tryz.zeroValue40
 t171 := Tryz.underlying225
 a171 := Tryz.isAgg225
 z171 := Tryz.sizeOf225
 v171 := Tryz.zeroValue225
 t173 := Tryz.underlying228
 a173 := Tryz.isAgg228
 z173 := Tryz.sizeOf228
 v173 := Tryz.zeroValue228
 t212 := Tryz.underlying237
 a212 := Tryz.isAgg237
 z212 := Tryz.sizeOf237
 v212 := Tryz.zeroValue237
 t213 := Tryz.underlying238
 a213 := Tryz.isAgg238
 z213 := Tryz.sizeOf238
 t232 := Tryz.underlying246
 a232 := Tryz.isAgg246
 z232 := Tryz.sizeOf246
 v232 := Tryz.zeroValue246
 t233 := Tryz.underlying84
 a233 := Tryz.isAgg84
 z233 := Tryz.sizeOf84
 v233 := Tryz.zeroValue84
 g17 := by kernel_rfl
 g18 := by kernel_rfl
 g19 := by kernel_rfl }
open Go.RowKit Go.Sort Go.Lib in
theorem Tryz.strconv_Itoa_small (i : Nat) (hi : i < 100) (w : World) :
  Calls Tryz.prog 114 #[.int .i64 i] w fun e w' => e = .returned (.string ⟨(Lib.decDigits i).toArray⟩) ∧ w' = w := Any.strconv_Itoa_small Tryz.lays171 i hi w
def Tryz.lays169_ren : Go.Shelf.Ren := ⟨fun | 169 => 86 | n => n, fun | 70 => 147 | 9 => 9 | 0 => 0 | 72 => 149 | 37 => 142 | 127 => 172 | 3 => 3 | 5 => 5 | n => n, fun | n => n⟩
theorem Tryz.lays169 : Go.Proofs.Lays.n169 Tryz.prog Tryz.lays169_ren := {
 mixed := by kernel_rfl
 f169 := Tryz.func86.trans (congrArg some (by kernel_rfl))
 t0 := Tryz.underlying0
 a0 := Tryz.isAgg0
 z0 := Tryz.sizeOf0
 v0 := Tryz.zeroValue0
 t3 := Tryz.underlying3
 a3 := Tryz.isAgg3
 z3 := Tryz.sizeOf3
 v3 := Tryz.zeroValue3
 t9 := Tryz.underlying9
 a9 := Tryz.isAgg9
 z9 := Tryz.sizeOf9
 v9 := Tryz.zeroValue9
 t37 := Tryz.underlying142
 a37 := Tryz.isAgg142
 z37 := Tryz.sizeOf142
 v37 := Tryz.zeroValue142
 t70 := Tryz.underlying147
 a70 := Tryz.isAgg147
 z70 := Tryz.sizeOf147
 v70 := Tryz.zeroValue147
 t72 := Tryz.underlying149
 a72 := Tryz.isAgg149
 z72 := Tryz.sizeOf149
 v72 := Tryz.zeroValue149
 t127 := Tryz.underlying172
 a127 := Tryz.isAgg172
 z127 := Tryz.sizeOf172
 v127 := Tryz.zeroValue172 }
theorem Tryz.Builder_Extra_169 : Builder.Extra Tryz.prog Tryz.lays169_ren := {
 sizeBuilder := by kernel_rfl
 liesBuilder := by kernel_rfl
 t5 := Tryz.underlying5
 a5 := Tryz.isAgg5
 z5 := Tryz.sizeOf5
 v5 := Tryz.zeroValue5
 infoByte := by kernel_rfl
 cellsByte := by kernel_rfl
 sizeByte := by kernel_rfl
 neB5 := by decide }
open Go.RowKit in
theorem Tryz.Builder_String_any_k (B b : Nat) (l : List UInt8) (w : World) (h : Lib.IsBuilderF 149 5 B b (Lib.byteCells l) w) (hBw : B ≤ w.heap.size) :
  Calls Tryz.prog 86 #[.pointer (some ⟨b, 0, none⟩)] w fun e w' => e = .returned (.string ⟨l.toArray⟩) ∧ (Lib.IsBuilderF 149 5 B b (Lib.byteCells l) w' ∧ Below B w w' ∧ Lib.OthersKept 5 (some b) w w') := Any.Builder_String_any_k Tryz.lays169 Tryz.Builder_Extra_169 B b l w h hBw
def Tryz.lays166_ren : Go.Shelf.Ren := ⟨fun | 166 => 85 | 240 => 109 | 276 => 130 | n => n, fun | 0 => 0 | 3 => 3 | 4 => 4 | 5 => 5 | 9 => 9 | 20 => 20 | 37 => 142 | 70 => 147 | 72 => 149 | 75 => 27 | 80 => 151 | 164 => 188 | n => n, fun | n => n⟩
theorem Tryz.lays166 : Go.Proofs.Lays.n166 Tryz.prog Tryz.lays166_ren := {
 mixed := by kernel_rfl
 f166 := Tryz.func85.trans (congrArg some (by kernel_rfl))
 f240 := Tryz.func109.trans (congrArg some (by kernel_rfl))
 f276 := Tryz.func130.trans (congrArg some (by kernel_rfl))
 t0 := Tryz.underlying0
 a0 := Tryz.isAgg0
 z0 := Tryz.sizeOf0
 v0 := Tryz.zeroValue0
 t3 := Tryz.underlying3
 a3 := Tryz.isAgg3
 z3 := Tryz.sizeOf3
 v3 := Tryz.zeroValue3
 t4 := Tryz.underlying4
 a4 := Tryz.isAgg4
 z4 := Tryz.sizeOf4
 v4 := Tryz.zeroValue4
 t9 := Tryz.underlying9
 a9 := Tryz.isAgg9
 z9 := Tryz.sizeOf9
 v9 := Tryz.zeroValue9
 t20 := Tryz.underlying20
 a20 := Tryz.isAgg20
 z20 := Tryz.sizeOf20
 v20 := Tryz.zeroValue20
 t37 := Tryz.underlying142
 a37 := Tryz.isAgg142
 z37 := Tryz.sizeOf142
 v37 := Tryz.zeroValue142
 t70 := Tryz.underlying147
 a70 := Tryz.isAgg147
 z70 := Tryz.sizeOf147
 v70 := Tryz.zeroValue147
 t72 := Tryz.underlying149
 a72 := Tryz.isAgg149
 z72 := Tryz.sizeOf149
 v72 := Tryz.zeroValue149
 t75 := Tryz.underlying27
 a75 := Tryz.isAgg27
 z75 := Tryz.sizeOf27
 v75 := Tryz.zeroValue27
 t164 := Tryz.underlying188
 a164 := Tryz.isAgg188
 z164 := Tryz.sizeOf188
 v164 := Tryz.zeroValue188 }
theorem Tryz.Builder_Extra_166 : Builder.Extra Tryz.prog Tryz.lays166_ren := {
 sizeBuilder := by kernel_rfl
 liesBuilder := by kernel_rfl
 t5 := Tryz.underlying5
 a5 := Tryz.isAgg5
 z5 := Tryz.sizeOf5
 v5 := Tryz.zeroValue5
 infoByte := by kernel_rfl
 cellsByte := by kernel_rfl
 sizeByte := by kernel_rfl
 neB5 := by decide }
open Go.RowKit in
theorem Tryz.Builder_WriteString_k (B b : Nat) (bs : List Value) (s : ByteArray) (w : World) (h : Lib.IsBuilderF 149 5 B b bs w) (hlen : bs.length + s.size ≤ 140737488355328) (hBw : B ≤ w.heap.size) :
  Calls Tryz.prog 85 #[.pointer (some ⟨b, 0, none⟩), .string s] w fun e w' => e = .returned (.tuple #[.int .i64 s.size, .nilIface]) ∧ (Lib.BuilderAtF 149 5 B b (.pointer (some ⟨b, 0, none⟩)) (bs ++ Lib.strCells s) w' ∧ Below B w w' ∧ Lib.OthersKept 5 (some b) w w') := Any.Builder_WriteString_k Tryz.lays166 Tryz.Builder_Extra_166 B b bs s w h hlen hBw
end Go.Proofs
