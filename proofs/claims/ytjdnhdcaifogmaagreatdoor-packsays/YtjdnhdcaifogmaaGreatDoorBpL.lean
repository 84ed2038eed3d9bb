/- bag: a lattice in memory of its own. -/
import Derived.Test.YtjdnhdcaifogmaaGreatDoorBgO
import Derived.Laws.MakeOwn
import Derived.Laws.OwnMore
import Derived.Shelf.Small.Bits
import Derived.Shelf.Small.Wraps
import Derived.Shelf.Strings.BuilderK
import Derived.Shelf.Strconv.Itoa3
import Derived.Test.YtjdnhdcaifogmaaGreatDoorProg
import Derived.Test.YtjdnhdcaifogmaaGreatDoorBpG
import Derived.Lib.Split
import Derived.Lib.Join
import Derived.Lib.Atoi
import Derived.Lib.IndexMore

namespace Go.Proofs.YtjdnhdcaifogmaaGreatDoor
open Go.RowKit

structure FillG (w wr : World) (base P n k : Nat) (ps : List Gc) : Prop where
 own : wr.ownsRow base 44 1 (.slice (some ⟨P, 0, none⟩) n n) n (ps.map (·.1) ++ List.replicate (n - k) (.slice none 0 0))
 len : ps.length = k
 ins : ∀ g ∈ ps, GcIn wr g
 news : ∀ g ∈ ps, ∀ a l c, g.1 = .slice (some a) l c → base ≤ a.block
 below : Below w.heap.size w wr

theorem FillG.start (w W : World) (n : Nat) (hb : Below w.heap.size w W) (hn : n ≤ maxLen) : FillG w (W.alloc (.cells (madeCells #[.slice none 0 0] n) 44)) W.heap.size W.heap.size n 0 [] where
 own := by
  refine ⟨by simp, .inr ⟨W.heap.size, n, _, rfl, Nat.le_refl _, heap_alloc_new W _, Nat.le_refl _, hn, by rw [size_madeCells, Nat.mul_one], ?_⟩⟩
  rw [toList_madeCells_one]; simp
 len := rfl
 ins := fun _ h => by cases h
 news := fun _ h => by cases h
 below := hb.alloc hb.size _

theorem FillG.later {w wr w' : World} {base P n k : Nat} {ps : List Gc} (h : FillG w wr base P n k ps) (hb : Below wr.heap.size wr w') : FillG w w' base P n k ps :=
 ⟨ownsRow_later h.own hb, h.len, fun g hg => (h.ins g hg).below hb (Nat.le_refl _), h.news, h.below.trans (hb.mono h.below.size)⟩

theorem FillG.cell {w wr : World} {base P n k : Nat} {ps : List Gc} (h : FillG w wr base P n k ps) (hk : k < n) : wr.cell? ⟨P, k, none⟩ = some (.slice none 0 0) ∧ wr.frozen? ⟨P, k, none⟩ = false := by
 obtain ⟨g, cap, e, -, hc⟩ := own_at h.own (by omega)
 simp only [Value.slice.injEq, Option.some.injEq, Addr.mk.injEq, and_true, true_and] at e
 obtain ⟨rfl, rfl⟩ := e
 refine ⟨hc k _ ?_, own_free h.own k⟩
 have hl := h.len
 rw [List.getElem?_append_right (by rw [List.length_map]; omega), List.length_map, hl, Nat.sub_self, List.getElem?_replicate, if_pos (by omega)]

theorem FillG.put {w wr : World} {base P n k : Nat} {ps : List Gc} (h : FillG w wr base P n k ps) (hk : k < n) (hP : w.heap.size ≤ P) {u : Value} {g : List Int} (hg : RowS wr u g) (hnew : ∀ a l c, u = .slice (some a) l c → base ≤ a.block) : FillG w (wr.setCell ⟨P, k, none⟩ u) base P n (k + 1) (ps ++ [(u, g)]) where
 own := by
  have hl := h.len
  have := own_set h.own k u
  rw [List.set_append_right _ _ (by rw [List.length_map]; omega), List.length_map, hl, Nat.sub_self, show n - k = (n - (k + 1)) + 1 by omega, List.replicate_succ, List.set_cons_zero] at this
  rw [List.map_append, List.append_assoc]
  exact this
 len := by rw [List.length_append, h.len]; rfl
 ins := fun x hx => by
  have hc := (h.cell hk).1
  rcases List.mem_append.1 hx with h' | h'
  ·exact (h.ins x h').setOne hc u
  ·rw [List.mem_singleton] at h'; subst h'; exact hg.setOne hc u
 news := fun x hx => by
  rcases List.mem_append.1 hx with h' | h'
  ·exact h.news x h'
  ·rw [List.mem_singleton] at h'; subst h'; exact hnew
 below := h.below.setCell (p := ⟨P, k, none⟩) hP u

theorem RowS.setOther {W : World} {v : Value} {ks : List Int} (h : RowS W v ks) {p : Addr} (hp : ∀ a l c, v = .slice (some a) l c → a.block ≠ p.block) (x : Value) : RowS (W.setCell p x) v ks := by
 obtain ⟨ao, cap, e, hn, h6, hh⟩ := h
 refine ⟨ao, cap, e, hn, h6, fun h0 => ?_⟩
 obtain ⟨b, off, e', hlt, hcell⟩ := hh h0
 subst e'
 refine ⟨b, off, rfl, by simpa using hlt, fun i hi => (World.cell?_setCell_other _ _ _ _ fun e2 => ?_).trans (hcell i hi)⟩
 exact hp _ _ _ e (by rw [e2])

theorem FillG.set {w wr : World} {base P n k : Nat} {ps : List Gc} (h : FillG w wr base P n k ps) {p : Addr} (hp : p.block < base) (hw : w.heap.size ≤ p.block) (x : Value) : FillG w (wr.setCell p x) base P n k ps :=
 ⟨ownsRow_setCell_below h.own hp x, h.len, fun g hg => (h.ins g hg).setOther (fun a l c e => by have := h.news g hg a l c e; omega) x, h.news, h.below.setCell hw x⟩

theorem FillG.rows {w wr : World} {base P n : Nat} {ps : List Gc} (h : FillG w wr base P n n ps) : RowsS wr (.slice (some ⟨P, 0, none⟩) n n) (ps.map (·.2)) := by
 have ho := owns_seq h.own
 rw [Nat.sub_self, List.replicate_zero, List.append_nil] at ho
 have hl := h.len
 subst hl
 exact rowsS_of_seq ho h.ins

def BoxT (W : World) (B : Nat) (u0 u1 u2 : Value) : Prop := ThreeV W B u0 u1 u2 ∧ ∀ k, W.frozen? ⟨B, k, none⟩ = false

theorem BoxT.later {W W' : World} {B : Nat} {u0 u1 u2 : Value} (h : BoxT W B u0 u1 u2) (hb : Below W.heap.size W W') : BoxT W' B u0 u1 u2 :=
 ⟨h.1.later hb, fun k => (hb.frozen (p := ⟨B, k, none⟩) h.1.2.2.2).trans (h.2 k)⟩

theorem BoxT.new (W : World) (u0 u1 u2 : Value) (t : TypeId) : BoxT (W.alloc (.cells #[u0, u1, u2] t)) W.heap.size u0 u1 u2 := ⟨ThreeV.new W u0 u1 u2 t, fun k => by simp⟩

theorem BoxT.other {W : World} {B : Nat} {u0 u1 u2 : Value} (h : BoxT W B u0 u1 u2) {p : Addr} (hp : p.block ≠ B) (x : Value) : BoxT (W.setCell p x) B u0 u1 u2 := by
 obtain ⟨⟨h0, h1, h2, h3⟩, h4⟩ := h
 have ne : ∀ k, p ≠ ⟨B, k, none⟩ := fun k e => hp (by rw [e])
 exact ⟨⟨(World.cell?_setCell_other _ _ _ _ (ne 0)).trans h0, (World.cell?_setCell_other _ _ _ _ (ne 1)).trans h1, (World.cell?_setCell_other _ _ _ _ (ne 2)).trans h2, by simpa using h3⟩, fun k => by simpa using h4 k⟩

theorem BoxT.set2 {W : World} {B : Nat} {u0 u1 u2 : Value} (h : BoxT W B u0 u1 u2) (x : Value) : BoxT (W.setCell ⟨B, 2, none⟩ x) B u0 u1 x := by
 obtain ⟨⟨h0, h1, h2, h3⟩, h4⟩ := h
 exact ⟨⟨(World.cell?_setCell_other _ _ _ _ (fun e => by simp at e)).trans h0, (World.cell?_setCell_other _ _ _ _ (fun e => by simp at e)).trans h1, World.cell?_setCell_same _ _ _ h2, by simpa using h3⟩, fun k => by simpa using h4 k⟩

def NcFresh (base : Nat) (W : World) (q : Nc) : Prop :=
 ∃ (ps : List Gc) (b : Nat), q.o = some ⟨b, 0, none⟩ ∧ base ≤ b ∧ ps.map (·.2) = q.x.gens ∧ ps.length = q.l ∧ SeqV W (.slice q.o q.l q.c) q.l (ps.map (·.1)) ∧ ∀ g ∈ ps, GcIn W g ∧ ∀ a l c, g.1 = .slice (some a) l c → base ≤ a.block

theorem NcFresh.ins {base : Nat} {W : World} {q : Nc} (h : NcFresh base W q) : NcIn W q := by
 obtain ⟨ps, b, h1, h2, h3, h4, h5, h6⟩ := h
 have := rowsS_of_seq (v := .slice q.o q.l q.c) (by rw [h4]; exact h5) (fun g hg => (h6 g hg).1)
 rwa [h3] at this

theorem NcFresh.later {base : Nat} {W W' : World} {q : Nc} (h : NcFresh base W q) (hb : Below W.heap.size W W') : NcFresh base W' q := by
 obtain ⟨ps, b, h1, h2, h3, h4, h5, h6⟩ := h
 exact ⟨ps, b, h1, h2, h3, h4, h5.below hb (Nat.le_refl _), fun g hg => ⟨(h6 g hg).1.below hb (Nat.le_refl _), (h6 g hg).2⟩⟩

theorem NcFresh.set {base : Nat} {W : World} {q : Nc} (h : NcFresh base W q) {p : Addr} (hp : p.block < base) (x : Value) : NcFresh base (W.setCell p x) q := by
 obtain ⟨ps, b, h1, h2, h3, h4, h5, h6⟩ := h
 refine ⟨ps, b, h1, h2, h3, h4, ?_, fun g hg => ⟨(h6 g hg).1.setOther (fun a l c e => by have := (h6 g hg).2 a l c e; omega) x, (h6 g hg).2⟩⟩
 obtain ⟨ao, cap, e, hn, hh⟩ := h5
 refine ⟨ao, cap, e, hn, fun h0 => ?_⟩
 obtain ⟨b', off, e', hlt, hc⟩ := hh h0
 refine ⟨b', off, e', by simpa using hlt, fun j u hu => (World.cell?_setCell_other _ _ _ _ fun e2 => ?_).trans (hc j u hu)⟩
 simp only [Value.slice.injEq] at e
 rw [e', h1] at e
 simp only [Option.some.injEq, Addr.mk.injEq, and_true] at e
 have : p.block = b' := by rw [e2]
 omega

theorem NcFresh.mono {base base' : Nat} {W : World} {q : Nc} (h : NcFresh base W q) (hb : base' ≤ base) : NcFresh base' W q := by
 obtain ⟨ps, b, h1, h2, h3, h4, h5, h6⟩ := h
 exact ⟨ps, b, h1, by omega, h3, h4, h5, fun g hg => ⟨(h6 g hg).1, fun a l c e => Nat.le_trans hb ((h6 g hg).2 a l c e)⟩⟩

end Go.Proofs.YtjdnhdcaifogmaaGreatDoor

/- bag: a catalog's lattices, in memory of their own. -/
namespace Go.Proofs.YtjdnhdcaifogmaaGreatDoor
open Go.RowKit

theorem made_three (m : Nat) : (madeCells #[.string ⟨#[]⟩, .int .i64 0, .slice none 0 0] (m * 3)).toList = (List.replicate m [Value.string ⟨#[]⟩, .int .i64 0, .slice none 0 0]).flatten := by
 induction m with
 | zero => simp [madeCells]
 | succ m ih =>
  have e : (madeCells #[.string ⟨#[]⟩, .int .i64 0, .slice none 0 0] ((m + 1) * 3)).toList = (madeCells #[.string ⟨#[]⟩, .int .i64 0, .slice none 0 0] (m * 3)).toList ++ [Value.string ⟨#[]⟩, .int .i64 0, .slice none 0 0] := by
   unfold madeCells
   rw [Array.toList_map, Array.toList_map, Array.toList_range, Array.toList_range, show (m + 1) * 3 = m * 3 + 1 + 1 + 1 by omega, List.range_succ, List.range_succ, List.range_succ]
   simp only [List.map_append, List.map_cons, List.map_nil, List.append_assoc, List.cons_append, List.nil_append]
   have h0 : m * 3 % 3 = 0 := by omega
   have h1 : (m * 3 + 1) % 3 = 1 := by omega
   have h2 : (m * 3 + 1 + 1) % 3 = 2 := by omega
   simp [h0, h1, h2]
  rw [e, ih, List.replicate_succ', List.flatten_append]; simp

structure FillN (w wr : World) (base P n k : Nat) (rs : List Nc) : Prop where
 own : wr.ownsRow base 66 3 (.slice (some ⟨P, 0, none⟩) n n) n (rs.flatMap Nc.cells ++ (List.replicate (n - k) [Value.string ⟨#[]⟩, .int .i64 0, .slice none 0 0]).flatten)
 len : rs.length = k
 ins : ∀ q ∈ rs, NcFresh (P + 1) wr q
 below : Below w.heap.size w wr

theorem FillN.start (w W : World) (n : Nat) (hb : Below w.heap.size w W) (hn : n ≤ maxLen) : FillN w (W.alloc (.cells (madeCells #[.string ⟨#[]⟩, .int .i64 0, .slice none 0 0] (n * 3)) 66)) W.heap.size W.heap.size n 0 [] where
 own := by
  refine ⟨by rw [List.flatMap_nil, List.nil_append, Nat.sub_zero, ← made_three, Array.length_toList, size_madeCells], .inr ⟨W.heap.size, n, _, rfl, Nat.le_refl _, heap_alloc_new W _, Nat.le_refl _, hn, by rw [size_madeCells], ?_⟩⟩
  rw [made_three, List.flatMap_nil, List.nil_append, Nat.sub_zero]
  exact List.take_of_length_le (by rw [← made_three, Array.length_toList, size_madeCells]; exact Nat.le_refl _)
 len := rfl
 ins := fun _ h => by cases h
 below := hb.alloc hb.size _

theorem FillN.later {w wr w' : World} {base P n k : Nat} {rs : List Nc} (h : FillN w wr base P n k rs) (hb : Below wr.heap.size wr w') : FillN w w' base P n k rs :=
 ⟨ownsRow_later h.own hb, h.len, fun g hg => (h.ins g hg).later hb, h.below.trans (hb.mono h.below.size)⟩

theorem FillN.cell {w wr : World} {base P n k : Nat} {rs : List Nc} (h : FillN w wr base P n k rs) (hk : k < n) : wr.cell? ⟨P, k * 3, none⟩ = some (.string ⟨#[]⟩) ∧ wr.cell? ⟨P, k * 3 + 1, none⟩ = some (.int .i64 0) ∧ wr.cell? ⟨P, k * 3 + 2, none⟩ = some (.slice none 0 0) ∧ ∀ j, wr.frozen? ⟨P, j, none⟩ = false := by
 obtain ⟨g, cap, e, -, hc⟩ := own_at h.own (by omega)
 simp only [Value.slice.injEq, Option.some.injEq, Addr.mk.injEq, and_true, true_and] at e
 obtain ⟨rfl, rfl⟩ := e
 have hl : (rs.flatMap Nc.cells).length = k * 3 := by rw [nccells_len, h.len]
 have key : ∀ j, j < 3 → (rs.flatMap Nc.cells ++ (List.replicate (n - k) [Value.string ⟨#[]⟩, .int .i64 0, .slice none 0 0]).flatten)[k * 3 + j]? = [Value.string ⟨#[]⟩, .int .i64 0, .slice none 0 0][j]? := fun j hj => by
  rw [List.getElem?_append_right (by omega), hl, show n - k = (n - k - 1) + 1 by omega, List.replicate_succ, List.flatten_cons, List.getElem?_append_left (by simp; omega), show k * 3 + j - k * 3 = j by omega]
 exact ⟨hc _ _ ((key 0 (by omega)).trans rfl), hc _ _ ((key 1 (by omega)).trans rfl), hc _ _ ((key 2 (by omega)).trans rfl), own_free h.own⟩

theorem FillN.put {w wr : World} {base P n k : Nat} {rs : List Nc} (h : FillN w wr base P n k rs) (hk : k < n) (hP : w.heap.size ≤ P) {q : Nc} (hq : NcFresh (P + 1) wr q) : FillN w (((wr.setCell ⟨P, k * 3, none⟩ (.string q.x.name)).setCell ⟨P, k * 3 + 1, none⟩ (.int .i64 q.x.n)).setCell ⟨P, k * 3 + 2, none⟩ (.slice q.o q.l q.c)) base P n (k + 1) (rs ++ [q]) where
 own := by
  have hl : (rs.flatMap Nc.cells).length = k * 3 := by rw [nccells_len, h.len]
  have h1 := own_set (own_set (own_set h.own (k * 3) (.string q.x.name)) (k * 3 + 1) (.int .i64 q.x.n)) (k * 3 + 2) (.slice q.o q.l q.c)
  have e : ((((rs.flatMap Nc.cells ++ (List.replicate (n - k) [Value.string ⟨#[]⟩, .int .i64 0, .slice none 0 0]).flatten).set (k * 3) (.string q.x.name)).set (k * 3 + 1) (.int .i64 q.x.n)).set (k * 3 + 2) (.slice q.o q.l q.c)) = (rs ++ [q]).flatMap Nc.cells ++ (List.replicate (n - (k + 1)) [Value.string ⟨#[]⟩, .int .i64 0, .slice none 0 0]).flatten := by
   rw [List.set_append_right _ _ (by omega), List.set_append_right _ _ (by omega), List.set_append_right _ _ (by omega), hl, Nat.sub_self, show k * 3 + 1 - k * 3 = 1 by omega, show k * 3 + 2 - k * 3 = 2 by omega, show n - k = (n - (k + 1)) + 1 by omega, List.replicate_succ, List.flatten_cons, List.flatMap_append, List.append_assoc]
   simp [Nc.cells]
  rw [e] at h1
  exact h1
 len := by rw [List.length_append, h.len]; rfl
 ins := fun x hx => by
  rcases List.mem_append.1 hx with h' | h'
  ·exact (((h.ins x h').set (p := ⟨P, k * 3, none⟩) (Nat.lt_succ_self P) _).set (p := ⟨P, k * 3 + 1, none⟩) (Nat.lt_succ_self P) _).set (p := ⟨P, k * 3 + 2, none⟩) (Nat.lt_succ_self P) _
  ·rw [List.mem_singleton] at h'; subst h'
   exact ((hq.set (p := ⟨P, k * 3, none⟩) (Nat.lt_succ_self P) _).set (p := ⟨P, k * 3 + 1, none⟩) (Nat.lt_succ_self P) _).set (p := ⟨P, k * 3 + 2, none⟩) (Nat.lt_succ_self P) _
 below := ((h.below.setCell (p := ⟨P, k * 3, none⟩) hP _).setCell (p := ⟨P, k * 3 + 1, none⟩) hP _).setCell (p := ⟨P, k * 3 + 2, none⟩) hP _

theorem FillN.cat {w wr : World} {base P n : Nat} {rs : List Nc} (h : FillN w wr base P n n rs) : CatN wr (.slice (some ⟨P, 0, none⟩) n n) rs := by
 have ho := h.own
 rw [Nat.sub_self, List.replicate_zero, List.flatten_nil, List.append_nil] at ho
 have hl := h.len
 subst hl
 exact catN_of_owns ho (fun q hq => (h.ins q hq).ins)

theorem One.other {W : World} {B : Nat} {u : Value} (h : One W B u) {p : Addr} (hp : p.block ≠ B) (x : Value) : One (W.setCell p x) B u :=
 ⟨(World.cell?_setCell_other _ _ _ _ (fun e => hp (by rw [e]))).trans h.1, by simpa using h.2.1, by simpa using h.2.2⟩

def CatPost (w : World) (cs : List Nmd) (e : Ending) (w' : World) : Prop := ∃ u rs, e = .returned u ∧ CatN w' u rs ∧ rs.map (·.x) = cs ∧ Below w.heap.size w w'

def CatNew (w : World) (cs : List Nmd) (e : Ending) (w' : World) : Prop := ∃ P n rs, e = .returned (.slice (some ⟨P, 0, none⟩) n n) ∧ w.heap.size < P ∧ FillN w w' P P n n rs ∧ rs.map (·.x) = cs

end Go.Proofs.YtjdnhdcaifogmaaGreatDoor

/- Library functions' contracts, laid at this translation: strconv.Itoa, bits.LeadingZeros32, strings.CutPrefix, the Builder's writes and its text. -/
namespace Go.Proofs
open Go.Shelf Go.RowKit Go.Sort
def Tryz.lays171_ren : Go.Shelf.Ren := ⟨fun | 171 => 45 | 243 => 65 | 246 => 78 | 283 => 93 | 284 => 94 | 285 => 95 | 286 => 96 | 129 => 107 | 317 => 106 | 318 => 108 | 319 => 109 | 320 => 110 | 337 => 117 | 338 => 118 | n => n, fun | 3 => 3 | 9 => 9 | 2 => 2 | 4 => 4 | 171 => 138 | 0 => 0 | 53 => 113 | 37 => 58 | 5 => 5 | 173 => 141 | 212 => 154 | 51 => 143 | 20 => 20 | 213 => 155 | 46 => 80 | 232 => 165 | 233 => 166 | n => n, fun | 17 => 3 | 18 => 4 | 19 => 5 | n => n⟩
theorem Tryz.lays171 : Go.Proofs.Lays.n171 Tryz.prog Tryz.lays171_ren := {
 mixed := by kernel_rfl
 f129 := Tryz.func107.trans (congrArg some (by kernel_rfl))
 f171 := Tryz.func45.trans (congrArg some (by kernel_rfl))
 f243 := Tryz.func65.trans (congrArg some (by kernel_rfl))
 f246 := Tryz.func78.trans (congrArg some (by kernel_rfl))
 f283 := Tryz.func93.trans (congrArg some (by kernel_rfl))
 f284 := Tryz.func94.trans (congrArg some (by kernel_rfl))
 f285 := Tryz.func95.trans (congrArg some (by kernel_rfl))
 f286 := Tryz.func96.trans (congrArg some (by kernel_rfl))
 f317 := Tryz.func106.trans (congrArg some (by kernel_rfl))
 f318 := Tryz.func108.trans (congrArg some (by kernel_rfl))
 f319 := Tryz.func109.trans (congrArg some (by kernel_rfl))
 f320 := Tryz.func110.trans (congrArg some (by kernel_rfl))
 f337 := Tryz.func117.trans (congrArg some (by kernel_rfl))
 f338 := Tryz.func118.trans (congrArg some (by kernel_rfl))
 t0 := Tryz.underlying0
 a0 := Tryz.isAgg0
 z0 := Tryz.sizeOf0
 v0 := Tryz.zeroValue0
 t2 := Tryz.underlying2
 a2 := Tryz.isAgg2
 z2 := Tryz.sizeOf2
 v2 := Tryz.zeroValue2
 t3 := Tryz.underlying3
 a3 := Tryz.isAgg3
 z3 := Tryz.sizeOf3
 v3 := Tryz.zeroValue3
 t4 := Tryz.underlying4
 a4 := Tryz.isAgg4
 z4 := Tryz.sizeOf4
 v4 := Tryz.zeroValue4
 t5 := Tryz.underlying5
 a5 := Tryz.isAgg5
 z5 := Tryz.sizeOf5
 v5 := Tryz.zeroValue5
 t9 := Tryz.underlying9
 a9 := Tryz.isAgg9
 z9 := Tryz.sizeOf9
 v9 := Tryz.zeroValue9
 t20 := Tryz.underlying20
 a20 := Tryz.isAgg20
 z20 := Tryz.sizeOf20
 v20 := Tryz.zeroValue20
 t37 := Tryz.underlying58
 a37 := Tryz.isAgg58
 z37 := Tryz.sizeOf58
 v37 := Tryz.zeroValue58
 t46 := Tryz.underlying80
 a46 := Tryz.isAgg80
 z46 := Tryz.sizeOf80
 v46 := Tryz.zeroValue80
 t51 := Tryz.underlying143
 a51 := Tryz.isAgg143
 z51 := Tryz.sizeOf143
 v51 := Tryz.zeroValue143
 t53 := Tryz.underlying113
 a53 := Tryz.isAgg113
 z53 := Tryz.sizeOf113
 v53 := Tryz.zeroValue113
 t171 := Tryz.underlying138
 a171 := Tryz.isAgg138
 z171 := Tryz.sizeOf138
 v171 := Tryz.zeroValue138
 t173 := Tryz.underlying141
 a173 := Tryz.isAgg141
 z173 := Tryz.sizeOf141
 v173 := Tryz.zeroValue141
 t212 := Tryz.underlying154
 a212 := Tryz.isAgg154
 z212 := Tryz.sizeOf154
 v212 := Tryz.zeroValue154
 t213 := Tryz.underlying155
 a213 := Tryz.isAgg155
 z213 := Tryz.sizeOf155
 t232 := Tryz.underlying165
 a232 := Tryz.isAgg165
 z232 := Tryz.sizeOf165
 v232 := Tryz.zeroValue165
 t233 := Tryz.underlying166
 a233 := Tryz.isAgg166
 z233 := Tryz.sizeOf166
 v233 := Tryz.zeroValue166
 g17 := by kernel_rfl
 g18 := by kernel_rfl
 g19 := by kernel_rfl }
open Go.RowKit Go.Sort Go.Lib in
theorem Tryz.strconv_Itoa_small (i : Nat) (hi : i < 100) (w : World) :
  Calls Tryz.prog 45 #[.int .i64 i] w fun e w' => e = .returned (.string ⟨(Lib.decDigits i).toArray⟩) ∧ w' = w := Any.strconv_Itoa_small Tryz.lays171 i hi w
def Tryz.lays169_ren : Go.Shelf.Ren := ⟨fun | 169 => 23 | n => n, fun | 70 => 57 | 9 => 9 | 0 => 0 | 72 => 60 | 37 => 58 | 127 => 92 | 3 => 3 | 5 => 5 | n => n, fun | n => n⟩
theorem Tryz.lays169 : Go.Proofs.Lays.n169 Tryz.prog Tryz.lays169_ren := {
 mixed := by kernel_rfl
 f169 := Tryz.func23.trans (congrArg some (by kernel_rfl))
 t0 := Tryz.underlying0
 a0 := Tryz.isAgg0
 z0 := Tryz.sizeOf0
 v0 := Tryz.zeroValue0
 t3 := Tryz.underlying3
 a3 := Tryz.isAgg3
 z3 := Tryz.sizeOf3
 v3 := Tryz.zeroValue3
 t9 := Tryz.underlying9
 a9 := Tryz.isAgg9
 z9 := Tryz.sizeOf9
 v9 := Tryz.zeroValue9
 t37 := Tryz.underlying58
 a37 := Tryz.isAgg58
 z37 := Tryz.sizeOf58
 v37 := Tryz.zeroValue58
 t70 := Tryz.underlying57
 a70 := Tryz.isAgg57
 z70 := Tryz.sizeOf57
 v70 := Tryz.zeroValue57
 t72 := Tryz.underlying60
 a72 := Tryz.isAgg60
 z72 := Tryz.sizeOf60
 v72 := Tryz.zeroValue60
 t127 := Tryz.underlying92
 a127 := Tryz.isAgg92
 z127 := Tryz.sizeOf92
 v127 := Tryz.zeroValue92 }
theorem Tryz.Builder_Extra_169 : Builder.Extra Tryz.prog Tryz.lays169_ren := {
 sizeBuilder := by kernel_rfl
 liesBuilder := by kernel_rfl
 t5 := Tryz.underlying5
 a5 := Tryz.isAgg5
 z5 := Tryz.sizeOf5
 v5 := Tryz.zeroValue5
 infoByte := by kernel_rfl
 cellsByte := by kernel_rfl
 sizeByte := by kernel_rfl
 neB5 := by decide }
open Go.RowKit in
theorem Tryz.Builder_String_any_k (B b : Nat) (l : List UInt8) (w : World) (h : Lib.IsBuilderF 60 5 B b (Lib.byteCells l) w) (hBw : B ≤ w.heap.size) :
  Calls Tryz.prog 23 #[.pointer (some ⟨b, 0, none⟩)] w fun e w' => e = .returned (.string ⟨l.toArray⟩) ∧ (Lib.IsBuilderF 60 5 B b (Lib.byteCells l) w' ∧ Below B w w' ∧ Lib.OthersKept 5 (some b) w w') := Any.Builder_String_any_k Tryz.lays169 Tryz.Builder_Extra_169 B b l w h hBw
def Tryz.lays166_ren : Go.Shelf.Ren := ⟨fun | 166 => 21 | 240 => 44 | 276 => 64 | n => n, fun | 0 => 0 | 3 => 3 | 4 => 4 | 5 => 5 | 9 => 9 | 20 => 20 | 37 => 58 | 70 => 57 | 72 => 60 | 75 => 34 | 80 => 32 | 164 => 110 | n => n, fun | n => n⟩
theorem Tryz.lays166 : Go.Proofs.Lays.n166 Tryz.prog Tryz.lays166_ren := {
 mixed := by kernel_rfl
 f166 := Tryz.func21.trans (congrArg some (by kernel_rfl))
 f240 := Tryz.func44.trans (congrArg some (by kernel_rfl))
 f276 := Tryz.func64.trans (congrArg some (by kernel_rfl))
 t0 := Tryz.underlying0
 a0 := Tryz.isAgg0
 z0 := Tryz.sizeOf0
 v0 := Tryz.zeroValue0
 t3 := Tryz.underlying3
 a3 := Tryz.isAgg3
 z3 := Tryz.sizeOf3
 v3 := Tryz.zeroValue3
 t4 := Tryz.underlying4
 a4 := Tryz.isAgg4
 z4 := Tryz.sizeOf4
 v4 := Tryz.zeroValue4
 t9 := Tryz.underlying9
 a9 := Tryz.isAgg9
 z9 := Tryz.sizeOf9
 v9 := Tryz.zeroValue9
 t20 := Tryz.underlying20
 a20 := Tryz.isAgg20
 z20 := Tryz.sizeOf20
 v20 := Tryz.zeroValue20
 t37 := Tryz.underlying58
 a37 := Tryz.isAgg58
 z37 := Tryz.sizeOf58
 v37 := Tryz.zeroValue58
 t70 := Tryz.underlying57
 a70 := Tryz.isAgg57
 z70 := Tryz.sizeOf57
 v70 := Tryz.zeroValue57
 t72 := Tryz.underlying60
 a72 := Tryz.isAgg60
 z72 := Tryz.sizeOf60
 v72 := Tryz.zeroValue60
 t75 := Tryz.underlying34
 a75 := Tryz.isAgg34
 z75 := Tryz.sizeOf34
 v75 := Tryz.zeroValue34
 t164 := Tryz.underlying110
 a164 := Tryz.isAgg110
 z164 := Tryz.sizeOf110
 v164 := Tryz.zeroValue110 }
theorem Tryz.Builder_Extra_166 : Builder.Extra Tryz.prog Tryz.lays166_ren := {
 sizeBuilder := by kernel_rfl
 liesBuilder := by kernel_rfl
 t5 := Tryz.underlying5
 a5 := Tryz.isAgg5
 z5 := Tryz.sizeOf5
 v5 := Tryz.zeroValue5
 infoByte := by kernel_rfl
 cellsByte := by kernel_rfl
 sizeByte := by kernel_rfl
 neB5 := by decide }
open Go.RowKit in
theorem Tryz.Builder_WriteString_k (B b : Nat) (bs : List Value) (s : ByteArray) (w : World) (h : Lib.IsBuilderF 60 5 B b bs w) (hlen : bs.length + s.size ≤ 140737488355328) (hBw : B ≤ w.heap.size) :
  Calls Tryz.prog 21 #[.pointer (some ⟨b, 0, none⟩), .string s] w fun e w' => e = .returned (.tuple #[.int .i64 s.size, .nilIface]) ∧ (Lib.BuilderAtF 60 5 B b (.pointer (some ⟨b, 0, none⟩)) (bs ++ Lib.strCells s) w' ∧ Below B w w' ∧ Lib.OthersKept 5 (some b) w w') := Any.Builder_WriteString_k Tryz.lays166 Tryz.Builder_Extra_166 B b bs s w h hlen hBw
end Go.Proofs

/- A Builder whose bytes lie above a height: what lies below that, it alone aside, stays. -/
namespace Go.Proofs.YtjdnhdcaifogmaaGreatDoor
open Go.RowKit

structure ButB (C b : Nat) (W W' : World) : Prop where
 os : W'.os = W.os
 tape : W'.tape = W.tape
 output : W'.output = W.output
 size : W.heap.size ≤ W'.heap.size
 block : ∀ k, k < C → k ≠ b → W'.heap[k]? = W.heap[k]?

theorem ButB.of {C b : Nat} {W W' : World} (h : Below C W W') : ButB C b W W' := ⟨h.os, h.tape, h.output, h.size, fun k hk _ => h.block k hk⟩

theorem ButB.trans {C b : Nat} {W W' W'' : World} (h : ButB C b W W') (k : ButB C b W' W'') : ButB C b W W'' :=
 ⟨k.os.trans h.os, k.tape.trans h.tape, k.output.trans h.output, Nat.le_trans h.size k.size, fun i hi hb => (k.block i hi hb).trans (h.block i hi hb)⟩

theorem ButB.set {C b : Nat} {W W' : World} (h : ButB C b W W') (i : Nat) (v : Value) : ButB C b W (W'.setCell ⟨b, i, none⟩ v) :=
 ⟨h.os, h.tape, h.output, by simpa using h.size, fun k hk hb => (heap_setCell_other _ _ _ _ hb).trans (h.block k hk hb)⟩

theorem ButB.below {C b : Nat} {w W W' : World} {K : Nat} (h : ButB C b W W') (hw : Below K w W) (hK : K ≤ b) (hC : K ≤ C) : Below K w W' where
 os := h.os.trans hw.os
 tape := h.tape.trans hw.tape
 output := h.output.trans hw.output
 size := Nat.le_trans hw.size h.size
 block := fun k hk => (h.block k (by omega) (by omega)).trans (hw.block k hk)

def Bld (C b : Nat) (l : List UInt8) (W : World) : Prop :=
 b < C ∧ C ≤ W.heap.size ∧ ∃ p v, W.heap[b]? = some (.cells #[p, v] 60 (0, 0)) ∧ (p = .pointer none ∨ p = .pointer (some ⟨b, 0, none⟩)) ∧ BufB C W v l

theorem Bld.later {C b : Nat} {l : List UInt8} {W W' : World} (h : Bld C b l W) (hb : Below W.heap.size W W') : Bld C b l W' := by
 obtain ⟨h1, h2, p, v, h3, h4, h5⟩ := h
 exact ⟨h1, Nat.le_trans h2 hb.size, p, v, (hb.block _ (heap_lt h3)).trans h3, h4, h5.later hb⟩

theorem Bld.new (W W' : World) (hb : Below (W.alloc (.cells #[.pointer none, .slice none 0 0] 60)).heap.size (W.alloc (.cells #[.pointer none, .slice none 0 0] 60)) W') : Bld W'.heap.size W.heap.size [] W' := by
 have hs := hb.size
 simp at hs
 exact ⟨by omega, Nat.le_refl _, .pointer none, .slice none 0 0, (hb.block _ (by simp)).trans (heap_alloc_new W _), .inl rfl, World.ownsRow_nil _ _ _ _⟩

theorem BufB.set {C : Nat} {W : World} {v : Value} {l : List UInt8} (h : BufB C W v l) {p : Addr} (hp : p.block < C) (u : Value) : BufB C (W.setCell p u) v l := ownsRow_setCell_below h hp u

end Go.Proofs.YtjdnhdcaifogmaaGreatDoor

/- pack.line: a lattice's line. -/
namespace Go.Proofs.YtjdnhdcaifogmaaGreatDoor
open Go.RowKit

def genT (g : List Int) : List UInt8 := [59, 32] ++ numT g
def headT (x : Nmd) : List UInt8 := x.name.data.toList ++ [32] ++ Lib.itoa x.n
def lineT (x : Nmd) : List UInt8 := headT x ++ x.gens.flatMap genT ++ [10]

theorem ButB.cell {C b : Nat} {W W' : World} (h : ButB C b W W') {k i : Nat} (hk : k < C) (hb : k ≠ b) : W'.cell? ⟨k, i, none⟩ = W.cell? ⟨k, i, none⟩ := by
 unfold World.cell?
 rw [h.block k hk hb]

theorem ThreeV.but {C b B : Nat} {W W' : World} {u0 u1 u2 : Value} (h : ThreeV W B u0 u1 u2) (hb : ButB C b W W') (hne : B ≠ b) (hC : B < C) : ThreeV W' B u0 u1 u2 :=
 ⟨(hb.cell hC hne).trans h.1, (hb.cell hC hne).trans h.2.1, (hb.cell hC hne).trans h.2.2.1, Nat.lt_of_lt_of_le h.2.2.2 hb.size⟩

end Go.Proofs.YtjdnhdcaifogmaaGreatDoor

/- pack.Text: a catalog's text. -/
namespace Go.Proofs.YtjdnhdcaifogmaaGreatDoor
open Go.RowKit

def textC (cs : List Nmd) : List UInt8 := cs.flatMap lineT

theorem RowS.but {b : Nat} {W W' : World} {v : Value} {ks : List Int} (h : RowS W v ks) (hb : ButB W.heap.size b W W') (hne : ∀ a l c, v = .slice (some a) l c → a.block ≠ b) : RowS W' v ks := by
 obtain ⟨ao, cap, e, h1, hk, h2⟩ := h
 refine ⟨ao, cap, e, h1, hk, fun h0 => ?_⟩
 obtain ⟨vb, off, e', hlt, hc⟩ := h2 h0
 subst e'
 exact ⟨vb, off, rfl, Nat.lt_of_lt_of_le hlt hb.size, fun i hi => (hb.cell hlt (hne _ _ _ e)).trans (hc i hi)⟩

theorem NcFresh.but {base b : Nat} {W W' : World} {q : Nc} (h : NcFresh base W q) (hb : ButB W.heap.size b W W') (hlt : b < base) : NcIn W' q := by
 obtain ⟨ps, P, h1, h2, h3, h4, h5, h6⟩ := h
 have hs : SeqV W' (.slice q.o q.l q.c) q.l (ps.map (·.1)) := by
  obtain ⟨ao, cap, e, hn, hh⟩ := h5
  refine ⟨ao, cap, e, hn, fun h0 => ?_⟩
  obtain ⟨vb, off, e', hv, hc⟩ := hh h0
  have hne : vb ≠ b := by
   simp only [Value.slice.injEq] at e
   rw [e', h1] at e
   simp only [Option.some.injEq, Addr.mk.injEq, and_true] at e
   have := e.1.1
   omega
  exact ⟨vb, off, e', Nat.lt_of_lt_of_le hv hb.size, fun j u hu => (hb.cell hv hne).trans (hc j u hu)⟩
 have := rowsS_of_seq (v := .slice q.o q.l q.c) (by rw [h4]; exact hs) (fun g hg => RowS.but (h6 g hg).1 hb (fun a l c e => by have := (h6 g hg).2 a l c e; omega))
 rwa [h3] at this

end Go.Proofs.YtjdnhdcaifogmaaGreatDoor

/- Plain arithmetic of limbs: numbers to the base 4294967296, the lowest first. No Go in it. -/
namespace Go.Proofs.YtjdnhdcaifogmaaGreatDoor.Limbs

def lv : List Int → Int
 | [] => 0
 | x :: xs => x + 4294967296 * lv xs

def LB (zs : List Int) : Prop := ∀ i : Nat, 0 ≤ zs.getD i 0 ∧ zs.getD i 0 < 4294967296

def Nrm (zs : List Int) : Prop := zs.length = 0 ∨ zs.getD (zs.length - 1) 0 ≠ 0

def bp : Nat → Int
 | 0 => 1
 | n + 1 => 4294967296 * bp n

theorem bp_pos (n : Nat) : 0 < bp n := by
 induction n with
 | zero => simp [bp]
 | succ n ih => simp only [bp]; omega

theorem bp_add (m n : Nat) : bp (m + n) = bp m * bp n := by
 induction m with
 | zero => simp [bp]
 | succ m ih => rw [Nat.succ_add]; simp only [bp]; rw [ih, Int.mul_assoc]

theorem bp_mono {m n : Nat} (h : m ≤ n) : bp m ≤ bp n := by
 obtain ⟨k, rfl⟩ := Nat.exists_eq_add_of_le h
 rw [bp_add]
 have h1 := bp_pos m
 have h2 := bp_pos k
 have : bp m * 1 ≤ bp m * bp k := Int.mul_le_mul_of_nonneg_left (by omega) (by omega)
 omega

theorem LB_nil : LB [] := by intro i; simp
theorem LB_tail {x : Int} {xs : List Int} (h : LB (x :: xs)) : LB xs := fun i => by simpa using h (i + 1)
theorem LB_head {x : Int} {xs : List Int} (h : LB (x :: xs)) : 0 ≤ x ∧ x < 4294967296 := by simpa using h 0
theorem LB_cons {x : Int} {xs : List Int} (hx : 0 ≤ x ∧ x < 4294967296) (h : LB xs) : LB (x :: xs) := by
 intro i
 cases i with
 | zero => simpa using hx
 | succ i => simpa using h i

theorem LB_mem {zs : List Int} (h : ∀ z ∈ zs, 0 ≤ z ∧ z < 4294967296) : LB zs := by
 induction zs with
 | nil => exact LB_nil
 | cons x xs ih => exact LB_cons (h x (by simp)) (ih fun z hz => h z (by simp [hz]))

theorem LB_take {zs : List Int} (h : LB zs) (k : Nat) : LB (zs.take k) := by
 intro i
 have := h i
 by_cases hk : i < k
 ·simpa [List.getD_eq_getElem?_getD, List.getElem?_take, hk] using this
 ·simp [List.getD_eq_getElem?_getD, List.getElem?_take, hk]

theorem getD_take (zs : List Int) (n i : Nat) (h : i < n) : (zs.take n).getD i 0 = zs.getD i 0 := by
 rw [List.getD_eq_getElem?_getD, List.getElem?_take, if_pos h, List.getD_eq_getElem?_getD]

theorem lv_nonneg {zs : List Int} (h : LB zs) : 0 ≤ lv zs := by
 induction zs with
 | nil => simp [lv]
 | cons x xs ih => have := ih (LB_tail h); have := LB_head h; simp only [lv]; omega

theorem lv_lt {zs : List Int} (h : LB zs) : lv zs < bp zs.length := by
 induction zs with
 | nil => simp [lv, bp]
 | cons x xs ih => have := ih (LB_tail h); have := LB_head h; simp only [lv, List.length_cons, bp]; omega

theorem lv_append (xs ys : List Int) : lv (xs ++ ys) = lv xs + bp xs.length * lv ys := by
 induction xs with
 | nil => simp [lv, bp]
 | cons x xs ih => simp only [List.cons_append, lv, ih, List.length_cons, bp]; rw [Int.mul_add, Int.mul_assoc]; omega

theorem lv_take_succ (zs : List Int) (k : Nat) : lv (zs.take (k + 1)) = lv (zs.take k) + bp k * zs.getD k 0 := by
 by_cases h : k < zs.length
 ·rw [List.take_succ_eq_append_getElem h, lv_append]
  simp [lv, List.length_take, Nat.min_eq_left (Nat.le_of_lt h), List.getD_eq_getElem?_getD, h]
 ·rw [List.take_of_length_le (by omega), List.take_of_length_le (by omega)]
  simp [List.getD_eq_getElem?_getD, List.getElem?_eq_none (Nat.le_of_not_lt h)]

theorem lv_split (zs : List Int) (k : Nat) (h : k ≤ zs.length) : lv zs = lv (zs.take k) + bp k * lv (zs.drop k) := by
 have := lv_append (zs.take k) (zs.drop k)
 rw [List.take_append_drop, List.length_take, Nat.min_eq_left h] at this
 exact this

theorem lv_take_ge (zs : List Int) {k : Nat} (h : zs.length ≤ k) : lv (zs.take k) = lv zs := by
 rw [List.take_of_length_le h]

theorem lv_take_nonneg {zs : List Int} (h : LB zs) (k : Nat) : 0 ≤ lv (zs.take k) := lv_nonneg (LB_take h k)

theorem drop_cons_getD (zs : List Int) (k : Nat) (h : k < zs.length) : zs.drop k = zs.getD k 0 :: zs.drop (k + 1) := by
 rw [List.drop_eq_getElem_cons h]
 simp [List.getD_eq_getElem?_getD, h]

theorem nrm_low {zs : List Int} (h : LB zs) (hn : Nrm zs) (h0 : 0 < zs.length) : bp (zs.length - 1) ≤ lv zs := by
 have e := lv_split zs (zs.length - 1) (by omega)
 rw [drop_cons_getD zs (zs.length - 1) (by omega)] at e
 have hd : zs.drop (zs.length - 1 + 1) = [] := List.drop_eq_nil_of_le (by omega)
 rw [hd] at e
 simp only [lv] at e
 have h1 := lv_take_nonneg h (zs.length - 1)
 have h2 := h (zs.length - 1)
 have h3 : zs.getD (zs.length - 1) 0 ≠ 0 := by rcases hn with hn | hn; omega; exact hn
 have hp := bp_pos (zs.length - 1)
 have h4 : bp (zs.length - 1) * 1 ≤ bp (zs.length - 1) * (zs.getD (zs.length - 1) 0 + 4294967296 * 0) := Int.mul_le_mul_of_nonneg_left (by omega) (by omega)
 omega

theorem lv_zero_iff {zs : List Int} (h : LB zs) (hn : Nrm zs) : lv zs = 0 ↔ zs.length = 0 := by
 constructor
 ·intro h0
  by_cases hl : zs.length = 0
  ·exact hl
  ·have h1 := nrm_low h hn (by omega)
   have := bp_pos (zs.length - 1)
   omega
 ·intro hl
  rw [List.eq_nil_of_length_eq_zero hl]; rfl

theorem LB_set {zs : List Int} (h : LB zs) (k : Nat) {z : Int} (hz : 0 ≤ z ∧ z < 4294967296) : LB (zs.set k z) := by
 intro i
 rw [List.getD_eq_getElem?_getD, List.getElem?_set]
 by_cases hk : k = i
 ·subst hk
  by_cases hl : k < zs.length <;> simp [hl, hz]
 ·have := h i
  simpa [hk, List.getD_eq_getElem?_getD] using this

theorem getD_set (zs : List Int) (k i : Nat) (z : Int) (hk : k < zs.length) : (zs.set k z).getD i 0 = if i = k then z else zs.getD i 0 := by
 rw [List.getD_eq_getElem?_getD, List.getElem?_set]
 by_cases h : k = i
 ·subst h; simp [hk]
 ·have h' : ¬ i = k := fun e => h e.symm
  simp [h, h', List.getD_eq_getElem?_getD]

theorem lv_set (zs : List Int) (k : Nat) (z : Int) (h : k < zs.length) : lv (zs.set k z) = lv zs + bp k * (z - zs.getD k 0) := by
 induction zs generalizing k with
 | nil => simp at h
 | cons x xs ih =>
  cases k with
  | zero => simp [lv, bp]; omega
  | succ k =>
   have := ih k (by simpa using h)
   simp only [List.set_cons_succ, lv, this, bp, List.getD_cons_succ]
   rw [Int.mul_add, Int.mul_assoc]; omega

theorem take_set_ge (zs : List Int) (k i : Nat) (z : Int) (h : i ≤ k) : (zs.set k z).take i = zs.take i := by
 rw [List.take_set_of_le h]

theorem drop_set_lt (zs : List Int) (k i : Nat) (z : Int) (h : k < i) : (zs.set k z).drop i = zs.drop i := by
 rw [List.drop_set_of_lt h]

theorem lv_replicate (n : Nat) : lv (List.replicate n 0) = 0 := by
 induction n with
 | zero => rfl
 | succ n ih => simp only [List.replicate_succ, lv, ih]; rfl

theorem LB_replicate (n : Nat) : LB (List.replicate n 0) := LB_mem fun z hz => by
 rw [List.eq_of_mem_replicate hz]; decide

end Go.Proofs.YtjdnhdcaifogmaaGreatDoor.Limbs

/- Texts put together with one byte between, and cut at it again. No Go in it. -/
namespace Go.Proofs.YtjdnhdcaifogmaaGreatDoor
open Go

end Go.Proofs.YtjdnhdcaifogmaaGreatDoor

/- Texts of catalogs, cut up and read again: without memory. -/
namespace Go.Proofs.YtjdnhdcaifogmaaGreatDoor
open Go.RowKit

def numC (c : UInt8) : Prop := c = 45 ∨ (48 ≤ c.toNat ∧ c.toNat ≤ 57)

theorem dec_chars (u : Nat) : ∀ c ∈ Lib.decDigits u, 48 ≤ c.toNat ∧ c.toNat ≤ 57 := by
 induction u using Nat.strongRecOn with
 | ind u ih =>
  intro c hc
  rw [Lib.decDigits] at hc
  split at hc
  ·rw [List.mem_singleton] at hc
   subst hc
   rw [UInt8.toNat_ofNat']
   omega
  ·rcases List.mem_append.1 hc with h | h
   ·exact ih (u / 10) (by omega) c h
   ·rw [List.mem_singleton] at h
    subst h
    rw [UInt8.toNat_ofNat']
    omega

theorem ito_chars (z : Int) : ∀ c ∈ Lib.itoa z, numC c := by
 intro c hc
 unfold Lib.itoa at hc
 split at hc
 ·rcases List.mem_cons.1 hc with h | h
  ·exact .inl h
  ·exact .inr (dec_chars _ c h)
 ·exact .inr (dec_chars _ c hc)

theorem numC_not {c : UInt8} (h : numC c) : c ≠ 32 ∧ c ≠ 59 ∧ c ≠ 10 := by
 rcases h with rfl | h
 ·decide
 ·exact ⟨fun e => by subst e; exact absurd h (by decide), fun e => by subst e; exact absurd h (by decide), fun e => by subst e; exact absurd h (by decide)⟩

theorem decFrom_snoc (l : List UInt8) : ∀ (acc n d : Nat) (b : UInt8), Lib.decFrom acc l = some n → Lib.digitVal b = some d → Lib.decFrom acc (l ++ [b]) = some (n * 10 + d) := by
 induction l with
 | nil =>
  intro acc n d b h hb
  simp only [Lib.decFrom, Option.some.injEq] at h
  subst h
  simp [Lib.decFrom, hb]
 | cons a t ih =>
  intro acc n d b h hb
  rw [List.cons_append]
  unfold Lib.decFrom at h ⊢
  cases ha : Lib.digitVal a with
  | none => rw [ha] at h; cases h
  | some e =>
   rw [ha] at h
   exact ih _ _ _ _ h hb

theorem digit_val (d : Nat) (h : d < 10) : Lib.digitVal (UInt8.ofNat (48 + d)) = some d := by
 unfold Lib.digitVal
 rw [UInt8.toNat_ofNat', if_pos (by omega)]
 congr 1
 omega

theorem dec_read (u : Nat) : Lib.decFrom 0 (Lib.decDigits u) = some u := by
 induction u using Nat.strongRecOn with
 | ind u ih =>
  rw [Lib.decDigits]
  split
  ·rename_i h
   have := decFrom_snoc [] 0 0 u (UInt8.ofNat (48 + u)) rfl (digit_val u h)
   simpa using this
  ·rename_i h
   have := decFrom_snoc (Lib.decDigits (u / 10)) 0 (u / 10) (u % 10) (UInt8.ofNat (48 + u % 10)) (ih (u / 10) (by omega)) (digit_val (u % 10) (by omega))
   rw [this]
   congr 1
   omega

theorem dec_ne (u : Nat) : Lib.decDigits u ≠ [] := by
 rw [Lib.decDigits]
 split
 ·simp
 ·simp

theorem decNat_read (u : Nat) : Lib.decNat (Lib.decDigits u) = some u := by
 unfold Lib.decNat
 rw [if_neg (by simpa using dec_ne u)]
 exact dec_read u

theorem atoi_itoa (z : Int) : Lib.atoi (Lib.itoa z) = some z := by
 unfold Lib.itoa
 split
 ·rename_i h
  simp only [Lib.atoi, beq_self_eq_true, if_true, decNat_read, Option.map_some]
  congr 1
  omega
 ·rename_i h
  have hc := dec_chars z.toNat
  have hr := decNat_read z.toNat
  cases hd : Lib.decDigits z.toNat with
  | nil => exact absurd hd (dec_ne _)
  | cons b r =>
   rw [hd] at hc hr
   have hb := hc b (by simp)
   have h45 : (b == 45) = false := by rw [beq_eq_false_iff_ne]; intro e; subst e; exact absurd hb (by decide)
   have h43 : (b == 43) = false := by rw [beq_eq_false_iff_ne]; intro e; subst e; exact absurd hb (by decide)
   simp only [Lib.atoi, h45, h43, hr, Bool.false_eq_true, if_false, Option.map_some]
   congr 1
   omega

end Go.Proofs.YtjdnhdcaifogmaaGreatDoor
