/- The reference: a catalog of a text. -/
import Derived.Test.YtjdnhdcaifogmaaGreatDoorPkD
import Derived.Test.YtjdnhdcaifogmaaGreatDoorNum
import Derived.Deep.Cut
import Derived.Deep.CutRange
import Derived.Deep.CutBlock
import Derived.Test.YtjdnhdcaifogmaaGreatDoorDrawnP
import Derived.Test.YtjdnhdcaifogmaaGreatDoorBpG
import Derived.Test.YtjdnhdcaifogmaaGreatDoorBgO
import Derived.Test.YtjdnhdcaifogmaaGreatDoorBpL
import Derived.ProofKit
import Derived.Lib.SmallJoins
import Derived.ChangeOld
import Derived.Deep.SlicePairs

namespace Go.Proofs.YtjdnhdcaifogmaaGreatDoor
open Go.RowKit

def CatOfP (w : World) (s : ByteArray) (e : Ending) (w' : World) : Prop :=
 (((∀ cs, CatOk cs → s ≠ bytesP (textC cs)) ∧ e = (.returned (.tuple #[.slice none 0 0, .int .i64 5]))) ∨ ∃ u qs, e = .returned (.tuple #[u, .int .i64 0]) ∧ CatN w' u qs ∧ CatOk (qs.map (·.x)) ∧ s = bytesP (textC (qs.map (·.x)))) ∧ Below w.heap.size w w'

def IntsO (base : Nat) (W : World) (v : Value) (zs : List Int) : Prop := W.ownsRow base 3 1 v zs.length (zs.map (Value.int .i64)) ∧ ∀ z ∈ zs, -100000 < z ∧ z < 100000

theorem IntsO.row {base : Nat} {W : World} {v : Value} {zs : List Int} (h : IntsO base W v zs) : ∃ o c, v = .slice o zs.length c ∧ RowS W (.slice o zs.length c) zs := by
 obtain ⟨o, c, rfl, hle⟩ := owns_form h.1
 refine ⟨o, c, rfl, o, c, rfl, hle, fun i => ?_, fun h0 => ?_⟩
 ·by_cases hi : i < zs.length
  ·rw [getD_at hi]
   have := h.2 _ (List.getElem_mem hi)
   omega
  ·rw [List.getD_eq_getElem?_getD, List.getElem?_eq_none (by omega)]
   simp
 ·rcases h.1.2 with ⟨e', e0⟩ | ⟨g, cap, cur, e', -, hg, -⟩
  ·omega
  ·simp only [Value.slice.injEq, true_and] at e'
   obtain ⟨rfl, rfl⟩ := e'
   refine ⟨g, 0, rfl, heap_lt hg, fun i hi => ?_⟩
   have := World.ownsRow.cells (g := g) h.1 rfl i (.int .i64 (zs.getD i 0)) (by rw [List.getElem?_map, List.getElem?_eq_getElem hi, getD_at hi]; rfl)
   rw [Go.WideShapes.add_plain] at this
   exact this

theorem IntsO.nil (base : Nat) (W : World) : IntsO base W (.slice none 0 0) [] := ⟨World.ownsRow_nil _ _ _ _, fun z hz => absurd hz (by simp)⟩

theorem IntsO.later {base : Nat} {W W' : World} {v : Value} {zs : List Int} (h : IntsO base W v zs) (hb : Below W.heap.size W W') : IntsO base W' v zs := ⟨ownsRow_later h.1 hb, h.2⟩

theorem Tryz.infoIntQ : (Tryz.prog.info? 3).map (fun i => (i.zero, i.size, i.bytes)) = some (some (.int .i64 0), 1, 8) := by kernel_rfl

theorem IntsO.snoc {W : World} {base : Nat} {v : Value} {zs : List Int} (h : IntsO base W v zs) (hbase : base ≤ W.heap.size) (z : Int) (hz : -100000 < z ∧ z < 100000) (hn : zs.length ≤ 100000) :
  ∃ o c W', (Builtin.append_ #[44, 44] 44 #[v, .slice (some ⟨W.heap.size, 0, none⟩) 1 1]).run Tryz.prog (W.alloc (.cells #[.int .i64 z] 3)) = .ok (.slice o (zs.length + 1) c) W' ∧ IntsO base W' (.slice o (zs.length + 1) c) (zs ++ [z]) ∧ Below base W W' := by
 obtain ⟨j0, hj, hy0, hy1, hy2⟩ := info_got Tryz.infoIntQ
 obtain ⟨o, c, W', hr, hown, hb⟩ := own_snoc (P := Tryz.prog) W base hbase 44 44 3 j0 _ 1 8 (by kernel_rfl) hj hy0 hy1 hy2 rfl (by decide) v zs.length _ h.1 #[.int .i64 z] 3 rfl (fun y hy => by
  rw [List.mem_singleton] at hy
  rw [hy]; rfl) (by unfold maxLen; omega) (by omega)
 refine ⟨o, c, W', hr, ⟨?_, fun y hy => ?_⟩, hb⟩
 ·rw [List.length_append, List.map_append]
  exact hown
 ·rcases List.mem_append.1 hy with hy | hy
  ·exact h.2 y hy
  ·rw [List.mem_singleton] at hy
   rw [hy]
   exact hz

def boolN : Value → Nat
 | .bool true => 1
 | _ => 0

theorem drop_at {α : Type} {l : List α} {k : Nat} {a : α} {t : List α} (h : l.drop k = a :: t) : l[k]? = some a ∧ l.drop (k + 1) = t := by
 have hk : k < l.length := by
  have := congrArg List.length h
  rw [List.length_drop, List.length_cons] at this
  omega
 rw [List.drop_eq_getElem_cons hk] at h
 obtain ⟨h1, h2⟩ := List.cons.inj h
 exact ⟨by rw [List.getElem?_eq_getElem hk, h1], h2⟩

def At2 (s : ByteArray) (i : Nat) (ws : List ByteArray) (cs0 : List Nmd) (m : Bool) (a : Nat) : Prop :=
 ∀ cs, CatOk cs → s = bytesP (textC cs) → ∃ x k, cs[i]? = some x ∧ k ≤ x.gens.length ∧ ws[0]? = some x.name ∧ cs0 = cs.take i ++ [⟨x.name, x.n, x.gens.take k⟩] ∧ m = decide (k < x.gens.length) ∧ ws.drop a = toksG (x.gens.drop k)

def At3 (s : ByteArray) (i : Nat) (ws : List ByteArray) (cs0 : List Nmd) (m : Bool) (a : Nat) (zs : List Int) : Prop :=
 ∀ cs, CatOk cs → s = bytesP (textC cs) → ∃ x k g j, cs[i]? = some x ∧ x.gens[k]? = some g ∧ j ≤ g.length ∧ ws[0]? = some x.name ∧ cs0 = cs.take i ++ [⟨x.name, x.n, x.gens.take k⟩] ∧ zs = g.take j ∧
  (j < g.length → m = false ∧ ws.drop a = (pcs 32 (restJ (g.drop j) (x.gens.drop (k + 1)))).map bytesP) ∧ (j = g.length → m = decide (k + 1 < x.gens.length) ∧ ws.drop a = toksG (x.gens.drop (k + 1)))

theorem At2.start {s : ByteArray} {i a : Nat} {ws : List ByteArray} {cs0 : List Nmd} (h : At2 s i ws cs0 true a) : At3 s i ws cs0 false a [] := fun cs hc hs => by
 obtain ⟨x, k, h1, h2, h3, h4, h5, h6⟩ := h cs hc hs
 have hk : k < x.gens.length := of_decide_eq_true h5.symm
 have hxo := hc.all x (List.mem_of_getElem? h1)
 have hg := gens_ne hxo x.gens[k] (List.getElem_mem hk)
 refine ⟨x, k, x.gens[k], 0, h1, List.getElem?_eq_getElem hk, Nat.zero_le _, h3, h4, rfl, fun _ => ⟨rfl, ?_⟩, fun h0 => absurd (List.length_pos_iff.2 hg) (by omega)⟩
 rw [h6, List.drop_eq_getElem_cons hk]
 rfl

theorem At3.next {s : ByteArray} {i a : Nat} {ws : List ByteArray} {cs0 : List Nmd} {zs : List Int} {t : ByteArray} {v : Int} (h : At3 s i ws cs0 false a zs) (ht : ws[a]? = some t) (hv : ∀ y : Int, -999 ≤ y → y ≤ 999 → stripB t = itoS y → v = y) : At3 s i ws cs0 (semiB t) (a + 1) (zs ++ [v]) := fun cs hc hs => by
 obtain ⟨x, k, g, j, h1, h2, h3, h4, h5, h6, h7, h8⟩ := h cs hc hs
 have hxo := hc.all x (List.mem_of_getElem? h1)
 have ha := (List.getElem?_eq_some_iff.1 ht).1
 have hj : j < g.length := by
  rcases Nat.lt_or_ge j g.length with hj | hj
  ·exact hj
  ·obtain ⟨e1, e2⟩ := h8 (by omega)
   have e3 : ¬ k + 1 < x.gens.length := fun hk => by rw [decide_eq_true hk] at e1; cases e1
   have hd0 : x.gens.drop (k + 1) = [] := List.drop_of_length_le (by omega)
   rw [hd0] at e2
   have := congrArg List.length e2
   rw [List.length_drop] at this
   simp [toksG] at this
   omega
 obtain ⟨-, e2⟩ := h7 hj
 have hz := (genF_ok.1 (hxo.gens g (List.mem_of_getElem? h2))).2 g[j] (List.getElem_mem hj)
 have hgs : ∀ y ∈ x.gens.drop (k + 1), y ≠ [] := fun y hy => gens_ne hxo y (List.mem_of_mem_drop hy)
 have hkl := (List.getElem?_eq_some_iff.1 h2).1
 have htk : zs ++ [g[j]] = g.take (j + 1) := by rw [h6, List.take_succ_eq_append_getElem hj]
 rw [List.drop_eq_getElem_cons hj] at e2
 cases hd : g.drop (j + 1) with
 | nil =>
  have hl : j + 1 = g.length := by
   have := congrArg List.length hd
   rw [List.length_drop] at this
   simp at this
   omega
  rw [hd, tok_last _ _ hgs] at e2
  obtain ⟨f1, f2⟩ := drop_at e2
  rw [ht] at f1
  obtain ⟨g1, g2⟩ := semi_tok g[j] (decide (0 < (x.gens.drop (k + 1)).length))
  rw [← Option.some.inj f1] at g1 g2
  have hvz := hv _ hz.1 hz.2 g2
  refine ⟨x, k, g, j + 1, h1, h2, by omega, h4, h5, by rw [hvz]; exact htk, fun h => by omega, fun _ => ⟨?_, f2⟩⟩
  rw [g1, List.length_drop]
  by_cases hk : k + 1 < x.gens.length
  ·rw [decide_eq_true hk, decide_eq_true (by omega)]
  ·rw [decide_eq_false hk, decide_eq_false (by omega)]
 | cons y ys =>
  have hl : j + 1 < g.length := by
   have := congrArg List.length hd
   rw [List.length_drop] at this
   simp at this
   omega
  rw [hd, tok_more] at e2
  obtain ⟨f1, f2⟩ := drop_at e2
  rw [ht] at f1
  obtain ⟨g1, g2⟩ := semi_tok g[j] false
  rw [← Option.some.inj f1] at g1 g2
  have hvz := hv _ hz.1 hz.2 g2
  refine ⟨x, k, g, j + 1, h1, h2, by omega, h4, h5, by rw [hvz]; exact htk, fun _ => ⟨g1, ?_⟩, fun h => by omega⟩
  rw [f2, hd]

theorem At3.done {s : ByteArray} {i a : Nat} {ws : List ByteArray} {cs0 : List Nmd} {zs : List Int} {m : Bool} (h : At3 s i ws cs0 m a zs) (hend : m = true ∨ ws.length ≤ a) {cs : List Nmd} (hc : CatOk cs) (hs : s = bytesP (textC cs)) : ∃ x k, cs[i]? = some x ∧ k + 1 ≤ x.gens.length ∧ ws[0]? = some x.name ∧ cs0 = cs.take i ++ [⟨x.name, x.n, x.gens.take k⟩] ∧ x.gens.take (k + 1) = x.gens.take k ++ [zs] ∧ m = decide (k + 1 < x.gens.length) ∧ ws.drop a = toksG (x.gens.drop (k + 1)) := by
 obtain ⟨x, k, g, j, h1, h2, h3, h4, h5, h6, h7, h8⟩ := h cs hc hs
 have hkl := (List.getElem?_eq_some_iff.1 h2).1
 have hj : j = g.length := by
  rcases Nat.lt_or_ge j g.length with hj | hj
  ·obtain ⟨e1, e2⟩ := h7 hj
   rcases hend with h | h
   ·rw [e1] at h; cases h
   ·rw [List.drop_of_length_le h] at e2
    have := congrArg List.length e2
    rw [List.length_map] at this
    exact absurd (List.eq_nil_of_length_eq_zero this.symm) (pcs_ne 32 _)
  ·omega
 obtain ⟨e1, e2⟩ := h8 hj
 refine ⟨x, k, h1, by omega, h4, h5, ?_, e1, e2⟩
 rw [List.take_succ_eq_append_getElem hkl, (List.getElem?_eq_some_iff.1 h2).2, h6, hj, List.take_length]

end Go.Proofs.YtjdnhdcaifogmaaGreatDoor

/- laid: a catalog behind operations that may be done, and its model. -/
namespace Go.Proofs.YtjdnhdcaifogmaaGreatDoor
open Go.RowKit

def laidP : Nat → List Nat
 | 3 => [1, 2]
 | 4 => [3]
 | 5 => [0, 4]
 | _ => []

def LaidP (w : World) (e : Ending) (w' : World) : Prop :=
 ∃ (co : Option Addr) (cl ck : Nat) (mo : Option Addr) (ml mk : Nat) (qs ps : List Nc), e = .returned (.tuple #[.agg #[.slice co cl ck], .slice mo ml mk]) ∧ CatN w' (.slice co cl ck) qs ∧ CatN w' (.slice mo ml mk) ps ∧ ps.map (·.x) = qs.map (·.x) ∧ CatOk (qs.map (·.x)) ∧ Below w.heap.size w w'

end Go.Proofs.YtjdnhdcaifogmaaGreatDoor

/- A catalog's text tells the catalog. -/
namespace Go.Proofs.YtjdnhdcaifogmaaGreatDoor
open Go.RowKit

def ParseP (w : World) (s : ByteArray) (e : Ending) (w' : World) : Prop :=
 ∃ (o : Option Addr) (n k : Nat) (qs : List Nc) (f : Nat), e = .returned (.tuple #[.agg #[.slice o n k], errV f]) ∧ CatN w' (.slice o n k) qs ∧ CatOk (qs.map (·.x)) ∧ ((f = 5 ∧ qs = [] ∧ ∀ cs, CatOk cs → s ≠ bytesP (textC cs)) ∨ (f = 0 ∧ s = bytesP (textC (qs.map (·.x))))) ∧ Below w.heap.size w w'

end Go.Proofs.YtjdnhdcaifogmaaGreatDoor

/- The reference: a catalog of a text: its walk. -/
namespace Go.Proofs.YtjdnhdcaifogmaaGreatDoor
open Go.RowKit

end Go.Proofs.YtjdnhdcaifogmaaGreatDoor

/- The reference: an operation as bytes. -/
namespace Go.Proofs.YtjdnhdcaifogmaaGreatDoor
open Go.RowKit

end Go.Proofs.YtjdnhdcaifogmaaGreatDoor

/- An operation's bytes say it: without memory. -/
namespace Go.Proofs.YtjdnhdcaifogmaaGreatDoor
open Go.RowKit

end Go.Proofs.YtjdnhdcaifogmaaGreatDoor

/- pack.Unop: bytes as an operation. -/
namespace Go.Proofs.YtjdnhdcaifogmaaGreatDoor
open Go.RowKit

def UnopPost (w : World) (s : ByteArray) (e : Ending) (w' : World) : Prop :=
 (((∀ o, opF o = 0 → opB o ≠ s.data.toList) ∧ e = .returned (.tuple #[.agg #[.int .i64 0, .string ⟨#[]⟩, .int .i64 0, .slice none 0 0], errV 5])) ∨
  ∃ (o : OpV) (vo : Option Addr) (vc : Nat), opF o = 0 ∧ opB o = s.data.toList ∧ e = .returned (.tuple #[.agg #[.int .i64 o.kind, .string o.name, .int .i64 o.n, .slice vo o.v.length vc], .nilIface]) ∧ ∃ base, w.heap.size ≤ base ∧ RowAt base w' vo o.v.length vc o.v) ∧ Below w.heap.size w w'

end Go.Proofs.YtjdnhdcaifogmaaGreatDoor

/- Bytes that say an operation are its bytes: without memory. -/
namespace Go.Proofs.YtjdnhdcaifogmaaGreatDoor
open Go.RowKit

def twoAt (D : List UInt8) (i : Nat) : Int := s16 (((D.getD (2 * i) 0).toNat : Int) + 256 * ((D.getD (2 * i + 1) 0).toNat : Int))

end Go.Proofs.YtjdnhdcaifogmaaGreatDoor

/- The reference: bytes as an operation. -/
namespace Go.Proofs.YtjdnhdcaifogmaaGreatDoor
open Go.RowKit

def OpOfR (w : World) (s : ByteArray) (e : Ending) (w' : World) : Prop :=
 (((∀ o, opF o = 0 → opB o ≠ s.data.toList) ∧ e = .returned (.tuple #[.agg #[.int .i64 0, .string ⟨#[]⟩, .int .i64 0, .slice none 0 0], .int .i64 5])) ∨
  ∃ (o : OpV) (vo : Option Addr) (vc : Nat), opF o = 0 ∧ opB o = s.data.toList ∧ e = .returned (.tuple #[.agg #[.int .i64 o.kind, .string o.name, .int .i64 o.n, .slice vo o.v.length vc], .int .i64 0]) ∧ ∃ base, w.heap.size ≤ base ∧ RowAt base w' vo o.v.length vc o.v) ∧ Below w.heap.size w w'

end Go.Proofs.YtjdnhdcaifogmaaGreatDoor

/- The reference: are two operations the same? -/
namespace Go.Proofs.YtjdnhdcaifogmaaGreatDoor
open Go.RowKit

end Go.Proofs.YtjdnhdcaifogmaaGreatDoor

/- PackSays: its walk. -/
namespace Go.Proofs.YtjdnhdcaifogmaaGreatDoor
open Go.RowKit

def opZ : OpV := ⟨0, ⟨#[]⟩, 0, []⟩

def OpD (s : ByteArray) (o : OpV) (f : Nat) : Prop := (f = 5 ∧ o = opZ ∧ ∀ o, opF o = 0 → opB o ≠ s.data.toList) ∨ (f = 0 ∧ opF o = 0 ∧ opB o = s.data.toList)

end Go.Proofs.YtjdnhdcaifogmaaGreatDoor

/- Whole numbers that came in, in a row: as they read. -/
namespace Go.Proofs.YtjdnhdcaifogmaaGreatDoor
open Go.ChangeShapes Go.WideShapes Go.ChangeAt Go.RowKit Go.Joins Limbs

theorem Tryz.cellsIntS : Tryz.prog.cellsOf 44 = 1 := by kernel_rfl
theorem Tryz.cellsInt : Tryz.prog.cellsOf 3 = 1 := by kernel_rfl

end Go.Proofs.YtjdnhdcaifogmaaGreatDoor

/- Operations that came in, as they read: all four cells. -/
namespace Go.Proofs.YtjdnhdcaifogmaaGreatDoor
open Go.ChangeShapes Go.WideShapes Go.ChangeAt Go.RowKit Go.Joins

theorem Tryz.cellsOpF : Tryz.prog.cellsOf 46 = 4 := by kernel_rfl
theorem Tryz.cellsStrF : Tryz.prog.cellsOf 9 = 1 := by kernel_rfl

instance : Inhabited OpC := ⟨⟨⟨0, ⟨#[]⟩, 0, []⟩, none, 0⟩⟩

section
variable {H : Type} {enc : TypeId × Value → H} {W : World}

end

end Go.Proofs.YtjdnhdcaifogmaaGreatDoor
