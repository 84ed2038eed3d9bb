/- What all texts lean on: memory that stays, bytes of a text, rows of whole numbers. -/
import Derived.Test.YtnhbfehfipafoaaGreatDoorRows
import Derived.WalkKit
import Derived.WalkSpells
import Derived.WalkLawsBesides
import Derived.Laws.AppendOwn
import Derived.OwnWalk
import Derived.Lib.Strings
import Derived.Deep.AppendLies
import Derived.Deep.RegionHeld3
import Derived.Lib.AppendZeros
import Derived.Lib.AppendStr

namespace Go.Proofs.YtnhbfehfipafoaaGreatDoor
open Go.RowKit

theorem hide {p : Prop} (h : p) : Hid p := h

theorem heap_lt {w : World} {b : Nat} {o : Obj} (h : w.heap[b]? = some o) : b < w.heap.size := by
 rcases Nat.lt_or_ge b w.heap.size with hlt | hge
 ·exact hlt
 ·rw [Array.getElem?_eq_none hge] at h; cases h

def byt (s : ByteArray) (k : Nat) : Int := if h : k < s.size then ((s[k]'h).toNat : Int) else 0

theorem byt_eq {s : ByteArray} {k : Nat} (h : k < s.size) : ((s[k]'h).toNat : Int) = byt s k := by simp [byt, h]

theorem ownsRow_later {W W' : World} {base : Nat} {e : TypeId} {size : Nat} {v : Value} {n : Nat} {xs : List Value} (h : W.ownsRow base e size v n xs) (hb : Below W.heap.size W W') : W'.ownsRow base e size v n xs := by
 refine ⟨h.1, ?_⟩
 rcases h.2 with hn | ⟨g, cap, cur, e, hbg, hh, rest⟩
 ·exact .inl hn
 ·exact .inr ⟨g, cap, cur, e, hbg, (hb.block _ (heap_lt hh)).trans hh, rest⟩

theorem owns_below {base : Nat} {wr w3 : World} {e : TypeId} {size : Nat} {v : Value} {n : Nat} {xs : List Value} {ob : Obj} (h : wr.ownsRow base e size v n xs) (hB : base ≤ wr.heap.size) (hg : (wr.alloc ob).grownBy w3 v.ownBlock) : Below base wr w3 :=
 ((Below.refl _ _).alloc hB _).grown hg (by simp; omega) (fun k hk => (h.lt k hk).1)

def RowS (w : World) (v : Value) (ks : List Int) : Prop :=
 ∃ ao cap, v = .slice ao ks.length cap ∧ ks.length ≤ cap ∧ (∀ i, -9223372036854775808 ≤ ks.getD i 0 ∧ ks.getD i 0 ≤ 9223372036854775807) ∧
  (0 < ks.length → ∃ b off, ao = some ⟨b, off, none⟩ ∧ b < w.heap.size ∧ ∀ i, i < ks.length → w.cell? ⟨b, off + i, none⟩ = some (.int .i64 (ks.getD i 0)))

theorem RowS.below {C : Nat} {w w' : World} {v : Value} {ks : List Int} (h : RowS w v ks) (hb : Below C w w') (hC : w.heap.size ≤ C) : RowS w' v ks := by
 obtain ⟨ao, cap, hv, h1, hk, h2⟩ := h
 refine ⟨ao, cap, hv, h1, hk, fun h0 => ?_⟩
 obtain ⟨b, off, e, hlt, hc⟩ := h2 h0
 exact ⟨b, off, e, Nat.lt_of_lt_of_le hlt hb.size, fun i hi => (hb.cell (p := ⟨b, off + i, none⟩) (Nat.lt_of_lt_of_le hlt hC)).trans (hc i hi)⟩

def RowsS (w : World) (v : Value) (rs : List (List Int)) : Prop :=
 ∃ ao cap, v = .slice ao rs.length cap ∧ rs.length ≤ cap ∧ (0 < rs.length → ∃ b off, ao = some ⟨b, off, none⟩ ∧ b < w.heap.size ∧ ∀ i r, rs[i]? = some r → ∃ u, w.cell? ⟨b, off + i, none⟩ = some u ∧ RowS w u r)

theorem RowsS.below {w w' : World} {v : Value} {rs : List (List Int)} (h : RowsS w v rs) (hb : Below w.heap.size w w') : RowsS w' v rs := by
 obtain ⟨ao, cap, hv, h1, h2⟩ := h
 refine ⟨ao, cap, hv, h1, fun h0 => ?_⟩
 obtain ⟨b, off, e, hlt, hc⟩ := h2 h0
 refine ⟨b, off, e, Nat.lt_of_lt_of_le hlt hb.size, fun i r hi => ?_⟩
 obtain ⟨u, h3, h4⟩ := hc i r hi
 exact ⟨u, (hb.cell (p := ⟨b, off + i, none⟩) hlt).trans h3, h4.below hb (Nat.le_refl _)⟩

theorem RowsS.at {w : World} {v : Value} {rs : List (List Int)} (h : RowsS w v rs) (i : Nat) (hi : i < rs.length) : ∃ b off cap, v = .slice (some ⟨b, off, none⟩) rs.length cap ∧ b < w.heap.size ∧ ∃ u, w.cell? ⟨b, off + i, none⟩ = some u ∧ RowS w u rs[i] := by
 obtain ⟨ao, cap, hv, h1, h2⟩ := h
 obtain ⟨b, off, e, hlt, hc⟩ := h2 (by omega)
 subst e
 exact ⟨b, off, cap, hv, hlt, hc i rs[i] (by simp [hi])⟩

end Go.Proofs.YtnhbfehfipafoaaGreatDoor

/- Catalogs, by themselves: names in their order, operations, what they leave. -/
namespace Go.Proofs.YtnhbfehfipafoaaGreatDoor

structure Nmd where
 name : ByteArray
 n : Int
 gens : List (List Int)

structure OpV where
 kind : Int
 name : ByteArray
 n : Int
 v : List Int

theorem bytesLess_lt : ∀ (x y : List UInt8), Op.bytesLess x y = decide (x < y)
 | [], [] => by simp [Op.bytesLess]
 | _ :: _, [] => by simp [Op.bytesLess]
 | [], _ :: _ => by simp [Op.bytesLess]
 | a :: x, b :: y => by
  rw [Op.bytesLess, bytesLess_lt x y]
  simp only [List.cons_lt_cons_iff]
  by_cases h1 : a < b <;> by_cases h2 : a = b <;> by_cases h3 : x < y <;> simp [h1, h2, h3]

def nlt (a b : ByteArray) : Bool := Op.bytesLess a.toList b.toList

theorem nlt_iff {a b : ByteArray} : nlt a b = true ↔ a.data.toList < b.data.toList := by
 unfold nlt
 rw [bytesLess_lt, Lib.toList_data, Lib.toList_data, decide_eq_true_eq]

theorem nlt_irr (a : ByteArray) : nlt a a = false := by
 cases h : nlt a a with
 | false => rfl
 | true => exact absurd (nlt_iff.1 h) (List.lt_irrefl _)

theorem nlt_trans {a b c : ByteArray} (h1 : nlt a b = true) (h2 : nlt b c = true) : nlt a c = true :=
 nlt_iff.2 (List.lt_trans (nlt_iff.1 h1) (nlt_iff.1 h2))

theorem eq_of_nlt {a b : ByteArray} (h1 : nlt a b = false) (h2 : nlt b a = false) : a = b := by
 have h1' : ¬ a.data.toList < b.data.toList := fun h => by rw [nlt_iff.2 h] at h1; cases h1
 have h2' : ¬ b.data.toList < a.data.toList := fun h => by rw [nlt_iff.2 h] at h2; cases h2
 have := List.le_antisymm (List.not_lt.1 h2') (List.not_lt.1 h1')
 exact ByteArray.ext (Array.toList_inj.1 this)

theorem toList_beq (a b : ByteArray) : (a.toList == b.toList) = decide (a = b) := by
 rw [Lib.toList_data, Lib.toList_data]
 by_cases h : a = b
 ·rw [h]; simp
 ·rw [decide_eq_false h]
  exact beq_eq_false_iff_ne.2 fun e => h (ByteArray.ext (Array.toList_inj.1 e))

def nmOk (s : ByteArray) : Bool := decide (1 ≤ s.size ∧ s.size ≤ 8 ∧ ∀ i, i < s.size → (97 ≤ byt s i ∧ byt s i ≤ 122) ∨ (48 ≤ byt s i ∧ byt s i ≤ 57 ∧ i ≠ 0))

def genF (v : List Int) (n : Int) : Nat := if (v.length : Int) = n then (if v.all (fun z => decide (-999 ≤ z ∧ z ≤ 999)) then 0 else 1) else 6

theorem genF_ok {v : List Int} {n : Int} : genF v n = 0 ↔ (v.length : Int) = n ∧ ∀ z ∈ v, -999 ≤ z ∧ z ≤ 999 := by
 unfold genF
 by_cases h : (v.length : Int) = n
 ·rw [if_pos h]
  by_cases h2 : v.all (fun z => decide (-999 ≤ z ∧ z ≤ 999)) = true
  ·rw [if_pos h2]
   simp only [List.all_eq_true, decide_eq_true_eq] at h2
   simp [h]; exact h2
  ·rw [if_neg h2]
   simp only [List.all_eq_true, decide_eq_true_eq] at h2
   simp [h]
   simpa using h2
 ·rw [if_neg h]; simp [h]

def opOk (o : OpV) : Bool := nmOk o.name && (decide (o.kind = 1 ∧ o.v.length = 0) || decide (o.kind = 2 ∧ o.n = 0 ∧ o.v.length = 0) || decide ((o.kind = 3 ∨ o.kind = 4) ∧ o.n = 0))

def placeL (cs : List Nmd) (s : ByteArray) : Nat := cs.findIdx (fun x => !nlt x.name s)

def hasL (cs : List Nmd) (s : ByteArray) : Bool := cs.any (fun x => decide (x.name = s))

def applyC (cs : List Nmd) (o : OpV) : Nat × List Nmd :=
 if opOk o = false then (3, [])
 else if o.kind = 1 then
  if ¬ (1 ≤ o.n ∧ o.n ≤ 4) then (1, [])
  else if hasL cs o.name then (8, [])
  else if 8 ≤ cs.length then (2, [])
  else (0, cs.take (placeL cs o.name) ++ (⟨o.name, o.n, []⟩ :: cs.drop (placeL cs o.name)))
 else if hasL cs o.name = false then (7, [])
 else if o.kind = 2 then (0, cs.take (placeL cs o.name) ++ cs.drop (placeL cs o.name + 1))
 else match cs[placeL cs o.name]? with
  | none => (7, [])
  | some x =>
   if genF o.v x.n ≠ 0 then (genF o.v x.n, [])
   else if o.kind = 3 then (if 10 ≤ x.gens.length then (2, []) else (0, cs.set (placeL cs o.name) ⟨x.name, x.n, x.gens ++ [o.v]⟩))
   else (if x.gens.contains o.v then (0, cs.set (placeL cs o.name) ⟨x.name, x.n, x.gens.erase o.v⟩) else (7, []))

structure NmOk (x : Nmd) : Prop where
 name : nmOk x.name = true
 n : 1 ≤ x.n ∧ x.n ≤ 4
 few : x.gens.length ≤ 10
 gens : ∀ g ∈ x.gens, genF g x.n = 0

structure CatOk (cs : List Nmd) : Prop where
 rise : cs.Pairwise (fun x y => nlt x.name y.name = true)
 few : cs.length ≤ 8
 all : ∀ x ∈ cs, NmOk x

theorem catOk_nil : CatOk [] := ⟨List.Pairwise.nil, by simp, fun _ h => by cases h⟩

theorem placeL_le (cs : List Nmd) (s : ByteArray) : placeL cs s ≤ cs.length := List.findIdx_le_length

theorem placeL_before {cs : List Nmd} {s : ByteArray} {i : Nat} (h : i < placeL cs s) : ∃ h' : i < cs.length, nlt cs[i].name s = true := by
 have h' := Nat.lt_of_lt_of_le h (placeL_le cs s)
 refine ⟨h', ?_⟩
 have := List.not_of_lt_findIdx h
 simpa using this

theorem placeL_at {cs : List Nmd} {s : ByteArray} (h : placeL cs s < cs.length) : nlt cs[placeL cs s].name s = false := by
 have this : (!nlt cs[placeL cs s].name s) = true := List.findIdx_getElem (p := fun x : Nmd => !nlt x.name s) (w := h)
 cases h' : nlt cs[placeL cs s].name s with
 | false => rfl
 | true => rw [h'] at this; cases this

theorem placeL_from {cs : List Nmd} (hc : cs.Pairwise (fun x y => nlt x.name y.name = true)) {s : ByteArray} {i : Nat} (h : placeL cs s ≤ i) (hi : i < cs.length) : nlt cs[i].name s = false := by
 by_cases e : placeL cs s = i
 ·subst e; exact placeL_at hi
 ·have hlt : placeL cs s < i := by omega
  have h1 := List.pairwise_iff_getElem.1 hc _ _ (by omega) hi hlt
  have h2 := placeL_at (cs := cs) (s := s) (by omega)
  cases h3 : nlt cs[i].name s with
  | false => rfl
  | true => rw [nlt_trans h1 h3] at h2; cases h2

theorem hasL_iff {cs : List Nmd} (hc : cs.Pairwise (fun x y => nlt x.name y.name = true)) {s : ByteArray} : hasL cs s = true ↔ ∃ h : placeL cs s < cs.length, cs[placeL cs s].name = s := by
 unfold hasL
 rw [List.any_eq_true]
 constructor
 ·rintro ⟨x, hx, e⟩
  have e : x.name = s := by simpa using e
  obtain ⟨i, hi, rfl⟩ := List.getElem_of_mem hx
  have h1 : placeL cs s ≤ i := by
   by_cases h : placeL cs s ≤ i
   ·exact h
   ·obtain ⟨_, h2⟩ := placeL_before (cs := cs) (s := s) (i := i) (by omega)
    rw [e, nlt_irr] at h2; cases h2
  have hl : placeL cs s < cs.length := by omega
  refine ⟨hl, ?_⟩
  by_cases e' : placeL cs s = i
  ·subst e'; exact e
  ·have h2 := List.pairwise_iff_getElem.1 hc _ _ hl hi (by omega)
   rw [e] at h2
   rw [placeL_at hl] at h2; cases h2
 ·rintro ⟨h, e⟩
  exact ⟨_, List.getElem_mem h, by simpa using e⟩

theorem applyC_ok {cs : List Nmd} (hc : CatOk cs) (o : OpV) (h0 : (applyC cs o).1 = 0) : CatOk (applyC cs o).2 := by
 unfold applyC at h0 ⊢
 by_cases h1 : opOk o = false
 ·rw [if_pos h1] at h0; simp at h0
 rw [if_neg h1] at h0 ⊢
 have hn : nmOk o.name = true := by
  cases h : nmOk o.name with
  | true => rfl
  | false => exact absurd (by simp [opOk, h]) h1
 by_cases h2 : o.kind = 1
 ·rw [if_pos h2] at h0 ⊢
  by_cases h3 : ¬ (1 ≤ o.n ∧ o.n ≤ 4)
  ·rw [if_pos h3] at h0; simp at h0
  rw [if_neg h3] at h0 ⊢
  by_cases h4 : hasL cs o.name = true
  ·rw [if_pos h4] at h0; simp at h0
  rw [if_neg h4] at h0 ⊢
  by_cases h5 : 8 ≤ cs.length
  ·rw [if_pos h5] at h0; simp at h0
  rw [if_neg h5] at h0 ⊢
  have hle := placeL_le cs o.name
  refine ⟨?_, by simp [List.length_take, List.length_drop]; omega, fun x hx => ?_⟩
  ·show (cs.take (placeL cs o.name) ++ (⟨o.name, o.n, []⟩ :: cs.drop (placeL cs o.name))).Pairwise _
   rw [List.pairwise_append]
   have hlow : ∀ a ∈ cs.take (placeL cs o.name), nlt a.name o.name = true := fun a ha => by
    obtain ⟨i, hi, rfl⟩ := List.getElem_of_mem ha
    rw [List.length_take] at hi
    rw [List.getElem_take]
    exact (placeL_before (by omega)).2
   have hup : ∀ b ∈ cs.drop (placeL cs o.name), nlt o.name b.name = true := fun b hb => by
    obtain ⟨i, hi, rfl⟩ := List.getElem_of_mem hb
    rw [List.length_drop] at hi
    rw [List.getElem_drop]
    have h6 := placeL_from hc.rise (s := o.name) (i := placeL cs o.name + i) (by omega) (by omega)
    cases h7 : nlt o.name cs[placeL cs o.name + i].name with
    | true => rfl
    | false =>
     refine absurd ?_ h4
     unfold hasL
     rw [List.any_eq_true]
     exact ⟨_, List.getElem_mem _, by simpa using eq_of_nlt h6 h7⟩
   refine ⟨hc.rise.sublist (List.take_sublist _ _), List.pairwise_cons.2 ⟨hup, hc.rise.sublist (List.drop_sublist _ _)⟩, fun a ha b hb => ?_⟩
   rcases List.mem_cons.1 hb with rfl | hb
   ·exact hlow a ha
   ·exact nlt_trans (hlow a ha) (hup b hb)
  ·have hx' : x ∈ cs.take (placeL cs o.name) ++ (⟨o.name, o.n, []⟩ :: cs.drop (placeL cs o.name)) := hx
   rcases List.mem_append.1 hx' with h | h
   ·exact hc.all x (List.mem_of_mem_take h)
   ·rcases List.mem_cons.1 h with rfl | h
    ·exact ⟨hn, (by show 1 ≤ o.n ∧ o.n ≤ 4; omega), by simp, fun g hg => by cases hg⟩
    ·exact hc.all x (List.mem_of_mem_drop h)
 rw [if_neg h2] at h0 ⊢
 by_cases h3 : hasL cs o.name = false
 ·rw [if_pos h3] at h0; simp at h0
 rw [if_neg h3] at h0 ⊢
 by_cases h4 : o.kind = 2
 ·rw [if_pos h4]
  refine ⟨?_, by simp [List.length_take, List.length_drop]; have := hc.few; omega, fun x hx => ?_⟩
  ·show (cs.take (placeL cs o.name) ++ cs.drop (placeL cs o.name + 1)).Pairwise _
   rw [← List.eraseIdx_eq_take_drop_succ]
   exact hc.rise.sublist (List.eraseIdx_sublist _ _)
  ·have hx' : x ∈ cs.take (placeL cs o.name) ++ cs.drop (placeL cs o.name + 1) := hx
   rcases List.mem_append.1 hx' with h | h
   ·exact hc.all x (List.mem_of_mem_take h)
   ·exact hc.all x (List.mem_of_mem_drop h)
 rw [if_neg h4] at h0 ⊢
 have key : ∀ (x : Nmd) (gs : List (List Int)), cs[placeL cs o.name]? = some x → gs.length ≤ 10 → (∀ g ∈ gs, genF g x.n = 0) → CatOk (cs.set (placeL cs o.name) ⟨x.name, x.n, gs⟩) := fun x gs hx h10 hg => by
  obtain ⟨hl, rfl⟩ := List.getElem?_eq_some_iff.1 hx
  refine ⟨?_, by rw [List.length_set]; exact hc.few, fun y hy => ?_⟩
  ·rw [List.pairwise_iff_getElem]
   intro i j hi hj hij
   rw [List.length_set] at hi hj
   have := List.pairwise_iff_getElem.1 hc.rise i j hi hj hij
   rw [List.getElem_set, List.getElem_set]
   split
   ·next e =>
    subst e
    rw [if_neg (by omega)]
    exact this
   ·split
    ·next e => subst e; exact this
    ·exact this
  ·rcases List.mem_or_eq_of_mem_set hy with h | rfl
   ·exact hc.all y h
   ·have := hc.all _ (List.getElem_mem hl)
    exact ⟨this.name, this.n, h10, hg⟩
 cases hx : cs[placeL cs o.name]? with
 | none => rw [hx] at h0; simp at h0
 | some x =>
  rw [hx] at h0
  have hxm : x ∈ cs := List.mem_of_getElem? hx
  have hxo := hc.all x hxm
  dsimp only at h0 ⊢
  by_cases h5 : genF o.v x.n ≠ 0
  ·rw [if_pos h5] at h0
   exact absurd h0 h5
  rw [if_neg h5] at h0 ⊢
  have h5 : genF o.v x.n = 0 := by simpa using h5
  by_cases h6 : o.kind = 3
  ·rw [if_pos h6] at h0 ⊢
   by_cases h7 : 10 ≤ x.gens.length
   ·rw [if_pos h7] at h0; simp at h0
   rw [if_neg h7] at h0 ⊢
   exact key x _ hx (by simp; omega) (fun g hg => by
    rcases List.mem_append.1 hg with h | h
    ·exact hxo.gens g h
    ·rw [List.mem_singleton] at h; rw [h]; exact h5)
  ·rw [if_neg h6] at h0 ⊢
   by_cases h7 : x.gens.contains o.v = true
   ·rw [if_pos h7]
    exact key x _ hx (Nat.le_trans List.length_erase_le hxo.few) (fun g hg => hxo.gens g (List.mem_of_mem_erase hg))
   ·rw [if_neg h7] at h0; simp at h0

end Go.Proofs.YtnhbfehfipafoaaGreatDoor

/- Catalogs in memory: named lattices in a row. -/
namespace Go.Proofs.YtnhbfehfipafoaaGreatDoor
open Go.RowKit

structure Nc where
 x : Nmd
 o : Option Addr
 l : Nat
 c : Nat

def Nc.cells (q : Nc) : List Value := [.string q.x.name, .int .i64 q.x.n, .slice q.o q.l q.c]
def Nc.val (q : Nc) : Value := .agg #[.string q.x.name, .int .i64 q.x.n, .slice q.o q.l q.c]

def kinT (t : TypeId) : Prop := t = 107 ∨ t = 41 ∨ t = 3

theorem kinT_N : kinT 107 := .inl rfl
theorem kinT_G : kinT 41 := .inr (.inl rfl)
theorem kinT_I : kinT 3 := .inr (.inr rfl)

def Kin (W : World) (b : Nat) : Prop := ∃ cs t fz, W.heap[b]? = some (.cells cs t fz) ∧ kinT t

theorem Kin.lt {W : World} {b : Nat} (h : Kin W b) : b < W.heap.size := by
 obtain ⟨_, _, _, h, -⟩ := h
 exact heap_lt h

theorem Kin.same {W W' : World} {b : Nat} (h : Kin W b) (e : W'.heap[b]? = W.heap[b]?) : Kin W' b := by
 obtain ⟨cs, t, fz, h, ht⟩ := h
 exact ⟨cs, t, fz, e.trans h, ht⟩

theorem Kin.below {C : Nat} {W W' : World} {b : Nat} (h : Kin W b) (hb : Below C W W') (hC : W.heap.size ≤ C) : Kin W' b := h.same (hb.block b (Nat.lt_of_lt_of_le h.lt hC))

theorem Kin.set {W : World} {b : Nat} (h : Kin W b) (p : Addr) (x : Value) : Kin (W.setCell p x) b := by
 obtain ⟨cs, t, fz, h, ht⟩ := h
 by_cases e : p.block = b
 ·subst e
  exact ⟨if p.spot.isSome then cs else cs.setIfInBounds p.off x, t, fz, by simp [World.setCell, Array.getElem?_modify, h], ht⟩
 ·exact ⟨cs, t, fz, (heap_setCell_other _ _ _ _ (fun e' => e e'.symm)).trans h, ht⟩

def KinH (W : World) (v : Value) : Prop := ∀ p n c, v = .slice (some p) n c → 0 < n → Kin W p.block

theorem KinH.below {C : Nat} {W W' : World} {v : Value} (h : KinH W v) (hb : Below C W W') (hC : W.heap.size ≤ C) : KinH W' v := fun p n c e h0 => (h p n c e h0).below hb hC

theorem KinH.set {W : World} {v : Value} (h : KinH W v) (p : Addr) (x : Value) : KinH (W.setCell p x) v := fun q n c e h0 => (h q n c e h0).set p x

theorem kinH_nil (W : World) (n c : Nat) : KinH W (.slice none n c) := fun p n c e => by cases e

theorem kinH_owns {W : World} {base : Nat} {t : TypeId} {sz : Nat} {v : Value} {n : Nat} {xs : List Value} (h : W.ownsRow base t sz v n xs) (ht : kinT t) : KinH W v := fun p n' c e h0 => by
 rcases h.2 with ⟨rfl, -⟩ | ⟨g, cap, cur, rfl, -, hh, -⟩
 ·cases e
 ·simp only [Value.slice.injEq, Option.some.injEq] at e
  obtain ⟨rfl, -, -⟩ := e
  exact ⟨_, t, _, hh, ht⟩

def KinS (W : World) (v : Value) : Prop := KinH W v ∧ ∀ b off n c, v = .slice (some ⟨b, off, none⟩) n c → ∀ i, i < n → ∀ u, W.cell? ⟨b, off + i, none⟩ = some u → KinH W u

theorem kinS_nil (W : World) (n c : Nat) : KinS W (.slice none n c) := ⟨kinH_nil W n c, fun b off n c e => by cases e⟩

theorem KinS.below {C : Nat} {W W' : World} {v : Value} (h : KinS W v) (hb : Below C W W') (hC : W.heap.size ≤ C) : KinS W' v :=
 ⟨h.1.below hb hC, fun b off n c e i hi u hu => (h.2 b off n c e i hi u (((hb.cell (p := ⟨b, off + i, none⟩) (Nat.lt_of_lt_of_le (h.1 _ n c e (by omega)).lt hC)).symm).trans hu)).below hb hC⟩

def GensIn (W : World) (v : Value) (gs : List (List Int)) : Prop := RowsS W v gs ∧ KinS W v

theorem GensIn.below {W W' : World} {v : Value} {gs : List (List Int)} (h : GensIn W v gs) (hb : Below W.heap.size W W') : GensIn W' v gs := ⟨RowsS.below h.1 hb, h.2.below hb (Nat.le_refl _)⟩

def NcIn (W : World) (q : Nc) : Prop := GensIn W (.slice q.o q.l q.c) q.x.gens

theorem NcIn.below {W W' : World} {q : Nc} (h : NcIn W q) (hb : Below W.heap.size W W') : NcIn W' q := GensIn.below h hb

def CatN (W : World) (v : Value) (qs : List Nc) : Prop :=
 ∃ ao cap, v = .slice ao qs.length cap ∧ qs.length ≤ cap ∧ (0 < qs.length → ∃ b off, ao = some ⟨b, off, none⟩ ∧ Kin W b ∧ ∀ i (q : Nc), qs[i]? = some q →
  W.cell? ⟨b, off + i * 3, none⟩ = some (.string q.x.name) ∧ W.cell? ⟨b, off + i * 3 + 1, none⟩ = some (.int .i64 q.x.n) ∧ W.cell? ⟨b, off + i * 3 + 2, none⟩ = some (.slice q.o q.l q.c) ∧ NcIn W q)

theorem CatN.below {W W' : World} {v : Value} {qs : List Nc} (h : CatN W v qs) (hb : Below W.heap.size W W') : CatN W' v qs := by
 obtain ⟨ao, cap, e, hn, h⟩ := h
 refine ⟨ao, cap, e, hn, fun h0 => ?_⟩
 obtain ⟨b, off, e, hlt, h⟩ := h h0
 refine ⟨b, off, e, hlt.below hb (Nat.le_refl _), fun i p hp => ?_⟩
 obtain ⟨h1, h2, h3, h4⟩ := h i p hp
 exact ⟨(hb.cell (p := ⟨b, off + i * 3, none⟩) hlt.lt).trans h1, (hb.cell (p := ⟨b, off + i * 3 + 1, none⟩) hlt.lt).trans h2, (hb.cell (p := ⟨b, off + i * 3 + 2, none⟩) hlt.lt).trans h3, h4.below hb⟩

theorem catN_nil (W : World) : CatN W (.slice none 0 0) [] := ⟨none, 0, rfl, Nat.le_refl _, fun h => by simp at h⟩

theorem CatN.form {W : World} {v : Value} {qs : List Nc} (h : CatN W v qs) (h0 : 0 < qs.length) : ∃ b off cap, v = .slice (some ⟨b, off, none⟩) qs.length cap := by
 obtain ⟨ao, cap, e, hn, h⟩ := h
 obtain ⟨b, off, e', -⟩ := h h0
 exact ⟨b, off, cap, by rw [e, e']⟩

theorem CatN.at {W : World} {b off cap : Nat} {qs : List Nc} (h : CatN W (.slice (some ⟨b, off, none⟩) qs.length cap) qs) (i : Nat) (hi : i < qs.length) : b < W.heap.size ∧
  W.cell? ⟨b, off + i * 3, none⟩ = some (.string qs[i].x.name) ∧ W.cell? ⟨b, off + i * 3 + 1, none⟩ = some (.int .i64 qs[i].x.n) ∧ W.cell? ⟨b, off + i * 3 + 2, none⟩ = some (.slice qs[i].o qs[i].l qs[i].c) ∧ NcIn W qs[i] := by
 obtain ⟨ao, cap', e, hn, h⟩ := h
 simp only [Value.slice.injEq, true_and] at e
 obtain ⟨rfl, rfl⟩ := e
 obtain ⟨b', off', e, hlt, h⟩ := h (by omega)
 simp only [Option.some.injEq, Addr.mk.injEq, and_true] at e
 obtain ⟨rfl, rfl⟩ := e
 exact ⟨hlt.lt, h i qs[i] (by simp [hi])⟩

theorem nccells_len (qs : List Nc) : (qs.flatMap Nc.cells).length = qs.length * 3 := by
 induction qs with
 | nil => rfl
 | cons q qs ih => rw [List.flatMap_cons, List.length_append, ih, List.length_cons]; simp [Nc.cells]; omega

theorem nccells_at (qs : List Nc) : ∀ i (h : i < qs.length) (j : Nat), j < 3 → (qs.flatMap Nc.cells)[i * 3 + j]? = qs[i].cells[j]? := by
 induction qs with
 | nil => intro i h; exact absurd h (by simp)
 | cons p qs ih =>
  intro i h j hj
  rw [List.flatMap_cons]
  cases i with
  | zero => rw [Nat.zero_mul, Nat.zero_add, List.getElem?_append_left (by simp [Nc.cells]; omega)]; rfl
  | succ i =>
   rw [List.getElem?_append_right (by simp [Nc.cells]; omega), show (i + 1) * 3 + j - p.cells.length = i * 3 + j by simp [Nc.cells]; omega]
   exact ih i (by simpa using h) j hj

theorem nccells_one (qs : List Nc) : ∀ u ∈ qs.flatMap Nc.cells, u.oneCell' = true := fun u hu => by
 obtain ⟨q, -, h⟩ := List.mem_flatMap.1 hu
 simp only [Nc.cells, List.mem_cons, List.not_mem_nil, or_false] at h
 rcases h with rfl | rfl | rfl <;> rfl

theorem nccells_set (qs : List Nc) : ∀ i (h : i < qs.length) (q : Nc), q.x.name = qs[i].x.name → q.x.n = qs[i].x.n → (qs.set i q).flatMap Nc.cells = (qs.flatMap Nc.cells).set (i * 3 + 2) (.slice q.o q.l q.c) := by
 induction qs with
 | nil => intro i h; exact absurd h (by simp)
 | cons p qs ih =>
  intro i h q h1 h2
  cases i with
  | zero =>
   rw [List.set_cons_zero, List.flatMap_cons, List.flatMap_cons, List.set_append_left _ _ (by simp [Nc.cells])]
   congr 1
   simp only [List.getElem_cons_zero] at h1 h2
   simp [Nc.cells, h1, h2]
  | succ i =>
   rw [List.set_cons_succ, List.flatMap_cons, List.flatMap_cons, List.set_append_right _ _ (by simp [Nc.cells]; omega), show (i + 1) * 3 + 2 - p.cells.length = i * 3 + 2 by simp [Nc.cells]; omega, ih i (by simpa using h) q (by simpa using h1) (by simpa using h2)]

theorem catN_of_owns {W : World} {base : Nat} {t : TypeId} {v : Value} {qs : List Nc} (h : W.ownsRow base t 3 v qs.length (qs.flatMap Nc.cells)) (hin : ∀ q ∈ qs, NcIn W q) (ht : kinT t := by first | exact kinT_N | exact kinT_G | exact kinT_I) : CatN W v qs := by
 rcases h.2 with ⟨rfl, hn⟩ | ⟨g, cap, cur, rfl, hb, hh, hc1, hc2, hc3, hc4⟩
 ·exact ⟨none, 0, by rw [hn], by omega, fun h0 => absurd h0 (by omega)⟩
 ·refine ⟨_, cap, rfl, hc1, fun h0 => ⟨g, 0, rfl, ⟨_, t, _, hh, ht⟩, fun i q hi => ?_⟩⟩
  obtain ⟨hi', rfl⟩ := List.getElem?_eq_some_iff.1 hi
  have hcell : ∀ k u, k < qs.length * 3 → (qs.flatMap Nc.cells)[k]? = some u → W.cell? ⟨g, k, none⟩ = some u := fun k u hk hu => by
   have := World.news_of_block hh k u (by rw [← hc4, List.getElem?_take, if_pos hk] at hu; exact hu)
   have e : (⟨g, 0, none⟩ : Addr).add k = ⟨g, k, none⟩ := by unfold Addr.add; split <;> simp_all
   rwa [e] at this
  rw [Nat.zero_add]
  refine ⟨hcell _ _ (by omega) ?_, hcell _ _ (by omega) ?_, hcell _ _ (by omega) ?_, hin _ (List.getElem_mem hi')⟩
  ·have := nccells_at qs i hi' 0 (by omega); rw [Nat.add_zero] at this; rw [this]; rfl
  ·rw [nccells_at qs i hi' 1 (by omega)]; rfl
  ·rw [nccells_at qs i hi' 2 (by omega)]; rfl

theorem CatN.news {W : World} {b off cap : Nat} {qs : List Nc} (h : CatN W (.slice (some ⟨b, off, none⟩) qs.length cap) qs) (j : Nat) (u : Value) (hu : (qs.flatMap Nc.cells)[j]? = some u) : W.cell? ((⟨b, off, none⟩ : Addr).add j) = some u := by
 have ea : (⟨b, off, none⟩ : Addr).add j = ⟨b, off + j, none⟩ := by unfold Addr.add; split <;> simp_all
 rw [ea]
 have hj : j < qs.length * 3 := by
  have := (List.getElem?_eq_some_iff.1 hu).1
  rwa [nccells_len] at this
 have hi : j / 3 < qs.length := by omega
 obtain ⟨-, c0, c1, c2, -⟩ := h.at (j / 3) hi
 have hd : j = (j / 3) * 3 + j % 3 := by omega
 have h3 : j % 3 < 3 := Nat.mod_lt _ (by decide)
 rw [hd, nccells_at qs (j / 3) hi (j % 3) h3] at hu
 rw [show off + j = off + j / 3 * 3 + j % 3 by omega]
 generalize j % 3 = r at *
 match r, h3 with
 | 0, _ => simp only [Nc.cells, List.getElem?_cons_zero, Option.some.injEq] at hu; subst hu; exact c0
 | 1, _ => simp only [Nc.cells, List.getElem?_cons_succ, List.getElem?_cons_zero, Option.some.injEq] at hu; subst hu; exact c1
 | 2, _ => simp only [Nc.cells, List.getElem?_cons_succ, List.getElem?_cons_zero, Option.some.injEq] at hu; subst hu; exact c2

theorem CatN.ins {W : World} {v : Value} {qs : List Nc} (h : CatN W v qs) : ∀ q ∈ qs, NcIn W q := fun q hq => by
 obtain ⟨i, hi, rfl⟩ := List.getElem_of_mem hq
 obtain ⟨b, off, cap, rfl⟩ := h.form (by omega)
 exact (h.at i hi).2.2.2.2

end Go.Proofs.YtnhbfehfipafoaaGreatDoor

/- Names, sizes and generators of catalogs: what the program's and the reference's words say of them. -/
namespace Go.Proofs.YtnhbfehfipafoaaGreatDoor
open Go.RowKit

def nmTo (s : ByteArray) (k : Nat) : Prop := ∀ i, i < k → (97 ≤ byt s i ∧ byt s i ≤ 122) ∨ (48 ≤ byt s i ∧ byt s i ≤ 57 ∧ i ≠ 0)

theorem nmOk_true {s : ByteArray} (h1 : 1 ≤ s.size) (h8 : s.size ≤ 8) (h : nmTo s s.size) : nmOk s = true := decide_eq_true ⟨h1, h8, h⟩

theorem nmOk_at {s : ByteArray} {k : Nat} (hk : k < s.size) (h : ¬ ((97 ≤ byt s k ∧ byt s k ≤ 122) ∨ (48 ≤ byt s k ∧ byt s k ≤ 57 ∧ k ≠ 0))) : nmOk s = false := decide_eq_false fun h' => h (h'.2.2 k hk)

theorem nmOk_len {s : ByteArray} (h : ¬ (1 ≤ s.size ∧ s.size ≤ 8)) : nmOk s = false := decide_eq_false fun h' => h ⟨h'.1, h'.2.1⟩

set_option linter.unusedSimpArgs false in
set_option maxRecDepth 100000 in
set_option maxHeartbeats 1600000 in
theorem name_any (s : ByteArray) (w : World) : Calls Tryz.prog 118 #[.string s] w fun e w' => e = .returned (.bool (nmOk s)) ∧ w' = w := by
 by_cases h1 : (s.size : Int) < 1
 ·have g1 : decide ((s.size : Int) < 1) = true := decide_eq_true h1
  rw [nmOk_len (by omega)]
  go_enter Tryz.func118, Tryz.ntmps118
  go_wp2
  go_ret
  exact ⟨rfl, rfl⟩
 have g1 : decide ((s.size : Int) < 1) = false := decide_eq_false h1
 by_cases h8 : 8 < (s.size : Int)
 ·have g2 : decide (8 < (s.size : Int)) = true := decide_eq_true h8
  rw [nmOk_len (by omega)]
  go_enter Tryz.func118, Tryz.ntmps118
  go_wp2
  go_ret
  exact ⟨rfl, rfl⟩
 have g2 : decide (8 < (s.size : Int)) = false := decide_eq_false h8
 have hs8 : s.size ≤ 8 := by omega
 generalize hr : nmOk s = r
 have HR := hide hr
 clear hr
 go_enter Tryz.func118, Tryz.ntmps118
 go_wp2
 go_loopw [16] (fun i wr => ∃ k : Nat, k ≤ s.size ∧ i = .int .i64 k ∧ Hid (nmTo s k) ∧ wr = w) (fun i _ => s.size - (intOf i).toNat)
 case atStart => exact ⟨0, Nat.zero_le _, rfl, hide (fun i hi => absurd hi (by omega)), rfl⟩
 case round =>
  obtain ⟨k, hk, rfl, HT, hw⟩ := hrel
  subst wr
  by_cases hlt : k < s.size
  ·have hb := byt_eq hlt
   by_cases a1 : 97 ≤ byt s k ∧ byt s k ≤ 122
   ·have e1 : decide (97 ≤ ((s[k]'hlt).toNat : Int)) = true := by rw [hb]; simp; omega
    have e2 : decide (((s[k]'hlt).toNat : Int) ≤ 122) = true := by rw [hb]; simp; omega
    have HT' : Hid (nmTo s (k + 1)) := fun i hi => by
     by_cases h : i < k
     ·exact HT.out i h
     ·obtain rfl : i = k := by omega
      exact .inl a1
    cases d1 : decide (48 ≤ ((s[k]'hlt).toNat : Int)) with
    | false =>
     go_wp2
     go_roundw
     case rel => exact ⟨k + 1, by omega, by go_num, HT', by first | rfl | trivial⟩
     case measure => simp [intOf]; omega
    | true =>
     go_wp2
     go_roundw
     case rel => exact ⟨k + 1, by omega, by go_num, HT', by first | rfl | trivial⟩
     case measure => simp [intOf]; omega
   ·have HA : Hid (¬ (97 ≤ byt s k ∧ byt s k ≤ 122)) := a1
    by_cases a2 : 48 ≤ byt s k ∧ byt s k ≤ 57
    ·have e1 : decide (48 ≤ ((s[k]'hlt).toNat : Int)) = true := by rw [hb]; simp; omega
     have e2 : decide (((s[k]'hlt).toNat : Int) ≤ 57) = true := by rw [hb]; simp; omega
     have e3 : decide (97 ≤ ((s[k]'hlt).toNat : Int)) = false := by rw [hb]; simp; omega
     by_cases h0 : k = 0
     ·subst h0
      obtain rfl : false = r := (nmOk_at hlt (by rintro (h | h); exact HA.out h; exact h.2.2 rfl)).symm.trans HR.out
      go_wp2
      go_ret
      exact ⟨rfl, rfl⟩
     ·have e4 : ((k : Int) == 0) = false := beq_eq_false_iff_ne.2 (by omega)
      have HT' : Hid (nmTo s (k + 1)) := fun i hi => by
       by_cases h : i < k
       ·exact HT.out i h
       ·obtain rfl : i = k := by omega
        exact .inr ⟨a2.1, a2.2, h0⟩
      go_wp2
      go_roundw
      case rel => exact ⟨k + 1, by omega, by go_num, HT', by first | rfl | trivial⟩
      case measure => simp [intOf]; omega
    ·obtain rfl : false = r := (nmOk_at hlt (by rintro (h | h); exact HA.out h; exact a2 ⟨h.1, h.2.1⟩)).symm.trans HR.out
     by_cases b1 : 97 ≤ byt s k
     ·have e1 : decide (97 ≤ ((s[k]'hlt).toNat : Int)) = true := by rw [hb]; simp; omega
      have e2 : decide (((s[k]'hlt).toNat : Int) ≤ 122) = false := by rw [hb]; simp; omega
      have e3 : decide (48 ≤ ((s[k]'hlt).toNat : Int)) = true := by rw [hb]; simp; omega
      have e4 : decide (((s[k]'hlt).toNat : Int) ≤ 57) = false := by rw [hb]; simp; omega
      clear hb a1 a2 b1
      go_wp2
      go_ret
      exact ⟨rfl, rfl⟩
     ·have e1 : decide (97 ≤ ((s[k]'hlt).toNat : Int)) = false := by rw [hb]; simp; omega
      by_cases b2 : 48 ≤ byt s k
      ·have e3 : decide (48 ≤ ((s[k]'hlt).toNat : Int)) = true := by rw [hb]; simp; omega
       have e4 : decide (((s[k]'hlt).toNat : Int) ≤ 57) = false := by rw [hb]; simp; omega
       clear hb a1 a2 b1 b2
       go_wp2
       go_ret
       exact ⟨rfl, rfl⟩
      ·have e3 : decide (48 ≤ ((s[k]'hlt).toNat : Int)) = false := by rw [hb]; simp; omega
       clear hb a1 a2 b1 b2
       go_wp2
       go_ret
       exact ⟨rfl, rfl⟩
  ·obtain rfl : k = s.size := by omega
   obtain rfl : true = r := (nmOk_true (by omega) hs8 HT.out).symm.trans HR.out
   go_wp2
   go_ret
   exact ⟨rfl, rfl⟩

def sizeOk (n : Int) : Bool := decide (1 ≤ n ∧ n ≤ 4)

set_option maxRecDepth 100000 in
theorem bsize_any (n : Int) (w : World) : Calls Tryz.prog 119 #[.int .i64 n] w fun e w' => e = .returned (.bool (sizeOk n)) ∧ w' = w := by
 unfold sizeOk
 by_cases h1 : 1 ≤ n
 ·have g1 : decide (1 ≤ n) = true := decide_eq_true h1
  by_cases h4 : n ≤ 4
  ·have g2 : decide (n ≤ 4) = true := decide_eq_true h4
   rw [decide_eq_true (show 1 ≤ n ∧ n ≤ 4 from ⟨h1, h4⟩)]
   go_enter Tryz.func119, Tryz.ntmps119
   go_wp2
   go_ret
   exact ⟨rfl, rfl⟩
  ·have g2 : decide (n ≤ 4) = false := decide_eq_false h4
   rw [decide_eq_false (show ¬ (1 ≤ n ∧ n ≤ 4) from fun h => h4 h.2)]
   go_enter Tryz.func119, Tryz.ntmps119
   go_wp2
   go_ret
   exact ⟨rfl, rfl⟩
 ·have g1 : decide (1 ≤ n) = false := decide_eq_false h1
  rw [decide_eq_false (show ¬ (1 ≤ n ∧ n ≤ 4) from fun h => h1 h.1)]
  go_enter Tryz.func119, Tryz.ntmps119
  go_wp2
  go_ret
  exact ⟨rfl, rfl⟩

end Go.Proofs.YtnhbfehfipafoaaGreatDoor

/- Small things that operations and catalogs share. -/
namespace Go.Proofs.YtnhbfehfipafoaaGreatDoor
open Go.RowKit

def errV (c : Nat) : Value := if c = 0 then .nilIface else .iface 80 (.int .i64 (c : Int))

theorem alloc_below (W : World) (ob : Obj) : Below W.heap.size W (W.alloc ob) := (Below.refl _ _).alloc (Nat.le_refl _) _

theorem owns_form {W : World} {base : Nat} {e : TypeId} {sz : Nat} {v : Value} {n : Nat} {xs : List Value} (h : W.ownsRow base e sz v n xs) : ∃ o c, v = .slice o n c ∧ n ≤ c := by
 rcases h.2 with ⟨rfl, rfl⟩ | ⟨g, cap, cur, rfl, -, -, hle, -⟩
 ·exact ⟨_, _, rfl, Nat.le_refl _⟩
 ·exact ⟨_, _, rfl, hle⟩

theorem info_got {P : Program} {t : TypeId} {z : Value} {s b : Nat} (h : (P.info? t).map (fun i => (i.zero, i.size, i.bytes)) = some (some z, s, b)) : ∃ i, P.info? t = some i ∧ i.zero = some z ∧ i.size = s ∧ i.bytes = b := by
 cases e : P.info? t with
 | none => rw [e] at h; cases h
 | some i =>
  rw [e] at h
  simp only [Option.map_some, Option.some.injEq, Prod.mk.injEq] at h
  exact ⟨i, rfl, h.1, h.2.1, h.2.2⟩

def FourV (W : World) (B : Nat) (u0 u1 u2 u3 : Value) : Prop := W.cell? ⟨B, 0, none⟩ = some u0 ∧ W.cell? ⟨B, 1, none⟩ = some u1 ∧ W.cell? ⟨B, 2, none⟩ = some u2 ∧ W.cell? ⟨B, 3, none⟩ = some u3 ∧ B < W.heap.size

theorem FourV.later {W W' : World} {B : Nat} {u0 u1 u2 u3 : Value} (h : FourV W B u0 u1 u2 u3) (hb : Below W.heap.size W W') : FourV W' B u0 u1 u2 u3 :=
 ⟨(hb.cell (p := ⟨B, 0, none⟩) h.2.2.2.2).trans h.1, (hb.cell (p := ⟨B, 1, none⟩) h.2.2.2.2).trans h.2.1, (hb.cell (p := ⟨B, 2, none⟩) h.2.2.2.2).trans h.2.2.1, (hb.cell (p := ⟨B, 3, none⟩) h.2.2.2.2).trans h.2.2.2.1, Nat.lt_of_lt_of_le h.2.2.2.2 hb.size⟩

theorem FourV.new (W : World) (u0 u1 u2 u3 : Value) (t : TypeId) : FourV (W.alloc (.cells #[u0, u1, u2, u3] t)) W.heap.size u0 u1 u2 u3 :=
 ⟨by rw [World.cell?_alloc_new]; rfl, by rw [World.cell?_alloc_new]; rfl, by rw [World.cell?_alloc_new]; rfl, by rw [World.cell?_alloc_new]; rfl, by simp⟩

theorem step_append_run {P : Program} {ops : Array Oper} {o : Oper} {a : Act} {w : World} {K : Act → World → Prop} {Q : Exit → Act → World → Prop} {E : Prop} (hg : o.guard = none) (s x : Operand) (t tn : TypeId)
  (ho : o.op = .call { callee := .builtin .append, args := #[s, x], argTypes := #[t, tn] }) (vs vx : Value) (hs : a.eval s = vs) (hx : a.eval x = vx)
  (v' : Value) (w' : World) (hr : (Builtin.append_ #[t, tn] o.type #[vs, vx]).run P w = .ok v' w') (hK : K (a.put o.dst v') w') :
  if Region.wanted o (yielded ops a.tmps) = true then Oper.wp P o a w K Q else E := by
 rw [if_pos (by simp [Region.wanted, hg])]
 exact Lib.wp_append_run w s x t tn ho vs vx hs hx v' w' hr hK

theorem own_snoc {P : Program} (W : World) (base : Nat) (hbase : base ≤ W.heap.size) (t ty e : TypeId) (i : TypeInfo) (z : Value) (sz by' : Nat) (ht : P.underlying t = some (.slice e)) (hi : P.info? e = some i) (hz : i.zero = some z)
  (hsize : i.size = sz) (hby : i.bytes = by') (hzs : z.cells.size = sz) (hsz : 0 < sz) (v : Value) (n : Nat) (xs : List Value) (hown : W.ownsRow base e sz v n xs)
  (ys : Array Value) (tb : TypeId) (hl : ys.size = sz) (h1 : ∀ y ∈ ys.toList, y.oneCell' = true) (h63 : n + 1 ≤ maxLen) (hbytes : (n + 1) * by' ≤ 140737488355328) :
  ∃ o c W', (Builtin.append_ #[t, t] ty #[v, .slice (some ⟨W.heap.size, 0, none⟩) 1 1]).run P (W.alloc (.cells ys tb)) = .ok (.slice o (n + 1) c) W' ∧ W'.ownsRow base e sz (.slice o (n + 1) c) (n + 1) (xs ++ ys.toList) ∧ Below base W W' := by
 obtain ⟨v', W', hr, hown', hg, -⟩ := run_append_own (P := P) (W.alloc (.cells ys tb)) base t ty e i z sz by' ht hi hz hsize hby hzs hsz v n xs (hown.alloc _) ⟨W.heap.size, 0, none⟩ 1 1 ys.toList (by rw [Array.length_toList, hl, Nat.one_mul]) (World.news_of_block (heap_alloc_new W _)) h1 h63 hbytes (by simp; omega)
 obtain ⟨o, c, rfl, -⟩ := owns_form hown'
 exact ⟨o, c, W', hr, hown', owns_below hown hbase hg⟩

end Go.Proofs.YtnhbfehfipafoaaGreatDoor
