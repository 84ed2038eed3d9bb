/- What all texts lean on: memory that stays, bytes of a text, rows of whole numbers. -/
import Derived.Test.YtjdnhdcaifogmaaGreatDoorRows
import Derived.WalkKit
import Derived.WalkSpells
import Derived.WalkLawsBesides
import Derived.Laws.AppendOwn
import Derived.OwnWalk
import Derived.Lib.Strings
import Derived.Deep.AppendLies
import Derived.Deep.RegionHeld3
import Derived.Lib.AppendZeros
import Derived.Lib.AppendStr
import Derived.Lib.UnsafeStr
import Derived.Laws.IdiomStrings
import Derived.Lib.Split
import Derived.Laws.MakeOwn
import Derived.Shelf.LaysM
import Derived.Shelf.Strconv.Itoa3
import Derived.Test.YtjdnhdcaifogmaaGreatDoorProg
import Derived.Shelf.Strings.OnBuilder
import Derived.Shelf.Strings.Count
import Derived.Shelf.Strings.Split
import Derived.Lib.Join

namespace Go.Proofs.YtjdnhdcaifogmaaGreatDoor
open Go.RowKit

theorem hide {p : Prop} (h : p) : Hid p := h

theorem heap_lt {w : World} {b : Nat} {o : Obj} (h : w.heap[b]? = some o) : b < w.heap.size := by
 rcases Nat.lt_or_ge b w.heap.size with hlt | hge
 ·exact hlt
 ·rw [Array.getElem?_eq_none hge] at h; cases h

def byt (s : ByteArray) (k : Nat) : Int := if h : k < s.size then ((s[k]'h).toNat : Int) else 0

theorem ownsRow_later {W W' : World} {base : Nat} {e : TypeId} {size : Nat} {v : Value} {n : Nat} {xs : List Value} (h : W.ownsRow base e size v n xs) (hb : Below W.heap.size W W') : W'.ownsRow base e size v n xs := by
 refine ⟨h.1, ?_⟩
 rcases h.2 with hn | ⟨g, cap, cur, e, hbg, hh, rest⟩
 ·exact .inl hn
 ·exact .inr ⟨g, cap, cur, e, hbg, (hb.block _ (heap_lt hh)).trans hh, rest⟩

theorem owns_below {base : Nat} {wr w3 : World} {e : TypeId} {size : Nat} {v : Value} {n : Nat} {xs : List Value} {ob : Obj} (h : wr.ownsRow base e size v n xs) (hB : base ≤ wr.heap.size) (hg : (wr.alloc ob).grownBy w3 v.ownBlock) : Below base wr w3 :=
 ((Below.refl _ _).alloc hB _).grown hg (by simp; omega) (fun k hk => (h.lt k hk).1)

def RowS (w : World) (v : Value) (ks : List Int) : Prop :=
 ∃ ao cap, v = .slice ao ks.length cap ∧ ks.length ≤ cap ∧ (∀ i, -9223372036854775808 ≤ ks.getD i 0 ∧ ks.getD i 0 ≤ 9223372036854775807) ∧
  (0 < ks.length → ∃ b off, ao = some ⟨b, off, none⟩ ∧ b < w.heap.size ∧ ∀ i, i < ks.length → w.cell? ⟨b, off + i, none⟩ = some (.int .i64 (ks.getD i 0)))

theorem RowS.below {C : Nat} {w w' : World} {v : Value} {ks : List Int} (h : RowS w v ks) (hb : Below C w w') (hC : w.heap.size ≤ C) : RowS w' v ks := by
 obtain ⟨ao, cap, hv, h1, hk, h2⟩ := h
 refine ⟨ao, cap, hv, h1, hk, fun h0 => ?_⟩
 obtain ⟨b, off, e, hlt, hc⟩ := h2 h0
 exact ⟨b, off, e, Nat.lt_of_lt_of_le hlt hb.size, fun i hi => (hb.cell (p := ⟨b, off + i, none⟩) (Nat.lt_of_lt_of_le hlt hC)).trans (hc i hi)⟩

def RowsS (w : World) (v : Value) (rs : List (List Int)) : Prop :=
 ∃ ao cap, v = .slice ao rs.length cap ∧ rs.length ≤ cap ∧ (0 < rs.length → ∃ b off, ao = some ⟨b, off, none⟩ ∧ b < w.heap.size ∧ ∀ i r, rs[i]? = some r → ∃ u, w.cell? ⟨b, off + i, none⟩ = some u ∧ RowS w u r)

theorem RowsS.below {w w' : World} {v : Value} {rs : List (List Int)} (h : RowsS w v rs) (hb : Below w.heap.size w w') : RowsS w' v rs := by
 obtain ⟨ao, cap, hv, h1, h2⟩ := h
 refine ⟨ao, cap, hv, h1, fun h0 => ?_⟩
 obtain ⟨b, off, e, hlt, hc⟩ := h2 h0
 refine ⟨b, off, e, Nat.lt_of_lt_of_le hlt hb.size, fun i r hi => ?_⟩
 obtain ⟨u, h3, h4⟩ := hc i r hi
 exact ⟨u, (hb.cell (p := ⟨b, off + i, none⟩) hlt).trans h3, h4.below hb (Nat.le_refl _)⟩

theorem RowsS.at {w : World} {v : Value} {rs : List (List Int)} (h : RowsS w v rs) (i : Nat) (hi : i < rs.length) : ∃ b off cap, v = .slice (some ⟨b, off, none⟩) rs.length cap ∧ b < w.heap.size ∧ ∃ u, w.cell? ⟨b, off + i, none⟩ = some u ∧ RowS w u rs[i] := by
 obtain ⟨ao, cap, hv, h1, h2⟩ := h
 obtain ⟨b, off, e, hlt, hc⟩ := h2 (by omega)
 subst e
 exact ⟨b, off, cap, hv, hlt, hc i rs[i] (by simp [hi])⟩

end Go.Proofs.YtjdnhdcaifogmaaGreatDoor

/- Catalogs, by themselves: names in their order, operations, what they leave. -/
namespace Go.Proofs.YtjdnhdcaifogmaaGreatDoor

structure Nmd where
 name : ByteArray
 n : Int
 gens : List (List Int)

structure OpV where
 kind : Int
 name : ByteArray
 n : Int
 v : List Int

def nlt (a b : ByteArray) : Bool := Op.bytesLess a.toList b.toList

def nmOk (s : ByteArray) : Bool := decide (1 ≤ s.size ∧ s.size ≤ 8 ∧ ∀ i, i < s.size → (97 ≤ byt s i ∧ byt s i ≤ 122) ∨ (48 ≤ byt s i ∧ byt s i ≤ 57 ∧ i ≠ 0))

def genF (v : List Int) (n : Int) : Nat := if (v.length : Int) = n then (if v.all (fun z => decide (-999 ≤ z ∧ z ≤ 999)) then 0 else 1) else 6

theorem genF_ok {v : List Int} {n : Int} : genF v n = 0 ↔ (v.length : Int) = n ∧ ∀ z ∈ v, -999 ≤ z ∧ z ≤ 999 := by
 unfold genF
 by_cases h : (v.length : Int) = n
 ·rw [if_pos h]
  by_cases h2 : v.all (fun z => decide (-999 ≤ z ∧ z ≤ 999)) = true
  ·rw [if_pos h2]
   simp only [List.all_eq_true, decide_eq_true_eq] at h2
   simp [h]; exact h2
  ·rw [if_neg h2]
   simp only [List.all_eq_true, decide_eq_true_eq] at h2
   simp [h]
   simpa using h2
 ·rw [if_neg h]; simp [h]

def opOk (o : OpV) : Bool := nmOk o.name && (decide (o.kind = 1 ∧ o.v.length = 0) || decide (o.kind = 2 ∧ o.n = 0 ∧ o.v.length = 0) || decide ((o.kind = 3 ∨ o.kind = 4) ∧ o.n = 0))

def placeL (cs : List Nmd) (s : ByteArray) : Nat := cs.findIdx (fun x => !nlt x.name s)

def hasL (cs : List Nmd) (s : ByteArray) : Bool := cs.any (fun x => decide (x.name = s))

def applyC (cs : List Nmd) (o : OpV) : Nat × List Nmd :=
 if opOk o = false then (3, [])
 else if o.kind = 1 then
  if ¬ (1 ≤ o.n ∧ o.n ≤ 4) then (1, [])
  else if hasL cs o.name then (8, [])
  else if 8 ≤ cs.length then (2, [])
  else (0, cs.take (placeL cs o.name) ++ (⟨o.name, o.n, []⟩ :: cs.drop (placeL cs o.name)))
 else if hasL cs o.name = false then (7, [])
 else if o.kind = 2 then (0, cs.take (placeL cs o.name) ++ cs.drop (placeL cs o.name + 1))
 else match cs[placeL cs o.name]? with
  | none => (7, [])
  | some x =>
   if genF o.v x.n ≠ 0 then (genF o.v x.n, [])
   else if o.kind = 3 then (if 10 ≤ x.gens.length then (2, []) else (0, cs.set (placeL cs o.name) ⟨x.name, x.n, x.gens ++ [o.v]⟩))
   else (if x.gens.contains o.v then (0, cs.set (placeL cs o.name) ⟨x.name, x.n, x.gens.erase o.v⟩) else (7, []))

structure NmOk (x : Nmd) : Prop where
 name : nmOk x.name = true
 n : 1 ≤ x.n ∧ x.n ≤ 4
 few : x.gens.length ≤ 10
 gens : ∀ g ∈ x.gens, genF g x.n = 0

structure CatOk (cs : List Nmd) : Prop where
 rise : cs.Pairwise (fun x y => nlt x.name y.name = true)
 few : cs.length ≤ 8
 all : ∀ x ∈ cs, NmOk x

end Go.Proofs.YtjdnhdcaifogmaaGreatDoor

/- Catalogs in memory: named lattices in a row. -/
namespace Go.Proofs.YtjdnhdcaifogmaaGreatDoor
open Go.RowKit

structure Nc where
 x : Nmd
 o : Option Addr
 l : Nat
 c : Nat

def Nc.cells (q : Nc) : List Value := [.string q.x.name, .int .i64 q.x.n, .slice q.o q.l q.c]
def Nc.val (q : Nc) : Value := .agg #[.string q.x.name, .int .i64 q.x.n, .slice q.o q.l q.c]

def NcIn (W : World) (q : Nc) : Prop := RowsS W (.slice q.o q.l q.c) q.x.gens

theorem NcIn.below {W W' : World} {q : Nc} (h : NcIn W q) (hb : Below W.heap.size W W') : NcIn W' q := RowsS.below h hb

def CatN (W : World) (v : Value) (qs : List Nc) : Prop :=
 ∃ ao cap, v = .slice ao qs.length cap ∧ qs.length ≤ cap ∧ (0 < qs.length → ∃ b off, ao = some ⟨b, off, none⟩ ∧ b < W.heap.size ∧ ∀ i (q : Nc), qs[i]? = some q →
  W.cell? ⟨b, off + i * 3, none⟩ = some (.string q.x.name) ∧ W.cell? ⟨b, off + i * 3 + 1, none⟩ = some (.int .i64 q.x.n) ∧ W.cell? ⟨b, off + i * 3 + 2, none⟩ = some (.slice q.o q.l q.c) ∧ NcIn W q)

theorem CatN.below {W W' : World} {v : Value} {qs : List Nc} (h : CatN W v qs) (hb : Below W.heap.size W W') : CatN W' v qs := by
 obtain ⟨ao, cap, e, hn, h⟩ := h
 refine ⟨ao, cap, e, hn, fun h0 => ?_⟩
 obtain ⟨b, off, e, hlt, h⟩ := h h0
 refine ⟨b, off, e, Nat.lt_of_lt_of_le hlt hb.size, fun i p hp => ?_⟩
 obtain ⟨h1, h2, h3, h4⟩ := h i p hp
 exact ⟨(hb.cell (p := ⟨b, off + i * 3, none⟩) hlt).trans h1, (hb.cell (p := ⟨b, off + i * 3 + 1, none⟩) hlt).trans h2, (hb.cell (p := ⟨b, off + i * 3 + 2, none⟩) hlt).trans h3, h4.below hb⟩

theorem CatN.form {W : World} {v : Value} {qs : List Nc} (h : CatN W v qs) (h0 : 0 < qs.length) : ∃ b off cap, v = .slice (some ⟨b, off, none⟩) qs.length cap := by
 obtain ⟨ao, cap, e, hn, h⟩ := h
 obtain ⟨b, off, e', -⟩ := h h0
 exact ⟨b, off, cap, by rw [e, e']⟩

theorem CatN.at {W : World} {b off cap : Nat} {qs : List Nc} (h : CatN W (.slice (some ⟨b, off, none⟩) qs.length cap) qs) (i : Nat) (hi : i < qs.length) : b < W.heap.size ∧
  W.cell? ⟨b, off + i * 3, none⟩ = some (.string qs[i].x.name) ∧ W.cell? ⟨b, off + i * 3 + 1, none⟩ = some (.int .i64 qs[i].x.n) ∧ W.cell? ⟨b, off + i * 3 + 2, none⟩ = some (.slice qs[i].o qs[i].l qs[i].c) ∧ NcIn W qs[i] := by
 obtain ⟨ao, cap', e, hn, h⟩ := h
 simp only [Value.slice.injEq, true_and] at e
 obtain ⟨rfl, rfl⟩ := e
 obtain ⟨b', off', e, hlt, h⟩ := h (by omega)
 simp only [Option.some.injEq, Addr.mk.injEq, and_true] at e
 obtain ⟨rfl, rfl⟩ := e
 exact ⟨hlt, h i qs[i] (by simp [hi])⟩

theorem nccells_len (qs : List Nc) : (qs.flatMap Nc.cells).length = qs.length * 3 := by
 induction qs with
 | nil => rfl
 | cons q qs ih => rw [List.flatMap_cons, List.length_append, ih, List.length_cons]; simp [Nc.cells]; omega

theorem nccells_at (qs : List Nc) : ∀ i (h : i < qs.length) (j : Nat), j < 3 → (qs.flatMap Nc.cells)[i * 3 + j]? = qs[i].cells[j]? := by
 induction qs with
 | nil => intro i h; exact absurd h (by simp)
 | cons p qs ih =>
  intro i h j hj
  rw [List.flatMap_cons]
  cases i with
  | zero => rw [Nat.zero_mul, Nat.zero_add, List.getElem?_append_left (by simp [Nc.cells]; omega)]; rfl
  | succ i =>
   rw [List.getElem?_append_right (by simp [Nc.cells]; omega), show (i + 1) * 3 + j - p.cells.length = i * 3 + j by simp [Nc.cells]; omega]
   exact ih i (by simpa using h) j hj

theorem catN_of_owns {W : World} {base : Nat} {t : TypeId} {v : Value} {qs : List Nc} (h : W.ownsRow base t 3 v qs.length (qs.flatMap Nc.cells)) (hin : ∀ q ∈ qs, NcIn W q) : CatN W v qs := by
 rcases h.2 with ⟨rfl, hn⟩ | ⟨g, cap, cur, rfl, hb, hh, hc1, hc2, hc3, hc4⟩
 ·exact ⟨none, 0, by rw [hn], by omega, fun h0 => absurd h0 (by omega)⟩
 ·refine ⟨_, cap, rfl, hc1, fun h0 => ⟨g, 0, rfl, heap_lt hh, fun i q hi => ?_⟩⟩
  obtain ⟨hi', rfl⟩ := List.getElem?_eq_some_iff.1 hi
  have hcell : ∀ k u, k < qs.length * 3 → (qs.flatMap Nc.cells)[k]? = some u → W.cell? ⟨g, k, none⟩ = some u := fun k u hk hu => by
   have := World.news_of_block hh k u (by rw [← hc4, List.getElem?_take, if_pos hk] at hu; exact hu)
   have e : (⟨g, 0, none⟩ : Addr).add k = ⟨g, k, none⟩ := by unfold Addr.add; split <;> simp_all
   rwa [e] at this
  rw [Nat.zero_add]
  refine ⟨hcell _ _ (by omega) ?_, hcell _ _ (by omega) ?_, hcell _ _ (by omega) ?_, hin _ (List.getElem_mem hi')⟩
  ·have := nccells_at qs i hi' 0 (by omega); rw [Nat.add_zero] at this; rw [this]; rfl
  ·rw [nccells_at qs i hi' 1 (by omega)]; rfl
  ·rw [nccells_at qs i hi' 2 (by omega)]; rfl

theorem CatN.news {W : World} {b off cap : Nat} {qs : List Nc} (h : CatN W (.slice (some ⟨b, off, none⟩) qs.length cap) qs) (j : Nat) (u : Value) (hu : (qs.flatMap Nc.cells)[j]? = some u) : W.cell? ((⟨b, off, none⟩ : Addr).add j) = some u := by
 have ea : (⟨b, off, none⟩ : Addr).add j = ⟨b, off + j, none⟩ := by unfold Addr.add; split <;> simp_all
 rw [ea]
 have hj : j < qs.length * 3 := by
  have := (List.getElem?_eq_some_iff.1 hu).1
  rwa [nccells_len] at this
 have hi : j / 3 < qs.length := by omega
 obtain ⟨-, c0, c1, c2, -⟩ := h.at (j / 3) hi
 have hd : j = (j / 3) * 3 + j % 3 := by omega
 have h3 : j % 3 < 3 := Nat.mod_lt _ (by decide)
 rw [hd, nccells_at qs (j / 3) hi (j % 3) h3] at hu
 rw [show off + j = off + j / 3 * 3 + j % 3 by omega]
 generalize j % 3 = r at *
 match r, h3 with
 | 0, _ => simp only [Nc.cells, List.getElem?_cons_zero, Option.some.injEq] at hu; subst hu; exact c0
 | 1, _ => simp only [Nc.cells, List.getElem?_cons_succ, List.getElem?_cons_zero, Option.some.injEq] at hu; subst hu; exact c1
 | 2, _ => simp only [Nc.cells, List.getElem?_cons_succ, List.getElem?_cons_zero, Option.some.injEq] at hu; subst hu; exact c2

theorem CatN.ins {W : World} {v : Value} {qs : List Nc} (h : CatN W v qs) : ∀ q ∈ qs, NcIn W q := fun q hq => by
 obtain ⟨i, hi, rfl⟩ := List.getElem_of_mem hq
 obtain ⟨b, off, cap, rfl⟩ := h.form (by omega)
 exact (h.at i hi).2.2.2.2

end Go.Proofs.YtjdnhdcaifogmaaGreatDoor

/- Names, sizes and generators of catalogs: what the program's and the reference's words say of them. -/
namespace Go.Proofs.YtjdnhdcaifogmaaGreatDoor
open Go.RowKit

def nmTo (s : ByteArray) (k : Nat) : Prop := ∀ i, i < k → (97 ≤ byt s i ∧ byt s i ≤ 122) ∨ (48 ≤ byt s i ∧ byt s i ≤ 57 ∧ i ≠ 0)

def sizeOk (n : Int) : Bool := decide (1 ≤ n ∧ n ≤ 4)

end Go.Proofs.YtjdnhdcaifogmaaGreatDoor

/- Small things that operations and catalogs share. -/
namespace Go.Proofs.YtjdnhdcaifogmaaGreatDoor
open Go.RowKit

def errV (c : Nat) : Value := if c = 0 then .nilIface else .iface 71 (.int .i64 (c : Int))

theorem alloc_below (W : World) (ob : Obj) : Below W.heap.size W (W.alloc ob) := (Below.refl _ _).alloc (Nat.le_refl _) _

theorem owns_form {W : World} {base : Nat} {e : TypeId} {sz : Nat} {v : Value} {n : Nat} {xs : List Value} (h : W.ownsRow base e sz v n xs) : ∃ o c, v = .slice o n c ∧ n ≤ c := by
 rcases h.2 with ⟨rfl, rfl⟩ | ⟨g, cap, cur, rfl, -, -, hle, -⟩
 ·exact ⟨_, _, rfl, Nat.le_refl _⟩
 ·exact ⟨_, _, rfl, hle⟩

theorem info_got {P : Program} {t : TypeId} {z : Value} {s b : Nat} (h : (P.info? t).map (fun i => (i.zero, i.size, i.bytes)) = some (some z, s, b)) : ∃ i, P.info? t = some i ∧ i.zero = some z ∧ i.size = s ∧ i.bytes = b := by
 cases e : P.info? t with
 | none => rw [e] at h; cases h
 | some i =>
  rw [e] at h
  simp only [Option.map_some, Option.some.injEq, Prod.mk.injEq] at h
  exact ⟨i, rfl, h.1, h.2.1, h.2.2⟩

def FourV (W : World) (B : Nat) (u0 u1 u2 u3 : Value) : Prop := W.cell? ⟨B, 0, none⟩ = some u0 ∧ W.cell? ⟨B, 1, none⟩ = some u1 ∧ W.cell? ⟨B, 2, none⟩ = some u2 ∧ W.cell? ⟨B, 3, none⟩ = some u3 ∧ B < W.heap.size

theorem FourV.later {W W' : World} {B : Nat} {u0 u1 u2 u3 : Value} (h : FourV W B u0 u1 u2 u3) (hb : Below W.heap.size W W') : FourV W' B u0 u1 u2 u3 :=
 ⟨(hb.cell (p := ⟨B, 0, none⟩) h.2.2.2.2).trans h.1, (hb.cell (p := ⟨B, 1, none⟩) h.2.2.2.2).trans h.2.1, (hb.cell (p := ⟨B, 2, none⟩) h.2.2.2.2).trans h.2.2.1, (hb.cell (p := ⟨B, 3, none⟩) h.2.2.2.2).trans h.2.2.2.1, Nat.lt_of_lt_of_le h.2.2.2.2 hb.size⟩

theorem FourV.new (W : World) (u0 u1 u2 u3 : Value) (t : TypeId) : FourV (W.alloc (.cells #[u0, u1, u2, u3] t)) W.heap.size u0 u1 u2 u3 :=
 ⟨by rw [World.cell?_alloc_new]; rfl, by rw [World.cell?_alloc_new]; rfl, by rw [World.cell?_alloc_new]; rfl, by rw [World.cell?_alloc_new]; rfl, by simp⟩

theorem own_snoc {P : Program} (W : World) (base : Nat) (hbase : base ≤ W.heap.size) (t ty e : TypeId) (i : TypeInfo) (z : Value) (sz by' : Nat) (ht : P.underlying t = some (.slice e)) (hi : P.info? e = some i) (hz : i.zero = some z)
  (hsize : i.size = sz) (hby : i.bytes = by') (hzs : z.cells.size = sz) (hsz : 0 < sz) (v : Value) (n : Nat) (xs : List Value) (hown : W.ownsRow base e sz v n xs)
  (ys : Array Value) (tb : TypeId) (hl : ys.size = sz) (h1 : ∀ y ∈ ys.toList, y.oneCell' = true) (h63 : n + 1 ≤ maxLen) (hbytes : (n + 1) * by' ≤ 140737488355328) :
  ∃ o c W', (Builtin.append_ #[t, t] ty #[v, .slice (some ⟨W.heap.size, 0, none⟩) 1 1]).run P (W.alloc (.cells ys tb)) = .ok (.slice o (n + 1) c) W' ∧ W'.ownsRow base e sz (.slice o (n + 1) c) (n + 1) (xs ++ ys.toList) ∧ Below base W W' := by
 obtain ⟨v', W', hr, hown', hg, -⟩ := run_append_own (P := P) (W.alloc (.cells ys tb)) base t ty e i z sz by' ht hi hz hsize hby hzs hsz v n xs (hown.alloc _) ⟨W.heap.size, 0, none⟩ 1 1 ys.toList (by rw [Array.length_toList, hl, Nat.one_mul]) (World.news_of_block (heap_alloc_new W _)) h1 h63 hbytes (by simp; omega)
 obtain ⟨o, c, rfl, -⟩ := owns_form hown'
 exact ⟨o, c, W', hr, hown', owns_below hown hbase hg⟩

end Go.Proofs.YtjdnhdcaifogmaaGreatDoor

/- Bytes under construction: an operation's bytes, without memory; a list of bytes of one's own that grows. -/
namespace Go.Proofs.YtjdnhdcaifogmaaGreatDoor
open Go.RowKit

def lowB (z : Int) : UInt8 := UInt8.ofNat (z % 256).toNat

theorem lowB_nat (z : Int) : ((lowB z).toNat : Int) = z % 256 := by
 unfold lowB
 have h0 : 0 ≤ z % 256 := Int.emod_nonneg _ (by decide)
 have h1 : z % 256 < 256 := Int.emod_lt_of_pos _ (by decide)
 rw [UInt8.toNat_ofNat']
 omega

def twoB (z : Int) : List UInt8 := [lowB z, lowB (z / 256)]

def shapeB (o : OpV) : Bool := decide (1 ≤ o.kind ∧ o.kind ≤ 4) && nmOk o.name && decide (0 ≤ o.n ∧ o.n ≤ 4) && decide (o.v.length ≤ 4)

def bigB (o : OpV) : Bool := o.v.any fun z => decide (z < -999 ∨ 999 < z)

def opF (o : OpV) : Nat := if shapeB o = false then 3 else if bigB o then 1 else 0

def headB (o : OpV) : List UInt8 := [lowB o.kind, lowB o.name.size] ++ o.name.data.toList ++ [lowB o.n, lowB o.v.length]

def opB (o : OpV) : List UInt8 := headB o ++ o.v.flatMap twoB

def opS (o : OpV) : ByteArray := if opF o = 0 then ⟨(opB o).toArray⟩ else ⟨#[]⟩

theorem Tryz.infoU8 : (Tryz.prog.info? 5).map (fun i => (i.zero, i.size, i.bytes)) = some (some (.int .u8 0), 1, 1) := by kernel_rfl

def BufB (base : Nat) (W : World) (v : Value) (l : List UInt8) : Prop := W.ownsRow base 5 1 v l.length (Lib.byteCells l)

theorem BufB.form {base : Nat} {W : World} {v : Value} {l : List UInt8} (h : BufB base W v l) : ∃ o c, v = .slice o l.length c := by
 obtain ⟨o, c, e, -⟩ := owns_form h
 exact ⟨o, c, e⟩

theorem BufB.len {base : Nat} {W : World} {o : Option Addr} {n c : Nat} {l : List UInt8} (h : BufB base W (.slice o n c) l) : n = l.length := by
 obtain ⟨o', c', e⟩ := h.form
 simp only [Value.slice.injEq] at e
 exact e.2.1

theorem BufB.later {base : Nat} {W W' : World} {v : Value} {l : List UInt8} (h : BufB base W v l) (hb : Below W.heap.size W W') : BufB base W' v l := ownsRow_later h hb

theorem cell_lowB (z : Int) : Value.int .u8 ((lowB z).toNat : Int) = .int .u8 (z % 256) := by rw [lowB_nat]

theorem BufB.two (W : World) (a b : Int) : BufB W.heap.size (W.alloc (.cells #[.int .u8 (a % 256), .int .u8 (b % 256)] 5)) (.slice (some ⟨W.heap.size, 0, none⟩) 2 2) [lowB a, lowB b] := by
 refine ⟨by simp [Lib.byteCells], .inr ⟨W.heap.size, 2, _, rfl, Nat.le_refl _, heap_alloc_new W _, Nat.le_refl _, by unfold maxLen; decide, rfl, ?_⟩⟩
 simp only [Lib.byteCells, List.map_cons, List.map_nil, cell_lowB]
 rfl

theorem BufB.more {W : World} {base : Nat} {v : Value} {l : List UInt8} (h : BufB base W v l) (hbase : base ≤ W.heap.size) (m : List UInt8) (cs : Array Value) (hcs : cs.toList = Lib.byteCells m) (ty tb : TypeId) (hl : l.length + m.length ≤ 1000000) :
  ∃ o c W', (Builtin.append_ #[58, 58] ty #[v, .slice (some ⟨W.heap.size, 0, none⟩) m.length m.length]).run Tryz.prog (W.alloc (.cells cs tb)) = .ok (.slice o (l ++ m).length c) W' ∧ BufB base W' (.slice o (l ++ m).length c) (l ++ m) ∧ Below base W W' := by
 obtain ⟨j0, hj, hy0, hy1, hy2⟩ := info_got Tryz.infoU8
 obtain ⟨v', W', hr, hown, hg, -⟩ := run_append_own (P := Tryz.prog) (W.alloc (.cells cs tb)) base 58 ty 5 j0 (.int .u8 0) 1 1 (by kernel_rfl) hj hy0 hy1 hy2 rfl (by decide) v l.length _ (World.ownsRow.alloc h _) ⟨W.heap.size, 0, none⟩ m.length m.length (Lib.byteCells m) (by simp [Lib.byteCells]) (by rw [← hcs]; exact World.news_of_block (heap_alloc_new W _)) (fun y hy => by
  simp only [Lib.byteCells, List.mem_map] at hy
  obtain ⟨b, -, rfl⟩ := hy
  rfl) (by unfold maxLen; omega) (by omega) (by simp; omega)
 have e1 : l.length + m.length = (l ++ m).length := by rw [List.length_append]
 have e2 : Lib.byteCells l ++ Lib.byteCells m = Lib.byteCells (l ++ m) := by simp [Lib.byteCells]
 rw [e1, e2] at hown
 obtain ⟨o, c, rfl, -⟩ := owns_form hown
 exact ⟨o, c, W', hr, hown, owns_below h hbase hg⟩

theorem BufB.back {W : World} {base : Nat} {o : Option Addr} {c : Nat} {l : List UInt8} (h : BufB base W (.slice o l.length c) l) (h0 : 0 < l.length) : (convert 58 9 (.slice o l.length c)).run Tryz.prog W = .ok (.string ⟨l.toArray⟩) W := by
 rcases h.2 with ⟨e, -⟩ | ⟨g, cap, cur, e, -, hg, -, -, -, -⟩
 ·simp only [Value.slice.injEq] at e
  omega
 ·simp only [Value.slice.injEq, true_and] at e
  obtain ⟨rfl, rfl⟩ := e
  refine run_convert_bytes_back W 58 9 5 ⟨g, 0, none⟩ c l (by kernel_rfl) (by kernel_rfl) (by kernel_rfl) fun j hj => ?_
  have := World.ownsRow.cells (g := g) h rfl j _ (show (Lib.byteCells l)[j]? = some (.int .u8 (l[j].toNat : Int)) by simp [Lib.byteCells, hj])
  exact this

end Go.Proofs.YtjdnhdcaifogmaaGreatDoor

/- A list of texts is made. -/
namespace Go.Proofs.YtjdnhdcaifogmaaGreatDoor
open Go.RowKit

end Go.Proofs.YtjdnhdcaifogmaaGreatDoor

/- strconv.Itoa in general, laid at this translation. -/
namespace Go.Proofs
open Go.Shelf Go.RowKit Go.Sort
def Tryz.laysM171_ren : Go.Shelf.Ren := ⟨fun | 171 => 45 | 243 => 65 | 246 => 78 | 283 => 93 | 284 => 94 | 285 => 95 | 286 => 96 | 129 => 107 | 317 => 106 | 318 => 108 | 319 => 109 | 320 => 110 | 337 => 117 | 338 => 118 | n => n, fun | 3 => 3 | 9 => 9 | 2 => 2 | 4 => 4 | 171 => 138 | 0 => 0 | 53 => 113 | 37 => 58 | 5 => 5 | 173 => 141 | 212 => 154 | 51 => 143 | 20 => 20 | 213 => 155 | 46 => 80 | 232 => 165 | 233 => 166 | n => n, fun | 17 => 3 | 18 => 4 | 19 => 5 | n => n⟩
theorem Tryz.laysM171 : Go.Proofs.LaysM.n171 Tryz.prog Tryz.laysM171_ren := {
 mixed := by kernel_rfl
 f129 := Tryz.func107.trans (congrArg some (by kernel_rfl))
 f171 := Tryz.func45.trans (congrArg some (by kernel_rfl))
 f243 := Tryz.func65.trans (congrArg some (by kernel_rfl))
 f246 := Tryz.func78.trans (congrArg some (by kernel_rfl))
 f283 := Tryz.func93.trans (congrArg some (by kernel_rfl))
 f284 := Tryz.func94.trans (congrArg some (by kernel_rfl))
 f285 := Tryz.func95.trans (congrArg some (by kernel_rfl))
 f286 := Tryz.func96.trans (congrArg some (by kernel_rfl))
 f317 := Tryz.func106.trans (congrArg some (by kernel_rfl))
 f318 := Tryz.func108.trans (congrArg some (by kernel_rfl))
 f319 := Tryz.func109.trans (congrArg some (by kernel_rfl))
 f320 := Tryz.func110.trans (congrArg some (by kernel_rfl))
 f337 := Tryz.func117.trans (congrArg some (by kernel_rfl))
 f338 := Tryz.func118.trans (congrArg some (by kernel_rfl))
 t0 := Tryz.underlying0
 a0 := Tryz.isAgg0
 z0 := Tryz.sizeOf0
 v0 := Tryz.zeroValue0
 t2 := Tryz.underlying2
 a2 := Tryz.isAgg2
 z2 := Tryz.sizeOf2
 v2 := Tryz.zeroValue2
 t3 := Tryz.underlying3
 a3 := Tryz.isAgg3
 z3 := Tryz.sizeOf3
 v3 := Tryz.zeroValue3
 t4 := Tryz.underlying4
 a4 := Tryz.isAgg4
 z4 := Tryz.sizeOf4
 v4 := Tryz.zeroValue4
 t5 := Tryz.underlying5
 a5 := Tryz.isAgg5
 z5 := Tryz.sizeOf5
 v5 := Tryz.zeroValue5
 t9 := Tryz.underlying9
 a9 := Tryz.isAgg9
 z9 := Tryz.sizeOf9
 v9 := Tryz.zeroValue9
 t20 := Tryz.underlying20
 a20 := Tryz.isAgg20
 z20 := Tryz.sizeOf20
 v20 := Tryz.zeroValue20
 t37 := Tryz.underlying58
 a37 := Tryz.isAgg58
 z37 := Tryz.sizeOf58
 v37 := Tryz.zeroValue58
 t46 := Tryz.underlying80
 a46 := Tryz.isAgg80
 z46 := Tryz.sizeOf80
 v46 := Tryz.zeroValue80
 t51 := Tryz.underlying143
 a51 := Tryz.isAgg143
 z51 := Tryz.sizeOf143
 v51 := Tryz.zeroValue143
 t53 := Tryz.underlying113
 a53 := Tryz.isAgg113
 z53 := Tryz.sizeOf113
 v53 := Tryz.zeroValue113
 t171 := Tryz.underlying138
 a171 := Tryz.isAgg138
 z171 := Tryz.sizeOf138
 v171 := Tryz.zeroValue138
 t173 := Tryz.underlying141
 a173 := Tryz.isAgg141
 z173 := Tryz.sizeOf141
 v173 := Tryz.zeroValue141
 t212 := Tryz.underlying154
 a212 := Tryz.isAgg154
 z212 := Tryz.sizeOf154
 v212 := Tryz.zeroValue154
 t213 := Tryz.underlying155
 a213 := Tryz.isAgg155
 z213 := Tryz.sizeOf155
 t232 := Tryz.underlying165
 a232 := Tryz.isAgg165
 z232 := Tryz.sizeOf165
 v232 := Tryz.zeroValue165
 t233 := Tryz.underlying166
 a233 := Tryz.isAgg166
 z233 := Tryz.sizeOf166
 v233 := Tryz.zeroValue166
 g17 := by kernel_rfl
 g18 := by kernel_rfl
 g19 := by kernel_rfl
 i0 := by kernel_rfl
 i2 := by kernel_rfl
 i3 := by kernel_rfl
 i4 := by kernel_rfl
 i5 := by kernel_rfl
 i9 := by kernel_rfl
 i20 := by kernel_rfl
 i37 := by kernel_rfl
 i46 := by kernel_rfl
 i51 := by kernel_rfl
 i53 := by kernel_rfl
 i171 := by kernel_rfl
 i173 := by kernel_rfl
 i212 := by kernel_rfl
 i232 := by kernel_rfl
 i233 := by kernel_rfl
 m17 := by kernel_rfl
 m18 := by kernel_rfl
 m19 := by kernel_rfl }
open Go.RowKit Go.Sort Go.Lib in
theorem Tryz.strconv_Itoa (n : Int) (h0 : -9223372036854775808 ≤ n) (h1 : n ≤ 9223372036854775807) (w : World) (htab : Lib.TabIs Tryz.prog w "internal/strconv.uint64pow10" .u64 Lib.pow10Tab) :
  Calls Tryz.prog 45 #[.int .i64 n] w fun e w' => e = .returned (.string ⟨(Lib.itoa n).toArray⟩) ∧ ∃ k os, w' = grow (w.drewN k) os := Any.strconv_Itoa Tryz.laysM171 n h0 h1 w htab
end Go.Proofs

/- strings.Join, Count, Split, laid at this translation. -/
namespace Go.Proofs
open Go.Shelf Go.RowKit
def Tryz.lays156_ren : Go.Shelf.Ren := ⟨fun | 156 => 66 | 165 => 79 | 166 => 21 | 169 => 23 | 240 => 44 | 241 => 97 | 276 => 64 | 277 => 111 | n => n, fun | 31 => 72 | 9 => 9 | 3 => 3 | 4 => 4 | 0 => 0 | 20 => 20 | 72 => 60 | 76 => 61 | 70 => 57 | 37 => 58 | 75 => 34 | 127 => 92 | 164 => 110 | 5 => 5 | 80 => 32 | n => n, fun | n => n⟩
theorem Tryz.lays156 : Go.Proofs.Lays.n156 Tryz.prog Tryz.lays156_ren := {
 mixed := by kernel_rfl
 f156 := Tryz.func66.trans (congrArg some (by kernel_rfl))
 f165 := Tryz.func79.trans (congrArg some (by kernel_rfl))
 f166 := Tryz.func21.trans (congrArg some (by kernel_rfl))
 f169 := Tryz.func23.trans (congrArg some (by kernel_rfl))
 f240 := Tryz.func44.trans (congrArg some (by kernel_rfl))
 f241 := Tryz.func97.trans (congrArg some (by kernel_rfl))
 f276 := Tryz.func64.trans (congrArg some (by kernel_rfl))
 f277 := Tryz.func111.trans (congrArg some (by kernel_rfl))
 t0 := Tryz.underlying0
 a0 := Tryz.isAgg0
 z0 := Tryz.sizeOf0
 v0 := Tryz.zeroValue0
 t3 := Tryz.underlying3
 a3 := Tryz.isAgg3
 z3 := Tryz.sizeOf3
 v3 := Tryz.zeroValue3
 t4 := Tryz.underlying4
 a4 := Tryz.isAgg4
 z4 := Tryz.sizeOf4
 v4 := Tryz.zeroValue4
 t9 := Tryz.underlying9
 a9 := Tryz.isAgg9
 z9 := Tryz.sizeOf9
 v9 := Tryz.zeroValue9
 t20 := Tryz.underlying20
 a20 := Tryz.isAgg20
 z20 := Tryz.sizeOf20
 v20 := Tryz.zeroValue20
 t31 := Tryz.underlying72
 a31 := Tryz.isAgg72
 z31 := Tryz.sizeOf72
 v31 := Tryz.zeroValue72
 t37 := Tryz.underlying58
 a37 := Tryz.isAgg58
 z37 := Tryz.sizeOf58
 v37 := Tryz.zeroValue58
 t70 := Tryz.underlying57
 a70 := Tryz.isAgg57
 z70 := Tryz.sizeOf57
 v70 := Tryz.zeroValue57
 t72 := Tryz.underlying60
 a72 := Tryz.isAgg60
 z72 := Tryz.sizeOf60
 v72 := Tryz.zeroValue60
 t75 := Tryz.underlying34
 a75 := Tryz.isAgg34
 z75 := Tryz.sizeOf34
 v75 := Tryz.zeroValue34
 t76 := Tryz.underlying61
 a76 := Tryz.isAgg61
 z76 := Tryz.sizeOf61
 v76 := Tryz.zeroValue61
 t127 := Tryz.underlying92
 a127 := Tryz.isAgg92
 z127 := Tryz.sizeOf92
 v127 := Tryz.zeroValue92
 t164 := Tryz.underlying110
 a164 := Tryz.isAgg110
 z164 := Tryz.sizeOf110
 v164 := Tryz.zeroValue110 }
theorem Tryz.Builder_Extra_156 : Builder.Extra Tryz.prog Tryz.lays156_ren := {
 sizeBuilder := by kernel_rfl
 liesBuilder := by kernel_rfl
 t5 := Tryz.underlying5
 a5 := Tryz.isAgg5
 z5 := Tryz.sizeOf5
 v5 := Tryz.zeroValue5
 infoByte := by kernel_rfl
 cellsByte := by kernel_rfl
 sizeByte := by kernel_rfl
 neB5 := by decide }
open Go.RowKit in
theorem Tryz.strings_Join (bk o c : Nat) (xs : List ByteArray) (sep : ByteArray) (w : World) (hcells : ∀ (j : Nat) x, xs[j]? = some x → w.cell? ⟨bk, o + j, none⟩ = some (.string x)) (hbk : bk < w.heap.size) (hN : xs.length ≤ 140737488355328) (hcap : xs.length ≤ c) (hlen : (Lib.join (xs.map (·.data.toList)) sep.data.toList).length ≤ 140737488355328) :
  Calls Tryz.prog 66 #[.slice (some ⟨bk, o, none⟩) xs.length c, .string sep] w fun e w' => e = .returned (.string ⟨(Lib.join (xs.map (·.data.toList)) sep.data.toList).toArray⟩) ∧ Below w.heap.size w w' := Any.strings_Join Tryz.lays156 Tryz.Builder_Extra_156 bk o c xs sep w hcells hbk hN hcap hlen
def Tryz.lays138_ren : Go.Shelf.Ren := ⟨fun | 138 => 104 | 195 => 114 | 218 => 116 | 143 => 105 | 219 => 68 | 217 => 80 | 225 => 81 | 224 => 82 | 267 => 83 | 266 => 98 | 314 => 99 | n => n, fun | 9 => 9 | 3 => 3 | 4 => 4 | 5 => 5 | 0 => 0 | 46 => 80 | 146 => 144 | 51 => 143 | n => n, fun | 1 => 0 | n => n⟩
theorem Tryz.lays138 : Go.Proofs.Lays.n138 Tryz.prog Tryz.lays138_ren := {
 mixed := by kernel_rfl
 f138 := Tryz.func104.trans (congrArg some (by kernel_rfl))
 f143 := Tryz.func105.trans (congrArg some (by kernel_rfl))
 f195 := Tryz.func114.trans (congrArg some (by kernel_rfl))
 f217 := Tryz.func80.trans (congrArg some (by kernel_rfl))
 f218 := Tryz.func116.trans (congrArg some (by kernel_rfl))
 f219 := Tryz.func68.trans (congrArg some (by kernel_rfl))
 f224 := Tryz.func82.trans (congrArg some (by kernel_rfl))
 f225 := Tryz.func81.trans (congrArg some (by kernel_rfl))
 f266 := Tryz.func98.trans (congrArg some (by kernel_rfl))
 f267 := Tryz.func83.trans (congrArg some (by kernel_rfl))
 f314 := Tryz.func99.trans (congrArg some (by kernel_rfl))
 t0 := Tryz.underlying0
 a0 := Tryz.isAgg0
 z0 := Tryz.sizeOf0
 v0 := Tryz.zeroValue0
 t3 := Tryz.underlying3
 a3 := Tryz.isAgg3
 z3 := Tryz.sizeOf3
 v3 := Tryz.zeroValue3
 t4 := Tryz.underlying4
 a4 := Tryz.isAgg4
 z4 := Tryz.sizeOf4
 v4 := Tryz.zeroValue4
 t5 := Tryz.underlying5
 a5 := Tryz.isAgg5
 z5 := Tryz.sizeOf5
 v5 := Tryz.zeroValue5
 t9 := Tryz.underlying9
 a9 := Tryz.isAgg9
 z9 := Tryz.sizeOf9
 v9 := Tryz.zeroValue9
 t46 := Tryz.underlying80
 a46 := Tryz.isAgg80
 z46 := Tryz.sizeOf80
 v46 := Tryz.zeroValue80
 t51 := Tryz.underlying143
 a51 := Tryz.isAgg143
 z51 := Tryz.sizeOf143
 v51 := Tryz.zeroValue143
 t146 := Tryz.underlying144
 a146 := Tryz.isAgg144
 z146 := Tryz.sizeOf144
 v146 := Tryz.zeroValue144
 g1 := by kernel_rfl }
open Go.RowKit Go.Lib in
theorem Tryz.strings_Count_one (s : ByteArray) (c : UInt8) (w : World) :
  Calls Tryz.prog 104 #[.string s, .string ⟨#[c]⟩] w fun e w' => e = .returned (.int .i64 (Lib.countByte s.data.toList c)) ∧ w' = w := Any.strings_Count_one Tryz.lays138 s c w
end Go.Proofs

/- pack.numbers: numbers' texts, with blanks between. -/
namespace Go.Proofs.YtjdnhdcaifogmaaGreatDoor
open Go.RowKit

def TabP (w : World) : Prop := Lib.TabIs Tryz.prog w "internal/strconv.uint64pow10" .u64 Lib.pow10Tab

theorem TabP.below {w w' : World} (h : TabP w) (hb : Below w.heap.size w w') : TabP w' := by
 unfold TabP Lib.TabIs World.var? at h ⊢
 obtain ⟨g, hg⟩ : ∃ g, Tryz.prog.globalNamed "internal/strconv.uint64pow10" = some g := by
  cases hg : Tryz.prog.globalNamed "internal/strconv.uint64pow10" with
  | none => rw [hg] at h; cases h
  | some g => exact ⟨g, rfl⟩
 rw [hg] at h ⊢
 simp only [Option.bind_some] at h ⊢
 have hlt : g < w.heap.size := by
  rcases Nat.lt_or_ge g w.heap.size with h' | h'
  ·exact h'
  ·rw [Array.getElem?_eq_none h'] at h; cases h
 rw [hb.block g hlt]
 exact h

def itoS (z : Int) : ByteArray := ⟨(Lib.itoa z).toArray⟩

def numT (g : List Int) : List UInt8 := Lib.join (g.map Lib.itoa) [32]

def TxP (w wr : World) (P : Nat) (zs : List Int) (k : Nat) : Prop :=
 wr.heap[P]? = some (.cells (Lib.cellsOf ((zs.take k).map itoS) zs.length) 9) ∧ Below w.heap.size w wr

theorem TxP.store {w wr : World} {P : Nat} {zs : List Int} {k : Nat} (h : TxP w wr P zs k) (hP : w.heap.size ≤ P) (hk : k < zs.length) : TxP w (wr.setCell ⟨P, k, none⟩ (.string (itoS (zs.getD k 0)))) P zs (k + 1) := by
 obtain ⟨h1, h2⟩ := h
 have hl : ((zs.take k).map itoS).length = k := by rw [List.length_map, List.length_take]; omega
 have hs := heap_setCell_same wr P k _ _ (.string (itoS (zs.getD k 0))) h1
 refine ⟨?_, h2.setCell (by exact hP) _⟩
 have e : (Lib.cellsOf ((zs.take k).map itoS) zs.length).setIfInBounds k (.string (itoS (zs.getD k 0))) = Lib.cellsOf ((zs.take (k + 1)).map itoS) zs.length := by
  have := Lib.cellsOf_set (done := (zs.take k).map itoS) (N := zs.length) (by omega) (itoS (zs.getD k 0))
  rw [hl] at this
  rw [this, List.take_succ_eq_append_getElem hk, List.map_append]
  simp [List.getD_eq_getElem?_getD, hk]
 rw [← e]
 exact hs

theorem TxP.full {w wr : World} {P : Nat} {zs : List Int} (h : TxP w wr P zs zs.length) : ∀ (j : Nat) x, (zs.map itoS)[j]? = some x → wr.cell? ⟨P, 0 + j, none⟩ = some (.string x) := fun j x hx => by
 have h1 := h.1
 rw [List.take_length] at h1
 have := World.news_of_block h1 j (.string x) (by
  unfold Lib.cellsOf
  rw [List.toList_toArray, List.getElem?_append_left (by rw [List.length_map]; exact (List.getElem?_eq_some_iff.1 hx).1), List.getElem?_map, hx]
  rfl)
 have e : (⟨P, 0, none⟩ : Addr).add j = ⟨P, 0 + j, none⟩ := by unfold Addr.add; split <;> simp_all
 rwa [e] at this

end Go.Proofs.YtjdnhdcaifogmaaGreatDoor
