/- A disk: what it is, and how it lies in memory. -/
import Derived.Test.YtjgodhfnnifchaaRows
import Derived.Test.YtjgodhfnnifchaaRegions
import Derived.WalkKit
import Derived.WalkSpells
import Derived.WalkLawsBesides
import Derived.Laws.AppendOwn
import Derived.OwnWalk
namespace Go.Proofs.Ytjgodhfnnifchaa
open Go.RowKit

theorem hide {p : Prop} (h : p) : Hid p := h

theorem heap_lt {w : World} {b : Nat} {o : Obj} (h : w.heap[b]? = some o) : b < w.heap.size := by
  rcases Nat.lt_or_ge b w.heap.size with hlt | hge
  · exact hlt
  · rw [Array.getElem?_eq_none hge] at h; cases h

/-- A byte's cell. -/
def byteC (b : UInt8) : Value := .int .u8 (b.toNat : Int)

/-- A sector: what is kept of it; what was written over that, each with its bit. -/
structure Sec where
  kept : List UInt8
  loose : List (Int × List UInt8)

/-- A disk. -/
structure Dsk where
  secs : List Sec
  number : Nat
  left : Int
  down : Bool

def wcells (p : Int × List UInt8) : List Value := .int .u64 p.1 :: p.2.map byteC
def scells (s : Sec) (v : Value) : List Value := s.kept.map byteC ++ [v]

/-- All cells of the sectors, the lists of what is loose being these. -/
def dcells : List Sec → List Value → List Value
  | s :: ss, v :: vs => scells s v ++ dcells ss vs
  | _, _ => []

def Sec.ok (s : Sec) : Prop := s.kept.length = 64 ∧ ∀ p ∈ s.loose, p.2.length = 64 ∧ 0 ≤ p.1 ∧ p.1 < 18446744073709551616

/-- The types of a disk's own blocks. -/
def diskT (t : TypeId) : Prop := t = 74 ∨ t = 78 ∨ t = 88

theorem ownsLater {W W' : World} {base : Nat} {e : TypeId} {size : Nat} {v : Value} {n : Nat} {xs : List Value} (h : W.ownsRow base e size v n xs) (hb : Below W.heap.size W W') : W'.ownsRow base e size v n xs := by
  refine ⟨h.1, ?_⟩
  rcases h.2 with hn | ⟨g, cap, cur, e, hbg, hh, rest⟩
  · exact .inl hn
  · exact .inr ⟨g, cap, cur, e, hbg, (hb.block _ (heap_lt hh)).trans hh, rest⟩

/-- A disk in memory. -/
structure DiskM (W : World) (base B : Nat) (D : Dsk) (sv : Value) (ls : List Value) : Prop where
  low : base ≤ B
  head : W.heap[B]? = some (.cells #[sv, .int .i64 (D.number : Int), .int .i64 D.left, .bool D.down] 74 (0, 0))
  len : ls.length = D.secs.length
  own : W.ownsRow base 78 65 sv D.secs.length (dcells D.secs ls)
  loose : ∀ (i : Nat) (s : Sec) (v : Value), D.secs[i]? = some s → ls[i]? = some v → W.ownsRow base 88 65 v s.loose.length (s.loose.flatMap wcells)
  apart : ∀ (i j : Nat) (v v' : Value) (g : Nat), i ≠ j → ls[i]? = some v → ls[j]? = some v' → v.ownBlock = some g → v'.ownBlock ≠ some g
  ok : ∀ s ∈ D.secs, s.ok
  num : D.number < 64
  left : -9223372036854775808 ≤ D.left ∧ D.left ≤ 9223372036854775807

def DiskO (W : World) (base B : Nat) (D : Dsk) : Prop := ∃ sv ls, DiskM W base B D sv ls

/-- What is no block of a disk's stays. -/
structure Kept (base : Nat) (W W' : World) : Prop where
  os : W'.os = W.os
  tape : W'.tape = W.tape
  output : W'.output = W.output
  size : W.heap.size ≤ W'.heap.size
  block : ∀ b, b < W.heap.size → (b < base ∨ ∀ cs t fz, W.heap[b]? = some (.cells cs t fz) → ¬ diskT t) → W'.heap[b]? = W.heap[b]?

theorem Kept.refl (base : Nat) (W : World) : Kept base W W := ⟨rfl, rfl, rfl, Nat.le_refl _, fun _ _ _ => rfl⟩

theorem Kept.trans {base : Nat} {a b c : World} (h : Kept base a b) (k : Kept base b c) : Kept base a c :=
  ⟨k.os.trans h.os, k.tape.trans h.tape, k.output.trans h.output, Nat.le_trans h.size k.size, fun i hi ho => by
    have e := h.block i hi ho
    refine (k.block i (Nat.lt_of_lt_of_le hi h.size) ?_).trans e
    rcases ho with ho | ho
    · exact .inl ho
    · exact .inr fun cs t fz hx => ho cs t fz (by rw [← e]; exact hx)⟩

theorem Kept.below {base : Nat} {W W' : World} (h : Kept base W W') (hb : base ≤ W.heap.size) : Below base W W' :=
  ⟨h.os, h.tape, h.output, h.size, fun b hlt => h.block b (by omega) (.inl hlt)⟩

theorem Kept.of_below {base : Nat} {W W' : World} (h : Below W.heap.size W W') : Kept base W W' :=
  ⟨h.os, h.tape, h.output, h.size, fun b hb _ => h.block b hb⟩

theorem DiskM.lt {W : World} {base B : Nat} {D : Dsk} {sv : Value} {ls : List Value} (h : DiskM W base B D sv ls) : B < W.heap.size := heap_lt h.head

theorem DiskM.later {W W' : World} {base B : Nat} {D : Dsk} {sv : Value} {ls : List Value} (h : DiskM W base B D sv ls) (hb : Below W.heap.size W W') : DiskM W' base B D sv ls where
  low := h.low
  head := (hb.block _ (heap_lt h.head)).trans h.head
  len := h.len
  own := ownsLater h.own hb
  loose := fun i s v hs hv => ownsLater (h.loose i s v hs hv) hb
  apart := h.apart
  ok := h.ok
  num := h.num
  left := h.left

theorem DiskM.cells {W : World} {base B : Nat} {D : Dsk} {sv : Value} {ls : List Value} (h : DiskM W base B D sv ls) :
    W.cell? ⟨B, 0, none⟩ = some sv ∧ W.cell? ⟨B, 1, none⟩ = some (.int .i64 (D.number : Int)) ∧ W.cell? ⟨B, 2, none⟩ = some (.int .i64 D.left) ∧ W.cell? ⟨B, 3, none⟩ = some (.bool D.down) ∧ ∀ k, W.frozen? ⟨B, k, none⟩ = false := by
  refine ⟨?_, ?_, ?_, ?_, fun k => by simp [World.frozen?, h.head]⟩
  · rw [cell_of_row W B 0 _ _ _ h.head]; rfl
  · rw [cell_of_row W B 1 _ _ _ h.head]; rfl
  · rw [cell_of_row W B 2 _ _ _ h.head]; rfl
  · rw [cell_of_row W B 3 _ _ _ h.head]; rfl

/-- The list of sectors: it lies somewhere, if there are any. -/
theorem DiskM.list {W : World} {base B : Nat} {D : Dsk} {sv : Value} {ls : List Value} (h : DiskM W base B D sv ls) (h0 : 0 < D.secs.length) : ∃ g cap, sv = .slice (some ⟨g, 0, none⟩) D.secs.length cap ∧ base ≤ g ∧ g < W.heap.size ∧ D.secs.length ≤ cap := by
  rcases h.own.2 with ⟨-, e⟩ | ⟨g, cap, cur, e, hb, hh, h1, -⟩
  · omega
  · exact ⟨g, cap, e, hb, heap_lt hh, h1⟩

end Go.Proofs.Ytjgodhfnnifchaa
