/- A disk beside an array of texts. -/
import Derived.Test.YtjgodhfnnifchaaDkM
import Derived.Laws.BitsLemmas
namespace Go.Proofs.Ytjgodhfnnifchaa
open Go.RowKit

/-- A block that is none of the disk's is written. -/
theorem DiskM.aside {W W' : World} {base B : Nat} {D : Dsk} {sv : Value} {ls : List Value} (h : DiskM W base B D sv ls) {b : Nat} {cs : Array Value} {t : TypeId} (hb : W.heap[b]? = some (.cells cs t (0, 0))) (ht : ¬ diskT t) (hk : ∀ c, c ≠ b → W'.heap[c]? = W.heap[c]?) : DiskM W' base B D sv ls where
  low := h.low
  head := by
    refine (hk B fun e => ?_).trans h.head
    subst e
    have := h.head
    rw [hb] at this
    simp only [Option.some.injEq, Obj.cells.injEq] at this
    exact ht (.inl this.2.1)
  len := h.len
  own := ownsAway h.own hb (fun e => ht (.inr (.inl e))) hk
  loose := fun i s v hs hv => ownsAway (h.loose i s v hs hv) hb (fun e => ht (.inr (.inr e))) hk
  apart := h.apart
  ok := h.ok
  num := h.num
  left := h.left

/-- Four texts. -/
def WantB (W : World) (b : Nat) (ws : List ByteArray) : Prop := W.heap[b]? = some (.cells (ws.map Value.string).toArray 66 (0, 0)) ∧ ws.length = 4

theorem want_type : ¬ diskT 66 := by unfold diskT; decide

theorem WantB.later {W W' : World} {b : Nat} {ws : List ByteArray} (h : WantB W b ws) (hb : Below W.heap.size W W') : WantB W' b ws := ⟨(hb.block b (heap_lt h.1)).trans h.1, h.2⟩

theorem WantB.kept {W W' : World} {b base : Nat} {ws : List ByteArray} (h : WantB W b ws) (hk : Kept base W W') : WantB W' b ws :=
  ⟨(hk.block b (heap_lt h.1) (.inr fun cs t fz e => by rw [h.1] at e; simp only [Option.some.injEq, Obj.cells.injEq] at e; rw [← e.2.1]; exact want_type)).trans h.1, h.2⟩

theorem WantB.cell {W : World} {b : Nat} {ws : List ByteArray} (h : WantB W b ws) (j : Nat) (t : ByteArray) (ht : ws[j]? = some t) : W.cell? ⟨b, j, none⟩ = some (.string t) := by
  rw [cell_of_row W b j _ _ _ h.1]
  simp [ht]

theorem WantB.thaw {W : World} {b : Nat} {ws : List ByteArray} (h : WantB W b ws) (j : Nat) : W.frozen? ⟨b, j, none⟩ = false := by simp [World.frozen?, h.1]

theorem WantB.set {W : World} {b : Nat} {ws : List ByteArray} (h : WantB W b ws) (j : Nat) (t : ByteArray) : WantB (W.setCell ⟨b, j, none⟩ (.string t)) b (ws.set j t) := by
  refine ⟨?_, by rw [List.length_set]; exact h.2⟩
  rw [heap_setCell_same W b j _ _ _ h.1]
  simp [List.map_set]

theorem WantB.disk {W : World} {b base B : Nat} {ws : List ByteArray} {D : Dsk} (h : WantB W b ws) (hd : DiskO W base B D) (j : Nat) (t : ByteArray) : DiskO (W.setCell ⟨b, j, none⟩ (.string t)) base B D := by
  obtain ⟨sv, ls, hm⟩ := hd
  exact ⟨sv, ls, hm.aside h.1 want_type (fun c hc => heap_setCell_other _ _ _ _ (fun e => hc e))⟩

theorem DiskO.later {W W' : World} {base B : Nat} {D : Dsk} (h : DiskO W base B D) (hb : Below W.heap.size W W') : DiskO W' base B D := by
  obtain ⟨sv, ls, h⟩ := h
  exact ⟨sv, ls, h.later hb⟩

/-- The texts are what would be there. -/
def Wanted (keep : Int) (D : Dsk) (ws : List ByteArray) : Prop := ∀ (j : Nat) (s : Sec), D.secs[j]? = some s → ws[j]? = some (⟨(wantL keep s).toArray⟩ : ByteArray)

theorem wantL_snoc (keep : Int) (s : Sec) (p : Int × List UInt8) : wantL keep { s with loose := s.loose ++ [p] } = keepOne keep (wantL keep s) p := by
  unfold wantL
  rw [List.foldl_append]; rfl

/-- A write that isn't kept. -/
theorem Wanted.skip {keep : Int} {D : Dsk} {ws : List ByteArray} (h : Wanted keep D ws) (i : Nat) (s : Sec) (hs : D.secs[i]? = some s) (l : List UInt8) (hk : bits .and .u64 ((2 ^ D.number : Nat) : Int) keep = 0) : Wanted keep (D.wrote i s l) ws := fun j s' hs' => by
  have hi := (List.getElem?_eq_some_iff.1 hs).1
  simp only [Dsk.wrote, List.getElem?_set] at hs'
  split at hs'
  · rename_i e
    subst e
    have e1 := Option.some.inj hs'
    rw [← e1, wantL_snoc]
    have e2 : keepOne keep (wantL keep s) (((2 ^ D.number : Nat) : Int), padded l) = wantL keep s := if_pos hk
    rw [e2]
    exact h _ s hs
  · exact h j s' hs'

/-- A write that is kept. -/
theorem Wanted.put {keep : Int} {D : Dsk} {ws : List ByteArray} (h : Wanted keep D ws) (hw : ws.length = D.secs.length) (i : Nat) (s : Sec) (hs : D.secs[i]? = some s) (l : List UInt8) (hk : ¬ bits .and .u64 ((2 ^ D.number : Nat) : Int) keep = 0) : Wanted keep (D.wrote i s l) (ws.set i ⟨(padded l).toArray⟩) := fun j s' hs' => by
  have hi := (List.getElem?_eq_some_iff.1 hs).1
  simp only [Dsk.wrote, List.getElem?_set] at hs' ⊢
  split at hs'
  · rename_i e
    subst e
    have e1 := Option.some.inj hs'
    rw [if_pos rfl, if_pos (by omega), ← e1, wantL_snoc]
    have e2 : keepOne keep (wantL keep s) (((2 ^ D.number : Nat) : Int), padded l) = padded l := if_neg hk
    rw [e2]
  · rename_i e
    rw [if_neg e]
    exact h j s' hs'

theorem wrote_seen (D : Dsk) (s : Sec) (l : List UInt8) : Sec.seen { s with loose := s.loose ++ [(((2 ^ D.number : Nat) : Int), padded l)] } = padded l := by
  simp [Sec.seen]

theorem writeErr_some (D : Dsk) (at' : Int) (t : ByteArray) (h : ¬ ((0 ≤ at' ∧ at' < D.secs.length) ∧ t.size ≤ 64)) : ∃ z, writeErr D at' t = errno z := by
  unfold writeErr
  split
  · split
    · rename_i h1 h2
      exact absurd ⟨h1, h2⟩ h
    · exact ⟨6, rfl⟩
  · exact ⟨1, rfl⟩

end Go.Proofs.Ytjgodhfnnifchaa
