/- Regions that draw their order, and make, and call: what each operation answered stands while others come up; the last one may write. -/
import Derived.Test.YtdedolkgcdlmeaaGreatDoorTags
namespace Go.Proofs.YtdedolkgcdlmeaaGreatDoor
open Go.RowKit Limbs

/-- What holds while operations come up: kv: the values that are known ahead; Sp: what is known of the others. -/
structure FS (deps : Nat → List Nat) (kv : Nat → Option Value) (Sp : Nat → (Nat → Value) → World → Prop) (w : World) (L : Array Bool) (c : Nat → Value) (W : World) : Prop where
  below : Below w.heap.size w W
  plain : ∀ i v, L.getD i false = true → kv i = some v → c i = v
  spec : ∀ i, L.getD i false = true → Sp i c W
  closed : ∀ i, L.getD i false = true → ∀ j ∈ deps i, L.getD j false = true

/-- What is known stays where others make, and hangs on the values of its own operations alone. -/
structure Stays (deps : Nat → List Nat) (Sp : Nat → (Nat → Value) → World → Prop) : Prop where
  later : ∀ i c W W', Below W.heap.size W W' → Sp i c W → Sp i c W'
  other : ∀ i j c v W, j ≠ i → i ∉ deps j → Sp j c W → Sp j (upd c i v) W

variable {deps : Nat → List Nat} {kv : Nat → Option Value} {Sp : Nat → (Nat → Value) → World → Prop} {Fin : (Nat → Value) → World → Prop} {w W W' : World} {L : Array Bool} {c : Nat → Value}

theorem FS.start (w : World) (n : Nat) (c : Nat → Value) : FS deps kv Sp w (Array.replicate n false) c w.drew where
  below := (Below.refl _ _).drew
  plain := fun i _ h => by simp [Array.getD] at h
  spec := fun i h => by simp [Array.getD] at h
  closed := fun i h => by simp [Array.getD] at h

theorem FS.made (h : FS deps kv Sp w L c W) (hst : Stays deps Sp) {i : Nat} (hn : L.getD i true = false) (hd : ∀ j ∈ deps i, L.getD j false = true) (hb : Below W.heap.size W W') {v : Value} (hk : ∀ u, kv i = some u → v = u) (hnew : Sp i (upd c i v) W') :
    FS deps kv Sp w (L.setIfInBounds i true) (upd c i v) W' where
  below := h.below.trans (hb.mono h.below.size)
  plain := fun j u hj hu => by
    by_cases e : j = i
    · subst e; rw [upd_self]; exact hk u hu
    · rw [upd_ne _ _ e]; exact h.plain j u (listed_old (fun e' => e e'.symm) hj) hu
  spec := fun j hj => by
    by_cases e : j = i
    · subst e; exact hnew
    · have hj' := listed_old (fun e' => e e'.symm) hj
      exact hst.other _ _ _ _ _ e (fun hm => listed_not hn (h.closed j hj' i hm)) (hst.later _ _ _ _ hb (h.spec j hj'))
  closed := fun j hj k hjk => by
    by_cases ek : i = k
    · subst ek; exact listed_new hn
    · rw [getD_set_ne false ek]
      by_cases e : j = i
      · subst e; exact hd k hjk
      · exact h.closed j (listed_old (fun e' => e e'.symm) hj) k hjk

/-- The same, with a last operation (m), behind which Fin holds. -/
def FSx (deps : Nat → List Nat) (kv : Nat → Option Value) (Sp : Nat → (Nat → Value) → World → Prop) (Fin : (Nat → Value) → World → Prop) (w : World) (m : Nat) (L : Array Bool) (c : Nat → Value) (W : World) : Prop :=
  (L.getD m false = false ∧ FS deps kv Sp w L c W) ∨ ((∀ i, i ≤ m → L.getD i false = true) ∧ Fin c W)

theorem FSx.start (w : World) (n m : Nat) (c : Nat → Value) : FSx deps kv Sp Fin w m (Array.replicate n false) c w.drew :=
  .inl ⟨by simp [Array.getD], FS.start w n c⟩

theorem FSx.pre {m : Nat} (h : FSx deps kv Sp Fin w m L c W) {i : Nat} (hi : i ≤ m) (hn : L.getD i true = false) : L.getD m false = false ∧ FS deps kv Sp w L c W := by
  rcases h with h | ⟨h, -⟩
  · exact h
  · exact absurd (h i hi) (listed_not hn)

theorem FS.next {m i : Nat} (h : FS deps kv Sp w (L.setIfInBounds i true) c W) (hne : i ≠ m) (hm : L.getD m false = false) : FSx deps kv Sp Fin w m (L.setIfInBounds i true) c W :=
  .inl ⟨by rw [getD_set_ne false hne]; exact hm, h⟩

theorem FSx.last {m : Nat} (hall : ∀ j, j < m → L.getD j false = true) (hn : L.getD m true = false) (hf : Fin c W) : FSx deps kv Sp Fin w m (L.setIfInBounds m true) c W :=
  .inr ⟨fun j hj => by
    by_cases e : m = j
    · subst e; exact listed_new hn
    · rw [getD_set_ne false e]; exact hall j (by omega), hf⟩

theorem FSx.fin {m : Nat} (h : FSx deps kv Sp Fin w m L c W) (hall : L.getD m false = true) : Fin c W := by
  rcases h with ⟨h, -⟩ | ⟨-, h⟩
  · rw [hall] at h; cases h
  · exact h

end Go.Proofs.YtdedolkgcdlmeaaGreatDoor
