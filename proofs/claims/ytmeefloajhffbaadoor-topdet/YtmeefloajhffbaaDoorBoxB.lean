/- mat.rowWith: the first row that isn't nought in a place. -/
import Derived.Test.YtmeefloajhffbaaDoorFormB
import Derived.Test.YtmeefloajhffbaaDoorMatChk
import Derived.Test.YtmeefloajhffbaaDoorTags

namespace Go.Proofs.YtmeefloajhffbaaDoor
open Go.RowKit Limbs

def RowPost (w : World) (n k : Nat) (ms : List (List Int)) (e : Ending) (w' : World) : Prop :=
  Below w.heap.size w w' ∧ ((e = .returned (.int .i64 (-1)) ∧ ∀ i, k ≤ i → i < n → ent ms i k = 0) ∨ ∃ f : Nat, e = .returned (.int .i64 (f : Int)) ∧ k ≤ f ∧ f < n ∧ ent ms f k ≠ 0)

set_option linter.unusedSimpArgs false in
set_option maxRecDepth 100000 in
set_option maxHeartbeats 3200000 in
theorem rowWith_any (w : World) (va : Value) (n nv k : Nat) (ms : List (List Int)) (ha : MatN w va ms nv) (hl : ∀ u ∈ ms, u.length = n) (hm : ms.length = n) (hk : k < n) (hn : n ≤ 100) :
    Calls Tryd.prog 24 #[va, .int .i64 (k : Int)] w fun e w' => RowPost w n k ms e w' := by
  have HA := hide ha; have HL := hide hl; have HM := hide hm
  obtain ⟨ao, cap, rfl, -, -⟩ := ha
  clear hl hm
  obtain ⟨mb, moff, _, e, lm, -⟩ := HA.out.at 0 (by have := HM.out; omega)
  simp only [Value.slice.injEq, true_and] at e
  obtain ⟨rfl, rfl⟩ := e
  have hl1 : ms.length ≤ 100 := by have := HM.out; omega
  have hl2 : k < ms.length := by have := HM.out; omega
  go_enter Tryd.func24, Tryd.ntmps24
  go_wp2
  go_loopw [10] (fun x wr => ∃ j : Nat, k + j ≤ n ∧ x = .int .i64 j ∧ Hid (∀ i, k ≤ i → i < k + j → ent ms i k = 0) ∧ Hid (Below w.heap.size w wr)) (fun x _ => n - (intOf x).toNat)
  case atStart => exact ⟨0, by omega, rfl, hide (fun i h1 h2 => absurd h2 (by omega)), hide (Below.refl _ _)⟩
  case round =>
    obtain ⟨j, hj, rfl, HZ, HB⟩ := hrel
    by_cases hjl : k + j < n
    · have g1 : decide ((j : Int) < (ms.length : Int) - (k : Int)) = true := decide_eq_true (by have := HM.out; omega)
      obtain ⟨h, hh⟩ : ∃ h : Nat, k + j = h := ⟨_, rfl⟩
      have hjc : (k : Int) + (j : Int) = (h : Int) := by omega
      have hhl : h < ms.length := by have := HM.out; omega
      obtain ⟨_, _, _, e, -, ru, cu, hu⟩ := (HA.out.below HB.out (Nat.le_refl _)).at h hhl
      simp only [Value.slice.injEq, Option.some.injEq, Addr.mk.injEq, and_true, true_and] at e
      obtain ⟨⟨rfl, rfl⟩, rfl⟩ := e
      have hul := HL.out _ (List.getElem_mem hhl)
      have HEN : Hid (ent ms h k = ms[h].getD k 0) := by show _ = _; unfold ent; rw [getD_row hhl]
      generalize ms[h] = us at *
      obtain ⟨ub, uoff, ucap, rfl⟩ := hu.form (by omega)
      obtain ⟨lu, neg, o, l, c, d0, d1, nz⟩ := hu.at k (by omega)
      have NZ := hide nz; have HUL := hide hul; have HH := hide hh
      have hku : k < us.length := by omega
      have lmr := Nat.lt_of_lt_of_le lm HB.out.size
      clear nz hul hu hh
      generalize us.getD k 0 = z at *
      go_wp2_with fail
      refine (zero_any wr _ z nv (by exact NZ.out)).mono ?_
      rintro e w1 ⟨rfl, hb1⟩
      have HB1 := hide (HB.out.trans (hb1.mono HB.out.size))
      clear hb1 cu d0 d1
      by_cases hz : z = 0
      · have g2 : decide (z = 0) = true := decide_eq_true hz
        have HZ1 : Hid (∀ i, k ≤ i → i < k + (j + 1) → ent ms i k = 0) := fun i h1 h2 => by
          by_cases e : i < k + j
          · exact HZ.out i h1 e
          · rw [show i = h by have := HH.out; omega, HEN.out]; exact hz
        clear hz
        go_wp2
        go_roundw
        case rel => exact ⟨j + 1, by omega, by go_num, HZ1, HB1⟩
        case measure => simp [intOf]; omega
      · have g2 : decide (z = 0) = false := decide_eq_false hz
        have HP : Hid (RowPost w n k ms (.returned (.int .i64 (h : Int))) w1) := ⟨HB1.out, .inr ⟨h, rfl, by have := HH.out; omega, by have := HH.out; omega, by rw [HEN.out]; exact hz⟩⟩
        clear hz
        go_wp2
        go_ret
        exact HP.out
    · have g1 : decide ((j : Int) < (ms.length : Int) - (k : Int)) = false := decide_eq_false (by have := HM.out; omega)
      have HP : Hid (RowPost w n k ms (.returned (.int .i64 (-1))) wr) := ⟨HB.out, .inl ⟨rfl, fun i h1 h2 => HZ.out i h1 (by omega)⟩⟩
      go_wp2
      go_ret
      exact HP.out

end Go.Proofs.YtmeefloajhffbaaDoor

/- Regions that draw their order, and make, and call: what each operation answered stands while others come up; the last one may write. -/
namespace Go.Proofs.YtmeefloajhffbaaDoor
open Go.RowKit Limbs

/-- What holds while operations come up: kv: the values that are known ahead; Sp: what is known of the others. -/
structure FS (deps : Nat → List Nat) (kv : Nat → Option Value) (Sp : Nat → (Nat → Value) → World → Prop) (w : World) (L : Array Bool) (c : Nat → Value) (W : World) : Prop where
  below : Below w.heap.size w W
  plain : ∀ i v, L.getD i false = true → kv i = some v → c i = v
  spec : ∀ i, L.getD i false = true → Sp i c W
  closed : ∀ i, L.getD i false = true → ∀ j ∈ deps i, L.getD j false = true

/-- What is known stays where others make, and hangs on the values of its own operations alone. -/
structure Stays (deps : Nat → List Nat) (Sp : Nat → (Nat → Value) → World → Prop) : Prop where
  later : ∀ i c W W', Below W.heap.size W W' → Sp i c W → Sp i c W'
  other : ∀ i j c v W, j ≠ i → i ∉ deps j → Sp j c W → Sp j (upd c i v) W

variable {deps : Nat → List Nat} {kv : Nat → Option Value} {Sp : Nat → (Nat → Value) → World → Prop} {Fin : (Nat → Value) → World → Prop} {w W W' : World} {L : Array Bool} {c : Nat → Value}

theorem FS.start (w : World) (n : Nat) (c : Nat → Value) : FS deps kv Sp w (Array.replicate n false) c w.drew where
  below := (Below.refl _ _).drew
  plain := fun i _ h => by simp [Array.getD] at h
  spec := fun i h => by simp [Array.getD] at h
  closed := fun i h => by simp [Array.getD] at h

theorem FS.made (h : FS deps kv Sp w L c W) (hst : Stays deps Sp) {i : Nat} (hn : L.getD i true = false) (hd : ∀ j ∈ deps i, L.getD j false = true) (hb : Below W.heap.size W W') {v : Value} (hk : ∀ u, kv i = some u → v = u) (hnew : Sp i (upd c i v) W') :
    FS deps kv Sp w (L.setIfInBounds i true) (upd c i v) W' where
  below := h.below.trans (hb.mono h.below.size)
  plain := fun j u hj hu => by
    by_cases e : j = i
    · subst e; rw [upd_self]; exact hk u hu
    · rw [upd_ne _ _ e]; exact h.plain j u (listed_old (fun e' => e e'.symm) hj) hu
  spec := fun j hj => by
    by_cases e : j = i
    · subst e; exact hnew
    · have hj' := listed_old (fun e' => e e'.symm) hj
      exact hst.other _ _ _ _ _ e (fun hm => listed_not hn (h.closed j hj' i hm)) (hst.later _ _ _ _ hb (h.spec j hj'))
  closed := fun j hj k hjk => by
    by_cases ek : i = k
    · subst ek; exact listed_new hn
    · rw [getD_set_ne false ek]
      by_cases e : j = i
      · subst e; exact hd k hjk
      · exact h.closed j (listed_old (fun e' => e e'.symm) hj) k hjk

/-- The same, with a last operation (m), behind which Fin holds. -/
def FSx (deps : Nat → List Nat) (kv : Nat → Option Value) (Sp : Nat → (Nat → Value) → World → Prop) (Fin : (Nat → Value) → World → Prop) (w : World) (m : Nat) (L : Array Bool) (c : Nat → Value) (W : World) : Prop :=
  (L.getD m false = false ∧ FS deps kv Sp w L c W) ∨ ((∀ i, i ≤ m → L.getD i false = true) ∧ Fin c W)

theorem FSx.start (w : World) (n m : Nat) (c : Nat → Value) : FSx deps kv Sp Fin w m (Array.replicate n false) c w.drew :=
  .inl ⟨by simp [Array.getD], FS.start w n c⟩

theorem FSx.pre {m : Nat} (h : FSx deps kv Sp Fin w m L c W) {i : Nat} (hi : i ≤ m) (hn : L.getD i true = false) : L.getD m false = false ∧ FS deps kv Sp w L c W := by
  rcases h with h | ⟨h, -⟩
  · exact h
  · exact absurd (h i hi) (listed_not hn)

theorem FS.next {m i : Nat} (h : FS deps kv Sp w (L.setIfInBounds i true) c W) (hne : i ≠ m) (hm : L.getD m false = false) : FSx deps kv Sp Fin w m (L.setIfInBounds i true) c W :=
  .inl ⟨by rw [getD_set_ne false hne]; exact hm, h⟩

theorem FSx.last {m : Nat} (hall : ∀ j, j < m → L.getD j false = true) (hn : L.getD m true = false) (hf : Fin c W) : FSx deps kv Sp Fin w m (L.setIfInBounds m true) c W :=
  .inr ⟨fun j hj => by
    by_cases e : m = j
    · subst e; exact listed_new hn
    · rw [getD_set_ne false e]; exact hall j (by omega), hf⟩

theorem FSx.fin {m : Nat} (h : FSx deps kv Sp Fin w m L c W) (hall : L.getD m false = true) : Fin c W := by
  rcases h with ⟨h, -⟩ | ⟨-, h⟩
  · rw [hall] at h; cases h
  · exact h

end Go.Proofs.YtmeefloajhffbaaDoor

/- A variable that lies there. -/
namespace Go.Proofs.YtmeefloajhffbaaDoor
open Go.RowKit Limbs

/-- A variable of two cells that lies there. -/
def BoxL (W : World) (B : Nat) (u0 u1 : Value) : Prop := Box W B u0 u1 ∧ B < W.heap.size

theorem BoxL.later {W W' : World} {B : Nat} {u0 u1 : Value} (h : BoxL W B u0 u1) (hb : Below W.heap.size W W') : BoxL W' B u0 u1 := ⟨h.1.later hb h.2, Nat.lt_of_lt_of_le h.2 hb.size⟩

theorem BoxL.new (W : World) (u0 u1 : Value) (t : TypeId) : BoxL (W.alloc (.cells #[u0, u1] t)) W.heap.size u0 u1 := ⟨box_new W u0 u1 t _ rfl, by simp⟩

theorem below_new (W : World) (ob : Obj) : Below W.heap.size W (W.alloc ob) := (Below.refl _ _).alloc (Nat.le_refl _) _

end Go.Proofs.YtmeefloajhffbaaDoor
