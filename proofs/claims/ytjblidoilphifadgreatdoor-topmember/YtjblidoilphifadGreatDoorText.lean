/- Two lattices of rows of whole numbers. -/
import Derived.Test.YtjblidoilphifadGreatDoorLatL
import Derived.Test.YtjblidoilphifadGreatDoorDivL

namespace Go.Proofs.YtjblidoilphifadGreatDoor
open Go.RowKit Limbs Digs

/-- What Made answers, in one shape. -/
def MadeGot (w' : World) (nI : Int) (rs : List (List Int)) (i : Int) (o : Option Addr) (l c : Nat) (ok : Bool) : Prop :=
  (ok = false ∧ goodG nI rs = false) ∨ (ok = true ∧ goodG nI rs = true ∧ i = nI ∧ ∃ hs, LatN w' (.agg #[.int .i64 nI, .slice o l c]) nI.toNat hs 6 ∧ Alikes nI.toNat (InL hs) (InL rs))

theorem made_one_shape (w : World) (nI : Int) (go : Option Addr) (gcap : Nat) (rs : List (List Int)) (hv : RowsS w (.slice go rs.length gcap) rs) :
    Calls Tryz.prog 23 #[.agg #[.int .i64 nI, .slice go rs.length gcap]] w fun e w' => Below w.heap.size w w' ∧ ∃ i o l c m ok, e = .returned (.tuple #[.agg #[.int .i64 i, .slice o l c], m, .bool ok]) ∧ MadeGot w' nI rs i o l c ok := by
  refine (made_any w nI go gcap rs hv).mono fun e w' ⟨hb, hc⟩ => ⟨hb, ?_⟩
  rcases hc with ⟨hg, rfl⟩ | ⟨hg, u, m, hs, rfl, hl, ha⟩
  · exact ⟨_, _, _, _, _, _, rfl, .inl ⟨rfl, hg⟩⟩
  · have hl' := hl
    obtain ⟨⟨u', e, ⟨o, c, rfl, -, -⟩⟩, -⟩ := hl
    simp only [Value.agg.injEq, Array.mk.injEq, List.cons.injEq, and_true] at e
    obtain ⟨-, rfl⟩ := e
    exact ⟨_, _, _, _, _, _, rfl, .inr ⟨rfl, hg, rfl, hs, hl', ha⟩⟩

theorem MadeGot.keep {w w' : World} {nI : Int} {rs : List (List Int)} {i : Int} {o : Option Addr} {l c : Nat} {ok : Bool} (h : MadeGot w nI rs i o l c ok) (hk : ∀ v n hs nv, 1 ≤ n → LatN w v n hs nv → LatN w' v n hs nv) : MadeGot w' nI rs i o l c ok := by
  rcases h with h | ⟨h1, h2, h3, hs, h4, h5⟩
  · exact .inl h
  · have hn : 1 ≤ nI.toNat := by
      have h2' := h2
      unfold goodG at h2'
      rw [Bool.and_eq_true, decide_eq_true_eq] at h2'
      omega
    exact .inr ⟨h1, h2, h3, hs, hk _ _ _ _ hn h4, h5⟩

theorem LatN.store {W : World} {B : Nat} {v : Value} {n : Nat} {hs : List (List Int)} {nv : Nat} {x : Int} (y z : Value) (h1 : 1 ≤ n) (h : LatN W v n hs nv) (hb : Box W B (.int .i64 x) (.slice none 0 0)) : LatN ((W.setCell ⟨B, 0, none⟩ y).setCell ⟨B, 1, none⟩ z) v n hs nv := by
  obtain ⟨⟨u, e, hu⟩, p, hp⟩ := h
  exact ⟨⟨u, e, hu.setBasis _ _ (fun zs hz => by rw [hp.len zs hz]; omega) hb.1 hb.2.1⟩, p, hp⟩

/-- What two answers. -/
def TwoPost (w : World) (nA nB : Int) (ra rb : List (List Int)) (e : Ending) (w' : World) : Prop :=
  Below w.heap.size w w' ∧ ∃ i1 o1 l1 c1 i2 o2 l2 c2 ok too, e = .returned (.tuple #[.agg #[.int .i64 i1, .slice o1 l1 c1], .agg #[.int .i64 i2, .slice o2 l2 c2], .bool (ok && too && decide (nA = nB))]) ∧ MadeGot w' nA ra i1 o1 l1 c1 ok ∧ MadeGot w' nB rb i2 o2 l2 c2 too

end Go.Proofs.YtjblidoilphifadGreatDoor

/- A number's text. -/
namespace Go.Proofs.YtjblidoilphifadGreatDoor
open Go.RowKit Limbs

/-- so many decimal digits of a number -/
def pad : Nat → Nat → List UInt8
  | 0, _ => []
  | k + 1, g => pad k (g / 10) ++ [UInt8.ofNat (48 + g % 10)]

theorem pad_length (k g : Nat) : (pad k g).length = k := by
  induction k generalizing g with
  | zero => rfl
  | succ k ih => simp [pad, ih]

theorem decDigits_pad (k : Nat) : ∀ q g : Nat, 1 ≤ q → g < 10 ^ k → Lib.decDigits (q * 10 ^ k + g) = Lib.decDigits q ++ pad k g := by
  induction k with
  | zero => intro q g _ hg; have : g = 0 := by simpa using hg
            subst this; simp [pad]
  | succ k ih =>
    intro q g hq hg
    have e1 : q * 10 ^ (k + 1) = 10 * (q * 10 ^ k) := by rw [Nat.pow_succ, ← Nat.mul_assoc, Nat.mul_comm]
    have e0 : 0 < q * 10 ^ k := Nat.mul_pos (by omega) (Nat.pow_pos (by decide))
    have hg' : g / 10 < 10 ^ k := by rw [Nat.pow_succ] at hg; omega
    rw [Lib.decDigits, dif_neg (by omega)]
    have e2 : (q * 10 ^ (k + 1) + g) / 10 = q * 10 ^ k + g / 10 := by omega
    have e3 : (q * 10 ^ (k + 1) + g) % 10 = g % 10 := by omega
    rw [e2, e3, ih q (g / 10) hq hg', List.append_assoc]
    rfl

theorem decDigits_len (u : Nat) : (Lib.decDigits u).length ≤ u + 1 ∧ 1 ≤ (Lib.decDigits u).length := by
  induction u using Nat.strongRecOn with
  | _ u ih =>
    rw [Lib.decDigits]
    by_cases h : u < 10
    · rw [dif_pos h]; simp
    · rw [dif_neg h]
      have := ih (u / 10) (by omega)
      simp
      omega

theorem nine (g : Nat) (hg : g < 1000000000) : (Lib.decDigits (1000000000 + g)).drop 1 = pad 9 g := by
  have := decDigits_pad 9 1 g (Nat.le_refl _) hg
  rw [show 1 * 10 ^ 9 + g = 1000000000 + g by omega] at this
  rw [this, Lib.decDigits_one (by decide)]
  rfl

theorem group_digits (q g : Nat) (hq : 1 ≤ q) (hg : g < 1000000000) : Lib.decDigits (q * 1000000000 + g) = Lib.decDigits q ++ pad 9 g := decDigits_pad 9 q g hq hg

theorem gv_nonneg {gs : List Int} (h : ∀ g ∈ gs, 0 ≤ g ∧ g < 1000000000) : 0 ≤ gv gs := by
  induction gs with
  | nil => simp [gv]
  | cons x xs ih => have := ih fun g hg => h g (by simp [hg]); have := h x (by simp); simp only [gv]; omega

theorem gv_pos {gs : List Int} (h : ∀ g ∈ gs, 0 ≤ g ∧ g < 1000000000) (hl : gs.length ≠ 0) (hn : gs.getD (gs.length - 1) 0 ≠ 0) : 0 < gv gs := by
  induction gs with
  | nil => simp at hl
  | cons x xs ih =>
    have hx := h x (by simp)
    have hxs : ∀ g ∈ xs, 0 ≤ g ∧ g < 1000000000 := fun g hg => h g (by simp [hg])
    have h0 := gv_nonneg hxs
    simp only [gv]
    by_cases e : xs.length = 0
    · have : xs = [] := List.eq_nil_of_length_eq_zero e
      subst this
      simp at hn
      simp [gv]; omega
    · have := ih hxs e (by
        have e2 : (x :: xs).length - 1 = (xs.length - 1) + 1 := by simp; omega
        rw [e2, List.getD_cons_succ] at hn; exact hn)
      omega

/-- the digits of the groups from a place on -/
theorem text_step {gs : List Int} (h : ∀ g ∈ gs, 0 ≤ g ∧ g < 1000000000) (hn : gs.getD (gs.length - 1) 0 ≠ 0) {p : Nat} (hp : p + 1 < gs.length) :
    Lib.decDigits (gv (gs.drop p)).toNat = Lib.decDigits (gv (gs.drop (p + 1))).toNat ++ pad 9 (gs.getD p 0).toNat := by
  have hm : gs.getD p 0 ∈ gs := by rw [List.getD_eq_getElem?_getD, List.getElem?_eq_getElem (by omega)]; exact List.getElem_mem _
  have hg := h _ hm
  have hd : ∀ g ∈ gs.drop (p + 1), 0 ≤ g ∧ g < 1000000000 := fun g hg => h g (List.mem_of_mem_drop hg)
  have hl : (gs.drop (p + 1)).length = gs.length - (p + 1) := List.length_drop
  have h1 := gv_pos hd (by omega) (by rw [getD_drop, hl, show p + 1 + (gs.length - (p + 1) - 1) = gs.length - 1 by omega]; exact hn)
  have e : gs.drop p = gs.getD p 0 :: gs.drop (p + 1) := drop_cons_getD gs p (by omega)
  rw [e]
  simp only [gv]
  rw [← group_digits _ _ (by omega) (by omega)]
  congr 1
  omega

/-- what the number's text is -/
def txt (z : Int) : List UInt8 := Lib.itoa z

/-- The text comes back. -/
def TextPost (w : World) (z : Int) (e : Ending) (w' : World) : Prop := e = .returned (.string ⟨(txt z).toArray⟩) ∧ Below w.heap.size w w'

end Go.Proofs.YtjblidoilphifadGreatDoor
