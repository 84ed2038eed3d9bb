/- The one form, column by column, as the reference makes it. No Go in it. -/
import Derived.Test.YtdedolkgcdlmeaaGreatDoorOnes
namespace Go.Proofs.YtdedolkgcdlmeaaGreatDoor
open Go.RowKit Limbs

/-- The row, or its opposite. -/
def upR (r : List Int) (c : Nat) : List Int := if r.getD c 0 < 0 then List.zipWith (fun a b => -1 * a + 0 * b) r r else r

/-- What stands behind c columns. -/
def outN (R : Nat → Option (List Int)) : Nat → List (List Int)
  | 0 => []
  | c + 1 => match R c with
    | none => outN R c
    | some r => (outN R c).map (fun u => lowRow u (upR r c) c) ++ [upR r c]

theorem upR_eq (r : List Int) (c : Nat) : upR r c = r ∨ upR r c = r.map (-1 * ·) := by
  unfold upR
  split
  · right
    exact map_one.symm
  · exact .inl rfl

theorem upR_len (r : List Int) (c : Nat) : (upR r c).length = r.length := by
  rcases upR_eq r c with h | h <;> rw [h]
  exact List.length_map ..

theorem upR_zero {r : List Int} {c b : Nat} (h : r.getD b 0 = 0) : (upR r c).getD b 0 = 0 := by
  rcases upR_eq r c with e | e <;> rw [e]
  · exact h
  · rw [List.getD_eq_getElem?_getD, List.getElem?_map] at *
    cases e2 : r[b]? with
    | none => rfl
    | some x => rw [e2] at h; simp at h ⊢; exact h

theorem upR_pos {r : List Int} {c : Nat} (hc : c < r.length) (h : r.getD c 0 ≠ 0) : 0 < (upR r c).getD c 0 := by
  unfold upR
  split
  · rw [zip_getD _ _ _ rfl c hc]; omega
  · omega

theorem lowRow_len {u r : List Int} (h : u.length = r.length) (c : Nat) : (lowRow u r c).length = u.length := zip_len _ _ _ h

theorem lowRow_ahead {u r : List Int} (h : u.length = r.length) {c b : Nat} (hb : b < u.length) (hz : r.getD b 0 = 0) : (lowRow u r c).getD b 0 = u.getD b 0 := by
  unfold lowRow
  rw [zip_getD _ _ _ h b hb, hz]
  omega

theorem lowRow_at {u r : List Int} (h : u.length = r.length) {c : Nat} (hc : c < u.length) (hp : 0 < r.getD c 0) : 0 ≤ (lowRow u r c).getD c 0 ∧ (lowRow u r c).getD c 0 < r.getD c 0 := by
  unfold lowRow
  rw [zip_getD _ _ _ h c hc]
  generalize u.getD c 0 = a at *
  generalize r.getD c 0 = y at *
  have h1 := Int.emod_nonneg a (show y ≠ 0 by omega)
  have h2 := Int.emod_lt_of_pos a hp
  have h3 := Int.mul_ediv_add_emod a y
  rw [Int.one_mul, Int.neg_mul, Int.mul_comm]
  omega

theorem map_row {hs : List (List Int)} {f : List Int → List Int} {r : List Int} {k : Nat} (hk : k < hs.length) : (hs.map f ++ [r]).getD k [] = f hs[k] := by
  rw [List.getD_eq_getElem?_getD, List.getElem?_append_left (by simpa using hk), List.getElem?_map, List.getElem?_eq_getElem hk]
  rfl

theorem last_row {hs : List (List Int)} {f : List Int → List Int} {r : List Int} : (hs.map f ++ [r]).getD hs.length [] = r := by
  rw [List.getD_eq_getElem?_getD, List.getElem?_append_right (by simp)]
  simp

theorem form_step {n c : Nat} {hs : List (List Int)} {p : Nat → Nat} {r : List Int} (h : FormL n hs p) (hlt : ∀ k, k < hs.length → p k < c) (hc : c < n) (hr : r.length = n) (hz : ∀ b, b < c → r.getD b 0 = 0) (hp : 0 < r.getD c 0) :
    ∃ p', FormL n (hs.map (fun u => lowRow u r c) ++ [r]) p' ∧ ∀ k, k < (hs.map (fun u => lowRow u r c) ++ [r]).length → p' k < c + 1 := by
  have hlen : ∀ k (hk : k < hs.length), hs[k].length = r.length := fun k hk => (h.len _ (List.getElem_mem hk)).trans hr.symm
  have hL : (hs.map (fun u => lowRow u r c) ++ [r]).length = hs.length + 1 := by simp
  have ahead : ∀ k (hk : k < hs.length) b, b < c → ((hs.map (fun u => lowRow u r c) ++ [r]).getD k []).getD b 0 = (hs.getD k []).getD b 0 := fun k hk b hb => by
    rw [map_row hk, getD_row hk]
    exact lowRow_ahead (hlen k hk) (by rw [hlen k hk, hr]; omega) (hz b hb)
  refine ⟨fun k => if k = hs.length then c else p k, ⟨fun u hu => ?_, ⟨fun i k hik hk => ?_, fun i hi => ?_, fun i b hi hb => ?_, fun i hi => ?_, fun i k hik hk => ?_⟩⟩, fun k hk => ?_⟩
  · rcases List.mem_append.1 hu with h1 | h1
    · obtain ⟨x, hx, rfl⟩ := List.mem_map.1 h1
      have := h.len x hx
      rw [lowRow_len (by omega)]; exact this
    · rw [List.mem_singleton] at h1; rw [h1]; exact hr
  · try dsimp only
    rw [hL] at hk
    rw [if_neg (show i ≠ hs.length by omega)]
    by_cases e : k = hs.length
    · rw [if_pos e]; exact hlt i (by omega)
    · rw [if_neg e]; exact h.form.inc i k hik (by omega)
  · try dsimp only
    rw [hL] at hi
    by_cases e : i = hs.length
    · rw [if_pos e]; exact hc
    · rw [if_neg e]; exact h.form.lt i (by omega)
  · try dsimp only at hb ⊢
    rw [hL] at hi
    by_cases e : i = hs.length
    · rw [if_pos e] at hb
      rw [e, last_row]; exact hz b hb
    · rw [if_neg e] at hb
      have h1 := hlt i (by omega)
      rw [ahead i (by omega) b (by omega)]
      exact h.form.zero i b (by omega) hb
  · try dsimp only
    rw [hL] at hi
    by_cases e : i = hs.length
    · rw [if_pos e, e, last_row]; exact hp
    · rw [if_neg e, ahead i (by omega) _ (hlt i (by omega))]
      exact h.form.pos i (by omega)
  · try dsimp only
    rw [hL] at hk
    by_cases e : k = hs.length
    · rw [if_pos e, e, last_row, map_row (show i < hs.length by omega)]
      exact lowRow_at (hlen i (by omega)) (by rw [hlen i (by omega), hr]; exact hc) hp
    · rw [if_neg e, ahead i (by omega) _ (hlt k (by omega)), ahead k (by omega) _ (hlt k (by omega))]
      exact h.form.red i k hik (by omega)
  · try dsimp only
    rw [hL] at hk
    by_cases e : k = hs.length
    · rw [if_pos e]; omega
    · rw [if_neg e]; have := hlt k (by omega); omega

/-- Pivots are not nought. -/
def NZ (R : Nat → Option (List Int)) : Prop := ∀ i r, R i = some r → r.getD i 0 ≠ 0

theorem outN_form {R : Nat → Option (List Int)} {n : Nat} (hE : Ech R n n) (hN : NZ R) (c : Nat) (hc : c ≤ n) : ∃ p, FormL n (outN R c) p ∧ ∀ k, k < (outN R c).length → p k < c := by
  induction c with
  | zero => exact ⟨fun _ => 0, ⟨fun r hr => (by cases hr), ⟨fun i k _ hk => absurd hk (by simp [outN]), fun i hi => absurd hi (by simp [outN]), fun i b hi => absurd hi (by simp [outN]), fun i hi => absurd hi (by simp [outN]), fun i k _ hk => absurd hk (by simp [outN])⟩⟩, fun k hk => absurd hk (by simp [outN])⟩
  | succ c ih =>
    obtain ⟨p, h1, h2⟩ := ih (by omega)
    unfold outN
    cases e : R c with
    | none => exact ⟨p, h1, fun k hk => Nat.lt_succ_of_lt (h2 k hk)⟩
    | some r =>
      have hl := hE.len c r e
      exact form_step h1 h2 (by omega) ((upR_len r c).trans hl) (fun b hb => upR_zero (hE.zero c r e b hb)) (upR_pos (by omega) (hN c r e))

theorem outN_lens {R : Nat → Option (List Int)} {n : Nat} (hE : Ech R n n) (c : Nat) : ∀ u ∈ outN R c, u.length = n := by
  induction c with
  | zero => exact fun u hu => by cases hu
  | succ c ih =>
    unfold outN
    cases e : R c with
    | none => exact ih
    | some r =>
      have hl := (upR_len r c).trans (hE.len c r e)
      intro u hu
      rcases List.mem_append.1 hu with h | h
      · obtain ⟨x, hx, rfl⟩ := List.mem_map.1 h
        have := ih x hx
        rw [lowRow_len (by omega)]
        exact this
      · rw [List.mem_singleton] at h
        rw [h]
        exact hl

def RowsTo (R : Nat → Option (List Int)) (c : Nat) : List Int → Prop := fun v => ∃ i, i < c ∧ R i = some v

theorem scale_id {n : Nat} {S : List Int → Prop} {r : List Int} {c : Nat} (h : Gens n S r) : Gens n S (upR r c) := by
  rcases upR_eq r c with e | e <;> rw [e]
  · exact h
  · rw [map_one]; exact .comb _ _ h h

theorem scale_back {n : Nat} {S : List Int → Prop} {r : List Int} {c : Nat} (h : Gens n S (upR r c)) : Gens n S r := by
  rcases upR_eq r c with e | e <;> rw [e] at h
  · exact h
  · have := Gens.comb (-1) 0 h h
    rw [← map_one, List.map_map] at this
    have e2 : ((fun x : Int => -1 * x) ∘ fun x => -1 * x) = id := by funext x; simp
    rwa [e2, List.map_id] at this

theorem outN_alike {R : Nat → Option (List Int)} {n : Nat} (hE : Ech R n n) (c : Nat) : Alikes n (InL (outN R c)) (RowsTo R c) := by
  induction c with
  | zero => exact .of (fun v hv _ => by cases hv) (fun v hv _ => by obtain ⟨i, hi, -⟩ := hv; omega)
  | succ c ih =>
    have up : ∀ v, RowsTo R c v → RowsTo R (c + 1) v := fun v ⟨i, hi, e⟩ => ⟨i, by omega, e⟩
    unfold outN
    cases e : R c with
    | none =>
      refine ih.trans (.of (fun v hv hvl => .base (up v hv) hvl) (fun v hv hvl => ?_))
      obtain ⟨i, hi, e'⟩ := hv
      exact .base ⟨i, by
        by_cases h : i = c
        · rw [h, e] at e'; cases e'
        · omega, e'⟩ hvl
    | some r =>
      have hl := hE.len c r e
      have gr : Gens n (RowsTo R (c + 1)) r := .base ⟨c, by omega, e⟩ hl
      refine .of (fun v hv hvl => ?_) (fun v hv hvl => ?_)
      · rcases List.mem_append.1 hv with h | h
        · obtain ⟨u, hu, rfl⟩ := List.mem_map.1 h
          have hul : u.length = n := outN_lens hE c u hu
          have gu : Gens n (RowsTo R (c + 1)) u := ((ih u).1 (.base hu hul)).trans fun x hx hxl => .base (up x hx) hxl
          exact gu.low (scale_id gr) c
        · rw [List.mem_singleton] at h
          rw [h]
          exact scale_id gr
      · have gp : Gens n (InL ((outN R c).map (fun u => lowRow u (upR r c) c) ++ [upR r c])) (upR r c) := .base (List.mem_append_right _ (List.mem_singleton.2 rfl)) ((upR_len r c).trans hl)
        obtain ⟨i, hi, e'⟩ := hv
        by_cases h : i = c
        · rw [h, e] at e'
          obtain rfl := Option.some.inj e'
          exact scale_back gp
        · have g1 := (ih v).2 (.base ⟨i, by omega, e'⟩ hvl)
          refine g1.trans fun u hu hul => ?_
          refine Gens.unlow (k := c) (hul.trans ((upR_len r c).trans hl).symm) (.base (List.mem_append_left _ (List.mem_map.2 ⟨u, hu, rfl⟩)) ?_) gp
          rw [lowRow_len (hul.trans ((upR_len r c).trans hl).symm)]
          exact hul

theorem outN_all {R : Nat → Option (List Int)} {n : Nat} (hE : Ech R n n) : Alikes n (InL (outN R n)) (RowsOf R) :=
  (outN_alike hE n).trans (.of (fun v hv hvl => by obtain ⟨i, -, e⟩ := hv; exact .base ⟨i, e⟩ hvl) (fun v hv hvl => by obtain ⟨i, e⟩ := hv; exact .base ⟨i, hE.lt i v e, e⟩ hvl))

theorem outN_len (R : Nat → Option (List Int)) (c : Nat) : (outN R c).length ≤ c := by
  induction c with
  | zero => exact Nat.le_refl _
  | succ c ih =>
    unfold outN
    split
    · omega
    · simp; omega

end Go.Proofs.YtdedolkgcdlmeaaGreatDoor
