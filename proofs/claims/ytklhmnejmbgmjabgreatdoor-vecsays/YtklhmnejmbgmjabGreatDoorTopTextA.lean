/- How long a number's text, and a vector's, may be; vectors that are numbers' ones. -/
import Derived.Test.YtklhmnejmbgmjabGreatDoorVecQ
import Derived.Test.YtklhmnejmbgmjabGreatDoorLightM
import Derived.Test.YtklhmnejmbgmjabGreatDoorBez
namespace Go.Proofs.YtklhmnejmbgmjabGreatDoor
open Go.RowKit Limbs

theorem decDigits_pow : ∀ (d u : Nat), u < 10 ^ (d + 1) → (Lib.decDigits u).length ≤ d + 1
  | 0, u, h => by
    rw [Lib.decDigits, dif_pos (by simpa using h)]
    simp
  | d + 1, u, h => by
    by_cases h10 : u < 10
    · rw [Lib.decDigits, dif_pos h10]; simp
    · have ih := decDigits_pow d (u / 10) (by
        rw [Nat.div_lt_iff_lt_mul (by decide)]
        rw [Nat.pow_succ] at h
        exact h)
      rw [Lib.decDigits, dif_neg h10, List.length_append, List.length_singleton]
      omega

theorem bp_ten (n : Nat) : bp n ≤ ((10 ^ (10 * n) : Nat) : Int) := by
  induction n with
  | zero => simp [bp]
  | succ n ih =>
    have e : (10 : Nat) ^ (10 * (n + 1)) = 10000000000 * 10 ^ (10 * n) := by rw [show 10 * (n + 1) = 10 + 10 * n by omega, Nat.pow_add]
    rw [e]
    simp only [bp]
    have h0 : (0 : Int) ≤ ((10 ^ (10 * n) : Nat) : Int) := Int.natCast_nonneg _
    rw [Int.natCast_mul]
    have : ((10000000000 : Nat) : Int) = 10000000000 := rfl
    rw [this]
    omega

theorem NumL.txt_len {w : World} {v : Value} {z : Int} {n : Nat} (h : NumL w v z (n + 1)) : (txt z).length ≤ 10 * (n + 1) + 1 := by
  have h1 := h.ab_lt
  have h2 := bp_ten (n + 1)
  have h3 : z.natAbs < 10 ^ (10 * (n + 1)) := by
    unfold ab at h1
    split at h1 <;> omega
  have h4 := decDigits_pow (10 * (n + 1) - 1) z.natAbs (by rw [show 10 * (n + 1) - 1 + 1 = 10 * (n + 1) by omega]; exact h3)
  unfold txt Lib.itoa
  split
  · rw [List.length_cons]; omega
  · rw [show z.toNat = z.natAbs by omega]; omega

theorem join_len (c : UInt8) (m : Nat) : ∀ xs : List (List UInt8), (∀ x ∈ xs, x.length ≤ m) → (Lib.join xs [c]).length ≤ xs.length * (m + 1)
  | [], _ => by simp [Lib.join]
  | [x], h => by
    rw [Lib.join_one]
    have := h x (by simp)
    simp; omega
  | x :: y :: r, h => by
    have ih := join_len c m (y :: r) fun z hz => h z (List.mem_cons_of_mem _ hz)
    have := h x (by simp)
    rw [join_two, List.length_append, List.length_cons, List.length_cons, Nat.add_mul]
    omega

def Raw.z (r : Raw) : Int := sg r.neg (lv r.zs)

theorem VecL.nums {w : World} {v : Value} {rs : List Raw} {n : Nat} (h : VecL w v rs) (hn : rs.all Raw.num = true) (hl : ∀ r ∈ rs, r.zs.length ≤ n) : VecN w v (rs.map Raw.z) n := by
  obtain ⟨ao, cap, hv, h1, h2⟩ := h
  have hlen : (rs.map Raw.z).length = rs.length := List.length_map ..
  refine ⟨ao, cap, by rw [hlen]; exact hv, by rw [hlen]; exact h1, fun h0 => ?_⟩
  rw [hlen] at h0
  obtain ⟨b, off, e, hlt, hc⟩ := h2 h0
  refine ⟨b, off, e, hlt, fun i hi => ?_⟩
  rw [hlen] at hi
  obtain ⟨h3, h4, h5⟩ := hc i rs[i] (by simp [hi])
  have hm : rs[i] ∈ rs := List.getElem_mem hi
  have hN := NumL.of_isNum (n := n) (List.all_eq_true.1 hn _ hm) h5 (hl _ hm)
  obtain ⟨o, c, es, -⟩ := h5
  refine ⟨rs[i].neg, o, rs[i].zs.length, c, h3, by rw [h4, es], ?_⟩
  rw [← es]
  have e2 : (rs.map Raw.z).getD i 0 = sg rs[i].neg (lv rs[i].zs) := by
    rw [List.getD_eq_getElem?_getD, List.getElem?_map, List.getElem?_eq_getElem hi]; rfl
  rw [e2]
  exact hN

/-- The texts of such a vector's numbers. -/
theorem VecN.txts {w : World} {v : Value} {zs : List Int} (h : VecN w v zs 8) : ∀ z ∈ zs, (txt z).length ≤ 400 := fun z hz => by
  obtain ⟨ao, cap, -, -, h2⟩ := h
  obtain ⟨i, hi, e⟩ := List.getElem_of_mem hz
  obtain ⟨b, off, -, -, hc⟩ := h2 (by omega)
  obtain ⟨neg, o, l, c, -, -, hN⟩ := hc i hi
  rw [List.getD_eq_getElem?_getD, List.getElem?_eq_getElem hi, Option.getD_some, e] at hN
  have := NumL.txt_len (n := 7) hN
  omega

theorem VecN.join {w : World} {v : Value} {zs : List Int} (h : VecN w v zs 8) (h8 : zs.length ≤ 8) : (Lib.join (zs.map txt) [32]).length ≤ 100000 := by
  have := join_len 32 400 (zs.map txt) (fun x hx => by
    obtain ⟨z, hz, rfl⟩ := List.mem_map.1 hx
    exact h.txts z hz)
  rw [List.length_map] at this
  have : zs.length * 401 ≤ 8 * 401 := Nat.mul_le_mul_right _ h8
  omega

end Go.Proofs.YtklhmnejmbgmjabGreatDoor
