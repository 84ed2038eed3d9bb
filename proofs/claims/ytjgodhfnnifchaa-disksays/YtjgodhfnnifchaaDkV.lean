/- Two disks: the one of the program, and one that keeps all that was written. -/
import Derived.Test.YtjgodhfnnifchaaDkU
import Derived.Test.YtjgodhfnnifchaaDkO
namespace Go.Proofs.Ytjgodhfnnifchaa
open Go.RowKit

/-- A disk that keeps all that was written. -/
structure RD where
  kept : List (List UInt8)
  now : List (List UInt8)
  wait : List (Nat × List UInt8)
  fuse : Int
  down : Bool

/-- The bit of a number. -/
def bitN (n : Nat) : Int := ((2 ^ (n % 64) : Nat) : Int)

/-- What one write does to what is loose in a sector. -/
def putL (i : Nat) (l : List (Int × List UInt8)) (x : (Nat × List UInt8) × Nat) : List (Int × List UInt8) := if x.1.1 = i then without (bitN x.2) l ++ [(bitN x.2, x.1.2)] else l

/-- What is loose in a sector. -/
def looseOf (i : Nat) (wait : List (Nat × List UInt8)) : List (Int × List UInt8) := wait.zipIdx.foldl (putL i) []

theorem looseOf_snoc (i : Nat) (wait : List (Nat × List UInt8)) (x : Nat × List UInt8) : looseOf i (wait ++ [x]) = putL i (looseOf i wait) (x, wait.length) := by
  unfold looseOf
  rw [List.zipIdx_append, List.foldl_append]
  simp

/-- Is the write of that number kept? -/
def kept? (keep : Int) (n : Nat) : Bool := bits .and .u64 (keep / 2 ^ (n % 64)) 1 == 1

def keepR (keep : Int) (ks : List (List UInt8)) (x : (Nat × List UInt8) × Nat) : List (List UInt8) := if kept? keep x.2 = true then ks.set x.1.1 x.1.2 else ks

theorem fold_without (keep bit : Int) (hb : bits .and .u64 bit keep = 0) : ∀ (l : List (Int × List UInt8)) (k : List UInt8), (without bit l).foldl (keepOne keep) k = l.foldl (keepOne keep) k
  | [], _ => rfl
  | p :: l, k => by
    unfold without
    by_cases h : p.1 = bit
    · rw [List.filter_cons_of_neg (by simp [h])]
      have e : keepOne keep k p = k := by unfold keepOne; rw [h, if_pos hb]
      rw [List.foldl_cons, e]
      exact fold_without keep bit hb l k
    · rw [List.filter_cons_of_pos (by simp [h]), List.foldl_cons, List.foldl_cons]
      exact fold_without keep bit hb l _

theorem keepR_at (keep : Int) (h0 : 0 ≤ keep) (h1 : keep < 18446744073709551616) (i : Nat) (k0 : List UInt8) : ∀ (xs : List ((Nat × List UInt8) × Nat)) (l : List (Int × List UInt8)) (ks : List (List UInt8)), ks[i]? = some (l.foldl (keepOne keep) k0) → (xs.foldl (keepR keep) ks)[i]? = some ((xs.foldl (putL i) l).foldl (keepOne keep) k0)
  | [], _, _, h => h
  | x :: xs, l, ks, h => by
    rw [List.foldl_cons, List.foldl_cons]
    refine keepR_at keep h0 h1 i k0 xs _ _ ?_
    have hi := (List.getElem?_eq_some_iff.1 h).1
    have hb := bit_kept keep (x.2 % 64) h0 h1 (Nat.mod_lt _ (by decide))
    unfold keepR putL
    by_cases hx : x.1.1 = i
    · rw [if_pos hx, List.foldl_append, List.foldl_cons, List.foldl_nil]
      by_cases hk : kept? keep x.2 = true
      · rw [if_pos hk, hx, List.getElem?_set_self hi]
        have : ¬ bits .and .u64 (bitN x.2) keep = 0 := hb.1 hk
        exact (congrArg some (if_neg this)).symm
      · rw [if_neg hk, h]
        have hz : bits .and .u64 (bitN x.2) keep = 0 := Classical.byContradiction fun e => hk (hb.2 e)
        rw [fold_without keep _ hz]
        exact (congrArg some (if_pos hz)).symm
    · rw [if_neg hx]
      by_cases hk : kept? keep x.2 = true
      · rw [if_pos hk, List.getElem?_set_ne hx, h]
      · rw [if_neg hk, h]

theorem keepR_len (keep : Int) : ∀ (xs : List ((Nat × List UInt8) × Nat)) (ks : List (List UInt8)), (xs.foldl (keepR keep) ks).length = ks.length
  | [], _ => rfl
  | x :: xs, ks => by
    rw [List.foldl_cons, keepR_len keep xs]
    unfold keepR
    split
    · rw [List.length_set]
    · rfl

theorem bit_all (j : Nat) (h : j < 64) : ¬ bits .and .u64 ((2 ^ j : Nat) : Int) 18446744073709551615 = 0 := (by decide : ∀ j : Nat, j < 64 → ¬ bits .and .u64 ((2 ^ j : Nat) : Int) 18446744073709551615 = 0) j h

/-- If all is kept, then what is seen. -/
theorem keep_all (s : Sec) (hb : ∀ p ∈ s.loose, ∃ j, j < 64 ∧ p.1 = ((2 ^ j : Nat) : Int)) : s.loose.foldl (keepOne 18446744073709551615) s.kept = s.seen := by
  obtain ⟨k, l⟩ := s
  simp only at hb ⊢
  rcases List.eq_nil_or_concat l with rfl | ⟨m, p, rfl⟩
  · rfl
  · obtain ⟨j, hj, e⟩ := hb p (by simp)
    unfold Sec.seen
    simp only [List.concat_eq_append, List.foldl_append, List.foldl_cons, List.foldl_nil, List.getLast?_append, List.getLast?_singleton]
    unfold keepOne
    rw [e, if_neg (bit_all j hj)]
    rfl

end Go.Proofs.Ytjgodhfnnifchaa
