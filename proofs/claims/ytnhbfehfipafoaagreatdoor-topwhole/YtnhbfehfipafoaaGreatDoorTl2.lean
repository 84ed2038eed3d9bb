/- A disk: each operation, whatever was done before. -/
import Derived.Test.YtnhbfehfipafoaaGreatDoorDkN
import Derived.Test.YtnhbfehfipafoaaGreatDoorBpZ

namespace Go.Proofs.YtnhbfehfipafoaaGreatDoor
open Go.RowKit

structure Well (D : Dsk) (m k : Nat) : Prop where
 len : D.secs.length = m
 num : D.number < 64
 few : ∀ s ∈ D.secs, s.loose.length ≤ k
 apart : ∀ s ∈ D.secs, s.loose.Pairwise fun p q => p.1 ≠ q.1
 bits : ∀ s ∈ D.secs, ∀ p ∈ s.loose, ∃ j, j < 64 ∧ p.1 = ((2 ^ j : Nat) : Int)

theorem Well.mono {D : Dsk} {m k l : Nat} (h : Well D m k) (hl : k ≤ l) : Well D m l :=
 ⟨h.len, h.num, fun s hs => Nat.le_trans (h.few s hs) hl, h.apart, h.bits⟩

theorem Well.same {D E : Dsk} {m k : Nat} (h : Well D m k) (hs : E.secs = D.secs) (hn : E.number = D.number) : Well E m k := by
 obtain ⟨a, b, c, d, e⟩ := h
 exact ⟨by rw [hs]; exact a, by rw [hn]; exact b, by rw [hs]; exact c, by rw [hs]; exact d, by rw [hs]; exact e⟩

theorem stepped_number (D : Dsk) : D.stepped.number = D.number := by
 unfold Dsk.stepped
 split
 ·rfl
 ·split <;> rfl

theorem Well.stepped {D : Dsk} {m k : Nat} (h : Well D m k) : Well D.stepped m k := h.same (stepped_secs D) (stepped_number D)

theorem newD_well (n : Nat) : Well (newD n) n 0 :=
 ⟨by simp [newD], show 0 < 64 by decide, fun s hs => by rw [(List.mem_replicate.1 hs).2]; exact Nat.le_refl _, fun s hs => by rw [(List.mem_replicate.1 hs).2]; exact List.Pairwise.nil, fun s hs p hp => by rw [(List.mem_replicate.1 hs).2] at hp; cases hp⟩

theorem settled_well {D : Dsk} {m k : Nat} (h : Well D m k) (keep : Int) : Well (D.settled keep) m 0 :=
 ⟨by simp [Dsk.settled, h.len], show 0 < 64 by decide, fun s hs => by
  obtain ⟨s0, -, rfl⟩ := List.mem_map.1 hs
  exact Nat.le_refl _, fun s hs => by
  obtain ⟨s0, -, rfl⟩ := List.mem_map.1 hs
  exact List.Pairwise.nil, fun s hs p hp => by
  obtain ⟨s0, -, rfl⟩ := List.mem_map.1 hs
  cases hp⟩

theorem Well.over {D : Dsk} {m k : Nat} (h : Well D m k) (i : Nat) (s : Sec) (hs : s ∈ D.secs) (l : List UInt8) : Well (D.over i s l) m (k + 1) := by
 have hsub : ∀ p ∈ without ((2 ^ D.number : Nat) : Int) s.loose, p ∈ s.loose ∧ p.1 ≠ ((2 ^ D.number : Nat) : Int) := fun p hp => by
  have := List.mem_filter.1 hp
  exact ⟨this.1, of_decide_eq_true this.2⟩
 refine ⟨by simp [Dsk.over, h.len], Nat.mod_lt _ (by decide), fun t ht => ?_, fun t ht => ?_, fun t ht p hp => ?_⟩
 ·rcases List.mem_or_eq_of_mem_set ht with hm | rfl
  ·exact Nat.le_succ_of_le (h.few t hm)
  ·have h1 := h.few s hs
   have h2 := List.length_filter_le (fun p : Int × List UInt8 => decide (p.1 ≠ ((2 ^ D.number : Nat) : Int))) s.loose
   simp only [List.length_append, List.length_singleton]
   unfold without
   omega
 ·rcases List.mem_or_eq_of_mem_set ht with hm | rfl
  ·exact h.apart t hm
  ·refine List.pairwise_append.2 ⟨(h.apart s hs).filter _, List.pairwise_singleton _ _, fun p hp q hq => ?_⟩
   rw [List.mem_singleton] at hq
   rw [hq]
   exact (hsub p hp).2
 ·rcases List.mem_or_eq_of_mem_set ht with hm | rfl
  ·exact h.bits t hm p hp
  ·rcases List.mem_append.1 hp with hp | hp
   ·exact h.bits s hs p (hsub p hp).1
   ·rw [List.mem_singleton] at hp
    rw [hp]
    exact ⟨D.number, h.num, rfl⟩

def putErr (D : Dsk) (at' : Int) (t : ByteArray) : Value := if 0 ≤ at' ∧ at' < D.secs.length then (if t.size ≤ 64 then stepErr D else errno 6) else errno 1

def putD (D : Dsk) (at' : Int) (t : ByteArray) : Dsk := if (0 ≤ at' ∧ at' < D.secs.length) ∧ t.size ≤ 64 then (if D.steps = true then D.stepped.over at'.toNat (D.secs.getD at'.toNat sec0) t.data.toList else D.stepped) else D

theorem Well.put {D : Dsk} {m k : Nat} (h : Well D m k) (at' : Int) (t : ByteArray) : Well (putD D at' t) m (k + 1) := by
 unfold putD
 split
 ·rename_i hc
  split
  ·have hlt : at'.toNat < D.secs.length := by omega
   refine h.stepped.over _ _ ?_ _
   rw [List.getD_eq_getElem?_getD, List.getElem?_eq_getElem hlt, stepped_secs]
   exact List.getElem_mem hlt
  ·exact h.stepped.mono (by omega)
 ·exact h.mono (by omega)

theorem put_any (w : World) (base : Own) (B : Nat) (D : Dsk) (m k : Nat) (at' : Int) (t : ByteArray) (h : DiskO w base B D) (hq : Well D m k) (hk : k ≤ 1000000) (hm : m ≤ 200) (ht : t.size ≤ 1000000) (hbase : base.h ≤ w.heap.size) :
  Calls Tryz.prog 93 #[.pointer (some ⟨B, 0, none⟩), .int .i64 at', .string t] w fun e w' => e = .returned (putErr D at' t) ∧ DiskO w' base B (putD D at' t) ∧ Kept base w w' := by
 by_cases hr : 0 ≤ at' ∧ at' < D.secs.length
 ·by_cases hs : t.size ≤ 64
  ·have e1 : putErr D at' t = stepErr D := by unfold putErr; rw [if_pos hr, if_pos hs]
   by_cases hst : D.steps = true
   ·obtain ⟨i, rfl⟩ := Int.eq_ofNat_of_zero_le hr.1
    have hlt : i < D.secs.length := by omega
    have e2 : putD D (i : Int) t = D.stepped.over i D.secs[i] t.data.toList := by
     unfold putD
     rw [if_pos ⟨hr, hs⟩, if_pos hst, Int.toNat_natCast, List.getD_eq_getElem?_getD, List.getElem?_eq_getElem hlt]; rfl
    have e3 : stepErr D = .nilIface := by unfold stepErr; rw [if_pos hst]
    rw [e1, e2, e3]
    exact write_all w base B D i D.secs[i] t h (List.getElem?_eq_getElem hlt) (by rw [hq.len]; exact hm) hs hst (hq.apart _ (List.getElem_mem hlt)) (Nat.le_trans (hq.few _ (List.getElem_mem hlt)) hk) hbase
   ·have e2 : putD D at' t = D.stepped := by unfold putD; rw [if_pos ⟨hr, hs⟩, if_neg hst]
    have e3 : stepErr D = errno 9 := by unfold stepErr; rw [if_neg hst]
    rw [e1, e2, e3]
    exact write_down w base B D at' t h hr hs (by simpa using hst)
  ·have e1 : putErr D at' t = errno 6 := by unfold putErr; rw [if_pos hr, if_neg hs]
   have e2 : putD D at' t = D := by unfold putD; rw [if_neg (fun h => hs h.2)]
   rw [e1, e2]
   exact (write_size w base B D at' t h hr (by omega) ht).mono fun e w' ⟨he, hb⟩ => ⟨he, DiskO.later h hb, Kept.of_below hb⟩
 ·have e1 : putErr D at' t = errno 1 := by unfold putErr; rw [if_neg hr]
  have e2 : putD D at' t = D := by unfold putD; rw [if_neg (fun h => hr h.1)]
  rw [e1, e2]
  exact (write_bound w base B D at' t h hr).mono fun e w' ⟨he, hb⟩ => ⟨he, DiskO.later h hb, Kept.of_below hb⟩

def flushD (D : Dsk) : Dsk := if D.steps = true then D.stepped.settled 18446744073709551615 else D.stepped

theorem Well.flush {D : Dsk} {m k : Nat} (h : Well D m k) : Well (flushD D) m k := by
 unfold flushD
 split
 ·exact (settled_well h.stepped _).mono (by omega)
 ·exact h.stepped

theorem flush_any (w : World) (base : Own) (B : Nat) (D : Dsk) (h : DiskO w base B D) (h2 : D.secs.length ≤ 200) :
  Calls Tryz.prog 94 #[.pointer (some ⟨B, 0, none⟩)] w fun e w' => e = .returned (stepErr D) ∧ DiskO w' base B (flushD D) ∧ Kept base w w' := by
 unfold flushD stepErr
 by_cases hst : D.steps = true
 ·rw [if_pos hst, if_pos hst]
  exact flush_ok w base B D h h2 hst
 ·rw [if_neg hst, if_neg hst]
  exact flush_down w base B D h (by simpa using hst)

def readS (D : Dsk) (at' : Int) : List UInt8 := if D.down = false ∧ 0 ≤ at' ∧ at' < D.secs.length then (D.secs.getD at'.toNat sec0).seen else []

theorem read_any (w : World) (base : Own) (B : Nat) (D : Dsk) (at' : Int) (h : DiskO w base B D) (h2 : D.secs.length ≤ 200) :
  Calls Tryz.prog 60 #[.pointer (some ⟨B, 0, none⟩), .int .i64 at'] w fun e w' => e = .returned (.tuple #[.string ⟨(readS D at').toArray⟩, D.readErr at']) ∧ Below w.heap.size w w' := by
 unfold readS Dsk.readErr
 by_cases hd : D.down = true
 ·rw [if_neg (by rw [hd]; exact fun h => absurd h.1 (by decide)), if_pos hd]
  exact read_down w base B D at' h hd
 ·have hd' : D.down = false := by simpa using hd
  rw [if_neg hd]
  by_cases hb : 0 ≤ at' ∧ at' < D.secs.length
  ·rw [if_pos ⟨hd', hb⟩, if_pos hb]
   obtain ⟨i, rfl⟩ := Int.eq_ofNat_of_zero_le hb.1
   have hlt : i < D.secs.length := by omega
   rw [Int.toNat_natCast, List.getD_eq_getElem?_getD, List.getElem?_eq_getElem hlt]
   exact read_ok w base B D i _ h hd' (List.getElem?_eq_getElem hlt) h2
  ·rw [if_neg (fun h => hb h.2), if_neg hb]
   exact read_bound w base B D at' h hd' hb

end Go.Proofs.YtnhbfehfipafoaaGreatDoor

/- Which writes are kept: one bit of a number. -/
namespace Go.Proofs.YtnhbfehfipafoaaGreatDoor
open Go.RowKit

theorem bits_nat (a b : Nat) (ha : a < 18446744073709551616) (hb : b < 18446744073709551616) : bits .and .u64 (a : Int) (b : Int) = ((a &&& b : Nat) : Int) := by
 have h : (a &&& b) < 2 ^ 64 := Nat.and_lt_two_pow _ (by omega)
 show IntKind.u64.wrap ((BitVec.ofInt 64 (a : Int) &&& BitVec.ofInt 64 (b : Int)).toNat : Nat) = _
 have e1 : ((a : Int) % ((2 ^ 64 : Nat) : Int)).toNat = a := by omega
 have e2 : ((b : Int) % ((2 ^ 64 : Nat) : Int)).toNat = b := by omega
 rw [BitVec.toNat_and, BitVec.toNat_ofInt, BitVec.toNat_ofInt, e1, e2, IntKind.wrap_u64]
 omega

theorem bit_kept (keep : Int) (n : Nat) (h0 : 0 ≤ keep) (h1 : keep < 18446744073709551616) (hn : n < 64) : (bits .and .u64 (keep / 2 ^ n) 1 == 1) = true ↔ ¬ bits .and .u64 ((2 ^ n : Nat) : Int) keep = 0 := by
 obtain ⟨K, rfl⟩ := Int.eq_ofNat_of_zero_le h0
 have hK : K < 18446744073709551616 := by omega
 have e : (K : Int) / 2 ^ n = ((K / 2 ^ n : Nat) : Int) := by simp [Int.natCast_ediv, Int.natCast_pow]
 have hd : K / 2 ^ n < 18446744073709551616 := Nat.lt_of_le_of_lt (Nat.div_le_self _ _) hK
 have hp : 2 ^ n < 18446744073709551616 := Nat.pow_lt_pow_right (a := 2) (by decide) hn
 have e1 := bits_nat (K / 2 ^ n) 1 hd (by decide)
 have e2 := bits_nat (2 ^ n) K hp hK
 rw [e, show (1 : Int) = ((1 : Nat) : Int) from rfl, e1, e2, Nat.and_one_is_mod]
 have ht : K.testBit n = decide (K / 2 ^ n % 2 = 1) := Nat.testBit_eq_decide_div_mod_eq
 have hb : (2 ^ n &&& K).testBit n = K.testBit n := by rw [Nat.testBit_and, Nat.testBit_two_pow_self, Bool.true_and]
 rcases Nat.mod_two_eq_zero_or_one (K / 2 ^ n) with h | h
 ·have hf : K.testBit n = false := by rw [ht, h]; decide
  have hz : 2 ^ n &&& K = 0 := by
   apply Nat.eq_of_testBit_eq
   intro i
   rw [Nat.testBit_and, Nat.testBit_two_pow, Nat.zero_testBit]
   by_cases hi : n = i
   ·subst hi; rw [hf]; simp
   ·simp [hi]
  rw [h, hz]; simp
 ·have hne : ¬ (2 ^ n &&& K = 0) := fun hz => by
   rw [hz, Nat.zero_testBit, ht, h] at hb
   exact absurd hb (by decide)
  rw [h]
  constructor
  ·intro _ he
   exact hne (by omega)
  ·intro _
   rfl

end Go.Proofs.YtnhbfehfipafoaaGreatDoor

/- Two disks: the one of the program, and one that keeps all that was written. -/
namespace Go.Proofs.YtnhbfehfipafoaaGreatDoor
open Go.RowKit

structure RD where
 kept : List (List UInt8)
 now : List (List UInt8)
 wait : List (Nat × List UInt8)
 fuse : Int
 down : Bool

def bitN (n : Nat) : Int := ((2 ^ (n % 64) : Nat) : Int)

def putL (i : Nat) (l : List (Int × List UInt8)) (x : (Nat × List UInt8) × Nat) : List (Int × List UInt8) := if x.1.1 = i then without (bitN x.2) l ++ [(bitN x.2, x.1.2)] else l

def looseOf (i : Nat) (wait : List (Nat × List UInt8)) : List (Int × List UInt8) := wait.zipIdx.foldl (putL i) []

theorem looseOf_snoc (i : Nat) (wait : List (Nat × List UInt8)) (x : Nat × List UInt8) : looseOf i (wait ++ [x]) = putL i (looseOf i wait) (x, wait.length) := by
 unfold looseOf
 rw [List.zipIdx_append, List.foldl_append]
 simp

def kept? (keep : Int) (n : Nat) : Bool := bits .and .u64 (keep / 2 ^ (n % 64)) 1 == 1

def keepR (keep : Int) (ks : List (List UInt8)) (x : (Nat × List UInt8) × Nat) : List (List UInt8) := if kept? keep x.2 = true then ks.set x.1.1 x.1.2 else ks

theorem fold_without (keep bit : Int) (hb : bits .and .u64 bit keep = 0) : ∀ (l : List (Int × List UInt8)) (k : List UInt8), (without bit l).foldl (keepOne keep) k = l.foldl (keepOne keep) k
 | [], _ => rfl
 | p :: l, k => by
  unfold without
  by_cases h : p.1 = bit
  ·rw [List.filter_cons_of_neg (by simp [h])]
   have e : keepOne keep k p = k := by unfold keepOne; rw [h, if_pos hb]
   rw [List.foldl_cons, e]
   exact fold_without keep bit hb l k
  ·rw [List.filter_cons_of_pos (by simp [h]), List.foldl_cons, List.foldl_cons]
   exact fold_without keep bit hb l _

theorem keepR_at (keep : Int) (h0 : 0 ≤ keep) (h1 : keep < 18446744073709551616) (i : Nat) (k0 : List UInt8) : ∀ (xs : List ((Nat × List UInt8) × Nat)) (l : List (Int × List UInt8)) (ks : List (List UInt8)), ks[i]? = some (l.foldl (keepOne keep) k0) → (xs.foldl (keepR keep) ks)[i]? = some ((xs.foldl (putL i) l).foldl (keepOne keep) k0)
 | [], _, _, h => h
 | x :: xs, l, ks, h => by
  rw [List.foldl_cons, List.foldl_cons]
  refine keepR_at keep h0 h1 i k0 xs _ _ ?_
  have hi := (List.getElem?_eq_some_iff.1 h).1
  have hb := bit_kept keep (x.2 % 64) h0 h1 (Nat.mod_lt _ (by decide))
  unfold keepR putL
  by_cases hx : x.1.1 = i
  ·rw [if_pos hx, List.foldl_append, List.foldl_cons, List.foldl_nil]
   by_cases hk : kept? keep x.2 = true
   ·rw [if_pos hk, hx, List.getElem?_set_self hi]
    have : ¬ bits .and .u64 (bitN x.2) keep = 0 := hb.1 hk
    exact (congrArg some (if_neg this)).symm
   ·rw [if_neg hk, h]
    have hz : bits .and .u64 (bitN x.2) keep = 0 := Classical.byContradiction fun e => hk (hb.2 e)
    rw [fold_without keep _ hz]
    exact (congrArg some (if_pos hz)).symm
  ·rw [if_neg hx]
   by_cases hk : kept? keep x.2 = true
   ·rw [if_pos hk, List.getElem?_set_ne hx, h]
   ·rw [if_neg hk, h]

theorem keepR_len (keep : Int) : ∀ (xs : List ((Nat × List UInt8) × Nat)) (ks : List (List UInt8)), (xs.foldl (keepR keep) ks).length = ks.length
 | [], _ => rfl
 | x :: xs, ks => by
  rw [List.foldl_cons, keepR_len keep xs]
  unfold keepR
  split
  ·rw [List.length_set]
  ·rfl

theorem bit_all (j : Nat) (h : j < 64) : ¬ bits .and .u64 ((2 ^ j : Nat) : Int) 18446744073709551615 = 0 := (by decide : ∀ j : Nat, j < 64 → ¬ bits .and .u64 ((2 ^ j : Nat) : Int) 18446744073709551615 = 0) j h

theorem keep_all (s : Sec) (hb : ∀ p ∈ s.loose, ∃ j, j < 64 ∧ p.1 = ((2 ^ j : Nat) : Int)) : s.loose.foldl (keepOne 18446744073709551615) s.kept = s.seen := by
 obtain ⟨k, l⟩ := s
 simp only at hb ⊢
 rcases List.eq_nil_or_concat l with rfl | ⟨m, p, rfl⟩
 ·rfl
 ·obtain ⟨j, hj, e⟩ := hb p (by simp)
  unfold Sec.seen
  simp only [List.concat_eq_append, List.foldl_append, List.foldl_cons, List.foldl_nil, List.getLast?_append, List.getLast?_singleton]
  unfold keepOne
  rw [e, if_neg (bit_all j hj)]
  rfl

end Go.Proofs.YtnhbfehfipafoaaGreatDoor

/- Two disks, tied: whatever is done to both, they answer alike. -/
namespace Go.Proofs.YtnhbfehfipafoaaGreatDoor
open Go.RowKit

structure Tied (D : Dsk) (R : RD) : Prop where
 lenK : R.kept.length = D.secs.length
 lenN : R.now.length = D.secs.length
 num : D.number = R.wait.length % 64
 sec : ∀ i s, D.secs[i]? = some s → R.kept[i]? = some s.kept ∧ R.now[i]? = some s.seen ∧ s.loose = looseOf i R.wait
 at' : ∀ x ∈ R.wait, x.1 < R.kept.length
 down : R.down = D.down
 fuse : D.down = false → R.fuse = max D.left (-1)

def newR (n : Nat) : RD := ⟨List.replicate n (noughtB 64), List.replicate n (noughtB 64), [], -1, false⟩

def RD.steps (R : RD) : Bool := !R.down && !decide (R.fuse = 0)

def RD.stepped (R : RD) : RD := if R.down = true then R else if R.fuse = 0 then { R with down := true, fuse := -1 } else if 0 < R.fuse then { R with fuse := R.fuse - 1 } else R

theorem Tied.steps {D : Dsk} {R : RD} (h : Tied D R) : R.steps = D.steps := by
 unfold RD.steps Dsk.steps
 rw [h.down]
 by_cases hd : D.down = false
 ·have := h.fuse hd
  rw [hd]
  by_cases hl : D.left = 0
  ·have : R.fuse = 0 := by omega
   simp [hl, this]
  ·have : ¬ R.fuse = 0 := by omega
   simp [hl, this]
 ·have hd' : D.down = true := by simpa using hd
  rw [hd']; rfl

theorem Tied.same {D E : Dsk} {R S : RD} (h : Tied D R) (hs : E.secs = D.secs) (hn : E.number = D.number) (hk : S.kept = R.kept) (hw : S.now = R.now) (ht : S.wait = R.wait) (hd : S.down = E.down) (hf : E.down = false → S.fuse = max E.left (-1)) : Tied E S := by
 obtain ⟨a, b, c, d, e, -, -⟩ := h
 exact ⟨by rw [hk, hs]; exact a, by rw [hw, hs]; exact b, by rw [hn, ht]; exact c, by rw [hs, hk, hw, ht]; exact d, by rw [ht, hk]; exact e, hd, hf⟩

theorem Tied.stepped {D : Dsk} {R : RD} (h : Tied D R) : Tied D.stepped R.stepped := by
 refine h.same (stepped_secs D) (stepped_number D) ?_ ?_ ?_ ?_ ?_
 ·unfold RD.stepped; split; rfl; split; rfl; split <;> rfl
 ·unfold RD.stepped; split; rfl; split; rfl; split <;> rfl
 ·unfold RD.stepped; split; rfl; split; rfl; split <;> rfl
 ·have hf := h.fuse
  unfold RD.stepped Dsk.stepped
  rw [h.down]
  by_cases hd : D.down = true
  ·rw [if_pos hd]
   split
   ·rw [h.down, hd]
   ·split <;> exact h.down
  ·rw [if_neg hd]
   have hf := hf (by simpa using hd)
   by_cases hl : D.left = 0
   ·rw [if_pos hl, if_pos (by omega)]
   ·rw [if_neg hl, if_neg (show ¬ R.fuse = 0 by omega)]
    by_cases hg : 0 < D.left
    ·rw [if_pos (show D.down = false ∧ 0 < D.left from ⟨by simpa using hd, hg⟩), if_pos (show 0 < R.fuse by omega)]
    ·rw [if_neg (show ¬ (D.down = false ∧ 0 < D.left) from fun h => hg h.2), if_neg (show ¬ 0 < R.fuse by omega)]
     exact h.down
 ·have hf := h.fuse
  unfold RD.stepped Dsk.stepped
  rw [h.down]
  by_cases hd : D.down = true
  ·rw [if_pos hd]
   split
   ·intro e; cases e
   ·split
    ·intro e; simp only at e; rw [hd] at e; cases e
    ·intro e; rw [hd] at e; cases e
  ·rw [if_neg hd]
   have hf := hf (by simpa using hd)
   by_cases hl : D.left = 0
   ·rw [if_pos hl]
    intro e; cases e
   ·rw [if_neg hl, if_neg (show ¬ R.fuse = 0 by omega)]
    by_cases hg : 0 < D.left
    ·rw [if_pos (show D.down = false ∧ 0 < D.left from ⟨by simpa using hd, hg⟩), if_pos (show 0 < R.fuse by omega)]
     intro _
     show R.fuse - 1 = max (D.left - 1) (-1)
     omega
    ·rw [if_neg (show ¬ (D.down = false ∧ 0 < D.left) from fun h => hg h.2), if_neg (show ¬ 0 < R.fuse by omega)]
     intro _
     exact hf

theorem Tied.arm {D : Dsk} {R : RD} (h : Tied D R) (n : Int) : Tied { D with left := n } { R with fuse := max n (-1) } :=
 h.same rfl rfl rfl rfl rfl h.down fun _ => rfl

def RD.over (R : RD) (i : Nat) (l : List UInt8) : RD := { R with now := R.now.set i (padded l), wait := R.wait ++ [(i, padded l)] }

theorem Tied.over {D : Dsk} {R : RD} (h : Tied D R) (i : Nat) (s : Sec) (hs : D.secs[i]? = some s) (l : List UInt8) : Tied (D.over i s l) (R.over i l) := by
 have hi := (List.getElem?_eq_some_iff.1 hs).1
 have hbit : ((2 ^ D.number : Nat) : Int) = bitN R.wait.length := by unfold bitN; rw [h.num]
 refine ⟨by simp [Dsk.over, RD.over, h.lenK], by simp [Dsk.over, RD.over, h.lenN], ?_, fun j t ht => ?_, fun x hx => ?_, h.down, h.fuse⟩
 ·show (D.number + 1) % 64 = (R.wait ++ [(i, padded l)]).length % 64
  rw [h.num, List.length_append, List.length_singleton]
  omega
 ·have hj : (D.secs.set i { s with loose := without ((2 ^ D.number : Nat) : Int) s.loose ++ [(((2 ^ D.number : Nat) : Int), padded l)] })[j]? = some t := ht
  show R.kept[j]? = some t.kept ∧ (R.now.set i (padded l))[j]? = some t.seen ∧ t.loose = looseOf j (R.wait ++ [(i, padded l)])
  rw [looseOf_snoc]
  by_cases e : i = j
  ·subst e
   rw [List.getElem?_set_self hi] at hj
   obtain ⟨a, b, c⟩ := h.sec i s hs
   have hj' := Option.some.inj hj
   subst hj'
   refine ⟨a, ?_, ?_⟩
   ·rw [List.getElem?_set_self (by rw [h.lenN]; exact hi)]
    simp [Sec.seen]
   ·unfold putL
    rw [if_pos rfl, ← c, hbit]
  ·rw [List.getElem?_set_ne e] at hj
   obtain ⟨a, b, c⟩ := h.sec j t hj
   refine ⟨a, ?_, ?_⟩
   ·rw [List.getElem?_set_ne e]; exact b
   ·unfold putL
    rw [if_neg e]; exact c
 ·rcases List.mem_append.1 hx with hx | hx
  ·exact h.at' x hx
  ·rw [List.mem_singleton] at hx
   rw [hx]
   show i < R.kept.length
   rw [h.lenK]; exact hi

def RD.flushed (R : RD) : RD := { R with kept := R.now, wait := [] }

theorem Tied.flushed {D : Dsk} {R : RD} {m k : Nat} (h : Tied D R) (hw : Well D m k) : Tied (D.settled 18446744073709551615) R.flushed := by
 refine ⟨by simp [Dsk.settled, RD.flushed, h.lenN], by simp [Dsk.settled, RD.flushed, h.lenN], rfl, fun i t ht => ?_, fun x hx => (by cases hx), h.down, h.fuse⟩
 have ht' : (D.secs.map (Sec.settled 18446744073709551615))[i]? = some t := ht
 rw [List.getElem?_map, Option.map_eq_some_iff] at ht'
 obtain ⟨s, hs, rfl⟩ := ht'
 obtain ⟨a, b, c⟩ := h.sec i s hs
 have e := keep_all s (hw.bits s (List.mem_of_getElem? hs))
 show R.now[i]? = some (s.loose.foldl (keepOne 18446744073709551615) s.kept) ∧ R.now[i]? = some (s.loose.foldl (keepOne 18446744073709551615) s.kept) ∧ [] = looseOf i []
 rw [e]
 exact ⟨b, b, rfl⟩

def RD.restarted (keep : Int) (R : RD) : RD := ⟨R.wait.zipIdx.foldl (keepR keep) R.kept, R.wait.zipIdx.foldl (keepR keep) R.kept, [], -1, false⟩

theorem Tied.restarted {D : Dsk} {R : RD} (h : Tied D R) (keep : Int) (h0 : 0 ≤ keep) (h1 : keep < 18446744073709551616) : Tied { D.settled keep with left := -1, down := false } (R.restarted keep) := by
 refine ⟨by simp [Dsk.settled, RD.restarted, keepR_len, h.lenK], by simp [Dsk.settled, RD.restarted, keepR_len, h.lenK], rfl, fun i t ht => ?_, fun x hx => (by cases hx), rfl, fun _ => rfl⟩
 have ht' : (D.secs.map (Sec.settled keep))[i]? = some t := ht
 rw [List.getElem?_map, Option.map_eq_some_iff] at ht'
 obtain ⟨s, hs, rfl⟩ := ht'
 obtain ⟨a, b, c⟩ := h.sec i s hs
 have e := keepR_at keep h0 h1 i s.kept R.wait.zipIdx [] R.kept a
 have e' : (R.wait.zipIdx.foldl (keepR keep) R.kept)[i]? = some (s.loose.foldl (keepOne keep) s.kept) := by
  rw [c]; exact e
 exact ⟨e', e', rfl⟩

end Go.Proofs.YtnhbfehfipafoaaGreatDoor

/- What a disk's sectors have, and may have behind a fall: without memory. -/
namespace Go.Proofs.YtnhbfehfipafoaaGreatDoor
open Go.RowKit

def cont (D : Dsk) (j : Nat) : List UInt8 := (D.secs.getD j sec0).seen

def poss (D : Dsk) (j : Nat) (c : List UInt8) : Prop := c = (D.secs.getD j sec0).kept ∨ ∃ p ∈ (D.secs.getD j sec0).loose, p.2 = c

def Clean (D : Dsk) : Prop := ∀ j c, poss D j c → c = cont D j

theorem cont_same {D E : Dsk} (h : E.secs = D.secs) (j : Nat) : cont E j = cont D j := by unfold cont; rw [h]

theorem poss_same {D E : Dsk} (h : E.secs = D.secs) (j : Nat) (c : List UInt8) : poss E j c ↔ poss D j c := by unfold poss; rw [h]

theorem clean_same {D E : Dsk} (h : E.secs = D.secs) (hc : Clean D) : Clean E := fun j c hp => by
 rw [cont_same h]
 exact hc j c ((poss_same h j c).1 hp)

theorem clean_of_loose {D : Dsk} (h : ∀ s ∈ D.secs, s.loose = []) : Clean D := fun j c hp => by
 unfold poss at hp
 unfold cont
 have hl : (D.secs.getD j sec0).loose = [] := by
  rw [List.getD_eq_getElem?_getD]
  cases hj : D.secs[j]? with
  | none => rfl
  | some s => exact h s (List.mem_of_getElem? hj)
 rw [hl] at hp
 rcases hp with rfl | ⟨p, hp, -⟩
 ·unfold Sec.seen; rw [hl]; rfl
 ·cases hp

theorem over_getD (D : Dsk) (i : Nat) (s : Sec) (l : List UInt8) (hi : i < D.secs.length) (j : Nat) : (D.over i s l).secs.getD j sec0 = if j = i then { s with loose := without ((2 ^ D.number : Nat) : Int) s.loose ++ [(((2 ^ D.number : Nat) : Int), padded l)] } else D.secs.getD j sec0 := by
 show (D.secs.set i _).getD j sec0 = _
 rw [List.getD_eq_getElem?_getD, List.getElem?_set, List.getD_eq_getElem?_getD]
 by_cases h : i = j
 ·subst h
  rw [if_pos rfl, if_pos hi, if_pos rfl]
  rfl
 ·rw [if_neg h, if_neg (fun e => h e.symm)]

theorem put_done {D : Dsk} {i : Nat} {t : ByteArray} (hi : i < D.secs.length) (ht : t.size ≤ 64) (hs : D.steps = true) :
  (∀ j, cont (putD D (i : Int) t) j = if j = i then padded t.data.toList else cont D j) ∧ (∀ j c, poss (putD D (i : Int) t) j c → poss D j c ∨ (j = i ∧ c = padded t.data.toList)) ∧ (putD D (i : Int) t).secs.length = D.secs.length ∧ (putD D (i : Int) t).down = D.down := by
 have e : putD D (i : Int) t = D.stepped.over i (D.secs.getD i sec0) t.data.toList := by
  unfold putD
  rw [if_pos ⟨by omega, ht⟩, if_pos hs, Int.toNat_natCast]
 have hi' : i < D.stepped.secs.length := by rw [stepped_secs]; exact hi
 rw [e]
 refine ⟨fun j => ?_, fun j c hp => ?_, by simp [Dsk.over, stepped_secs], ?_⟩
 ·unfold cont
  rw [over_getD _ _ _ _ hi']
  by_cases h : j = i
  ·rw [if_pos h, if_pos h]
   unfold Sec.seen
   simp
  ·rw [if_neg h, if_neg h, stepped_secs]
 ·unfold poss at hp ⊢
  rw [over_getD _ _ _ _ hi'] at hp
  by_cases h : j = i
  ·rw [if_pos h] at hp
   subst h
   rcases hp with h1 | ⟨p, hp, h1⟩
   ·exact .inl (.inl h1)
   ·rcases List.mem_append.1 hp with h2 | h2
    ·exact .inl (.inr ⟨p, (List.mem_filter.1 h2).1, h1⟩)
    ·rw [List.mem_singleton] at h2
     subst h2
     exact .inr ⟨rfl, h1.symm⟩
  ·rw [if_neg h, stepped_secs] at hp
   exact .inl hp
 ·show D.stepped.down = D.down
  unfold Dsk.steps at hs
  simp only [Bool.and_eq_true, Bool.not_eq_true', decide_eq_false_iff_not] at hs
  unfold Dsk.stepped
  rw [if_neg hs.2]
  split <;> rfl

theorem stepped_down {D : Dsk} (hs : D.steps = false) : D.stepped.down = true := by
 unfold Dsk.steps at hs
 unfold Dsk.stepped
 by_cases h : D.left = 0
 ·rw [if_pos h]
 ·rw [if_neg h]
  have hd : D.down = true := by
   cases hd : D.down with
   | true => rfl
   | false => rw [hd, decide_eq_false h] at hs; cases hs
  rw [if_neg (fun h' => by rw [hd] at h'; cases h'.1)]
  exact hd

theorem put_fell {D : Dsk} {i : Nat} {t : ByteArray} (hi : i < D.secs.length) (ht : t.size ≤ 64) (hs : D.steps = false) : (putD D (i : Int) t).secs = D.secs ∧ (putD D (i : Int) t).down = true := by
 have e : putD D (i : Int) t = D.stepped := by
  unfold putD
  rw [if_pos ⟨by omega, ht⟩, if_neg (by rw [hs]; decide)]
 rw [e]
 exact ⟨stepped_secs D, stepped_down hs⟩

theorem fold_poss (keep : Int) : ∀ (l : List (Int × List UInt8)) (k : List UInt8), l.foldl (keepOne keep) k = k ∨ ∃ p ∈ l, p.2 = l.foldl (keepOne keep) k
 | [], _ => .inl rfl
 | p :: t, k => by
  rw [List.foldl_cons]
  rcases fold_poss keep t (keepOne keep k p) with h | ⟨q, hq, h⟩
  ·rw [h]
   unfold keepOne
   split
   ·exact .inl rfl
   ·exact .inr ⟨p, by simp, rfl⟩
  ·exact .inr ⟨q, List.mem_cons_of_mem _ hq, h⟩

theorem settled_getD (keep : Int) (D : Dsk) (j : Nat) : (D.settled keep).secs.getD j sec0 = (D.secs.getD j sec0).settled keep := by
 show (D.secs.map (Sec.settled keep)).getD j sec0 = _
 rw [List.getD_eq_getElem?_getD, List.getD_eq_getElem?_getD, List.getElem?_map]
 cases D.secs[j]? with
 | none => exact (sec0_settled keep).symm
 | some s => rfl

theorem settled_poss (keep : Int) (D : Dsk) (j : Nat) : poss D j (cont (D.settled keep) j) := by
 unfold poss cont
 rw [settled_getD]
 show (D.secs.getD j sec0).loose.foldl (keepOne keep) (D.secs.getD j sec0).kept = _ ∨ _
 rcases fold_poss keep (D.secs.getD j sec0).loose (D.secs.getD j sec0).kept with h | ⟨p, hp, h⟩
 ·exact .inl h
 ·exact .inr ⟨p, hp, h⟩

theorem settled_isClean (keep : Int) (D : Dsk) : Clean (D.settled keep) := clean_of_loose (settled_clean D keep)

theorem flush_done {D : Dsk} {m k : Nat} (hw : Well D m k) (hs : D.steps = true) : (∀ j, cont (flushD D) j = cont D j) ∧ Clean (flushD D) ∧ (flushD D).secs.length = D.secs.length ∧ (flushD D).down = D.down ∧ Well (flushD D) m 0 := by
 have e : flushD D = D.stepped.settled 18446744073709551615 := by unfold flushD; rw [if_pos hs]
 rw [e]
 refine ⟨fun j => ?_, settled_isClean _ _, by simp [Dsk.settled, stepped_secs], ?_, settled_well hw.stepped _⟩
 ·unfold cont
  rw [settled_getD, stepped_secs]
  have hb : ∀ p ∈ (D.secs.getD j sec0).loose, ∃ j, j < 64 ∧ p.1 = ((2 ^ j : Nat) : Int) := by
   rw [List.getD_eq_getElem?_getD]
   cases hj : D.secs[j]? with
   | none => intro p hp; cases hp
   | some s => exact hw.bits s (List.mem_of_getElem? hj)
  exact keep_all (D.secs.getD j sec0) hb
 ·show D.stepped.down = D.down
  unfold Dsk.steps at hs
  simp only [Bool.and_eq_true, Bool.not_eq_true', decide_eq_false_iff_not] at hs
  unfold Dsk.stepped
  rw [if_neg hs.2]
  split <;> rfl

theorem flush_fell {D : Dsk} (hs : D.steps = false) : (flushD D).secs = D.secs ∧ (flushD D).down = true := by
 have e : flushD D = D.stepped := by unfold flushD; rw [if_neg (by rw [hs]; decide)]
 rw [e]
 exact ⟨stepped_secs D, stepped_down hs⟩

theorem cont_newD (n j : Nat) : cont (newD n) j = noughtB 64 := by
 unfold cont newD
 rw [List.getD_eq_getElem?_getD]
 cases h : (List.replicate n sec0)[j]? with
 | none => rfl
 | some s => rw [List.mem_replicate.1 (List.mem_of_getElem? h) |>.2]; rfl

end Go.Proofs.YtnhbfehfipafoaaGreatDoor

/- A text's rest, where no numbers are. -/
namespace Go.Proofs.YtnhbfehfipafoaaGreatDoor
open Go.RowKit

def Code.tail : Code → Code
 | .seq _ b => b
 | c => c

end Go.Proofs.YtnhbfehfipafoaaGreatDoor
