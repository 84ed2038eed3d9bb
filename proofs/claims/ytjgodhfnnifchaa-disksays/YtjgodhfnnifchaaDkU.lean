/- A disk: each operation, whatever was done before. -/
import Derived.Test.YtjgodhfnnifchaaDkT
import Derived.Test.YtjgodhfnnifchaaDkN
namespace Go.Proofs.Ytjgodhfnnifchaa
open Go.RowKit

/-- So many sectors; what is loose in each has bits of its own, and is no more than that. -/
structure Well (D : Dsk) (m k : Nat) : Prop where
  len : D.secs.length = m
  num : D.number < 64
  few : ∀ s ∈ D.secs, s.loose.length ≤ k
  apart : ∀ s ∈ D.secs, s.loose.Pairwise fun p q => p.1 ≠ q.1
  bits : ∀ s ∈ D.secs, ∀ p ∈ s.loose, ∃ j, j < 64 ∧ p.1 = ((2 ^ j : Nat) : Int)

theorem Well.mono {D : Dsk} {m k l : Nat} (h : Well D m k) (hl : k ≤ l) : Well D m l :=
  ⟨h.len, h.num, fun s hs => Nat.le_trans (h.few s hs) hl, h.apart, h.bits⟩

/-- What is not of the sectors nor the number doesn't matter. -/
theorem Well.same {D E : Dsk} {m k : Nat} (h : Well D m k) (hs : E.secs = D.secs) (hn : E.number = D.number) : Well E m k := by
  obtain ⟨a, b, c, d, e⟩ := h
  exact ⟨by rw [hs]; exact a, by rw [hn]; exact b, by rw [hs]; exact c, by rw [hs]; exact d, by rw [hs]; exact e⟩

theorem stepped_number (D : Dsk) : D.stepped.number = D.number := by
  unfold Dsk.stepped
  split
  · rfl
  · split <;> rfl

theorem Well.stepped {D : Dsk} {m k : Nat} (h : Well D m k) : Well D.stepped m k := h.same (stepped_secs D) (stepped_number D)

theorem newD_well (n : Nat) : Well (newD n) n 0 :=
  ⟨by simp [newD], show 0 < 64 by decide, fun s hs => by rw [(List.mem_replicate.1 hs).2]; exact Nat.le_refl _, fun s hs => by rw [(List.mem_replicate.1 hs).2]; exact List.Pairwise.nil, fun s hs p hp => by rw [(List.mem_replicate.1 hs).2] at hp; cases hp⟩

theorem settled_well {D : Dsk} {m k : Nat} (h : Well D m k) (keep : Int) : Well (D.settled keep) m 0 :=
  ⟨by simp [Dsk.settled, h.len], show 0 < 64 by decide, fun s hs => by
    obtain ⟨s0, -, rfl⟩ := List.mem_map.1 hs
    exact Nat.le_refl _, fun s hs => by
    obtain ⟨s0, -, rfl⟩ := List.mem_map.1 hs
    exact List.Pairwise.nil, fun s hs p hp => by
    obtain ⟨s0, -, rfl⟩ := List.mem_map.1 hs
    cases hp⟩

theorem Well.over {D : Dsk} {m k : Nat} (h : Well D m k) (i : Nat) (s : Sec) (hs : s ∈ D.secs) (l : List UInt8) : Well (D.over i s l) m (k + 1) := by
  have hsub : ∀ p ∈ without ((2 ^ D.number : Nat) : Int) s.loose, p ∈ s.loose ∧ p.1 ≠ ((2 ^ D.number : Nat) : Int) := fun p hp => by
    have := List.mem_filter.1 hp
    exact ⟨this.1, of_decide_eq_true this.2⟩
  refine ⟨by simp [Dsk.over, h.len], Nat.mod_lt _ (by decide), fun t ht => ?_, fun t ht => ?_, fun t ht p hp => ?_⟩
  · rcases List.mem_or_eq_of_mem_set ht with hm | rfl
    · exact Nat.le_succ_of_le (h.few t hm)
    · have h1 := h.few s hs
      have h2 := List.length_filter_le (fun p : Int × List UInt8 => decide (p.1 ≠ ((2 ^ D.number : Nat) : Int))) s.loose
      simp only [List.length_append, List.length_singleton]
      unfold without
      omega
  · rcases List.mem_or_eq_of_mem_set ht with hm | rfl
    · exact h.apart t hm
    · refine List.pairwise_append.2 ⟨(h.apart s hs).filter _, List.pairwise_singleton _ _, fun p hp q hq => ?_⟩
      rw [List.mem_singleton] at hq
      rw [hq]
      exact (hsub p hp).2
  · rcases List.mem_or_eq_of_mem_set ht with hm | rfl
    · exact h.bits t hm p hp
    · rcases List.mem_append.1 hp with hp | hp
      · exact h.bits s hs p (hsub p hp).1
      · rw [List.mem_singleton] at hp
        rw [hp]
        exact ⟨D.number, h.num, rfl⟩

/-- What Write answers, and what it leaves. -/
def putErr (D : Dsk) (at' : Int) (t : ByteArray) : Value := if 0 ≤ at' ∧ at' < D.secs.length then (if t.size ≤ 64 then stepErr D else errno 6) else errno 1

def putD (D : Dsk) (at' : Int) (t : ByteArray) : Dsk := if (0 ≤ at' ∧ at' < D.secs.length) ∧ t.size ≤ 64 then (if D.steps = true then D.stepped.over at'.toNat (D.secs.getD at'.toNat sec0) t.data.toList else D.stepped) else D

theorem Well.put {D : Dsk} {m k : Nat} (h : Well D m k) (at' : Int) (t : ByteArray) : Well (putD D at' t) m (k + 1) := by
  unfold putD
  split
  · rename_i hc
    split
    · have hlt : at'.toNat < D.secs.length := by omega
      refine h.stepped.over _ _ ?_ _
      rw [List.getD_eq_getElem?_getD, List.getElem?_eq_getElem hlt, stepped_secs]
      exact List.getElem_mem hlt
    · exact h.stepped.mono (by omega)
  · exact h.mono (by omega)

theorem put_any (w : World) (base B : Nat) (D : Dsk) (m k : Nat) (at' : Int) (t : ByteArray) (h : DiskO w base B D) (hq : Well D m k) (hk : k ≤ 1000000) (hm : m ≤ 200) (ht : t.size ≤ 1000000) (hbase : base ≤ w.heap.size) :
    Calls Try.prog 13 #[.pointer (some ⟨B, 0, none⟩), .int .i64 at', .string t] w fun e w' => e = .returned (putErr D at' t) ∧ DiskO w' base B (putD D at' t) ∧ Kept base w w' := by
  by_cases hr : 0 ≤ at' ∧ at' < D.secs.length
  · by_cases hs : t.size ≤ 64
    · have e1 : putErr D at' t = stepErr D := by unfold putErr; rw [if_pos hr, if_pos hs]
      by_cases hst : D.steps = true
      · obtain ⟨i, rfl⟩ := Int.eq_ofNat_of_zero_le hr.1
        have hlt : i < D.secs.length := by omega
        have e2 : putD D (i : Int) t = D.stepped.over i D.secs[i] t.data.toList := by
          unfold putD
          rw [if_pos ⟨hr, hs⟩, if_pos hst, Int.toNat_natCast, List.getD_eq_getElem?_getD, List.getElem?_eq_getElem hlt]; rfl
        have e3 : stepErr D = .nilIface := by unfold stepErr; rw [if_pos hst]
        rw [e1, e2, e3]
        exact write_all w base B D i D.secs[i] t h (List.getElem?_eq_getElem hlt) (by rw [hq.len]; exact hm) hs hst (hq.apart _ (List.getElem_mem hlt)) (Nat.le_trans (hq.few _ (List.getElem_mem hlt)) hk) hbase
      · have e2 : putD D at' t = D.stepped := by unfold putD; rw [if_pos ⟨hr, hs⟩, if_neg hst]
        have e3 : stepErr D = errno 9 := by unfold stepErr; rw [if_neg hst]
        rw [e1, e2, e3]
        exact write_down w base B D at' t h hr hs (by simpa using hst)
    · have e1 : putErr D at' t = errno 6 := by unfold putErr; rw [if_pos hr, if_neg hs]
      have e2 : putD D at' t = D := by unfold putD; rw [if_neg (fun h => hs h.2)]
      rw [e1, e2]
      exact (write_size w base B D at' t h hr (by omega) ht).mono fun e w' ⟨he, hb⟩ => ⟨he, DiskO.later h hb, Kept.of_below hb⟩
  · have e1 : putErr D at' t = errno 1 := by unfold putErr; rw [if_neg hr]
    have e2 : putD D at' t = D := by unfold putD; rw [if_neg (fun h => hr h.1)]
    rw [e1, e2]
    exact (write_bound w base B D at' t h hr).mono fun e w' ⟨he, hb⟩ => ⟨he, DiskO.later h hb, Kept.of_below hb⟩

/-- What Flush leaves. -/
def flushD (D : Dsk) : Dsk := if D.steps = true then D.stepped.settled 18446744073709551615 else D.stepped

theorem Well.flush {D : Dsk} {m k : Nat} (h : Well D m k) : Well (flushD D) m k := by
  unfold flushD
  split
  · exact (settled_well h.stepped _).mono (by omega)
  · exact h.stepped

theorem flush_any (w : World) (base B : Nat) (D : Dsk) (h : DiskO w base B D) (h2 : D.secs.length ≤ 200) :
    Calls Try.prog 17 #[.pointer (some ⟨B, 0, none⟩)] w fun e w' => e = .returned (stepErr D) ∧ DiskO w' base B (flushD D) ∧ Kept base w w' := by
  unfold flushD stepErr
  by_cases hst : D.steps = true
  · rw [if_pos hst, if_pos hst]
    exact flush_ok w base B D h h2 hst
  · rw [if_neg hst, if_neg hst]
    exact flush_down w base B D h (by simpa using hst)

/-- What Read answers. -/
def readS (D : Dsk) (at' : Int) : List UInt8 := if D.down = false ∧ 0 ≤ at' ∧ at' < D.secs.length then (D.secs.getD at'.toNat sec0).seen else []

theorem read_any (w : World) (base B : Nat) (D : Dsk) (at' : Int) (h : DiskO w base B D) (h2 : D.secs.length ≤ 200) :
    Calls Try.prog 15 #[.pointer (some ⟨B, 0, none⟩), .int .i64 at'] w fun e w' => e = .returned (.tuple #[.string ⟨(readS D at').toArray⟩, D.readErr at']) ∧ Below w.heap.size w w' := by
  unfold readS Dsk.readErr
  by_cases hd : D.down = true
  · rw [if_neg (by rw [hd]; exact fun h => absurd h.1 (by decide)), if_pos hd]
    exact read_down w base B D at' h hd
  · have hd' : D.down = false := by simpa using hd
    rw [if_neg hd]
    by_cases hb : 0 ≤ at' ∧ at' < D.secs.length
    · rw [if_pos ⟨hd', hb⟩, if_pos hb]
      obtain ⟨i, rfl⟩ := Int.eq_ofNat_of_zero_le hb.1
      have hlt : i < D.secs.length := by omega
      rw [Int.toNat_natCast, List.getD_eq_getElem?_getD, List.getElem?_eq_getElem hlt]
      exact read_ok w base B D i _ h hd' (List.getElem?_eq_getElem hlt) h2
    · rw [if_neg (fun h => hb h.2), if_neg hb]
      exact read_bound w base B D at' h hd' hb

end Go.Proofs.Ytjgodhfnnifchaa
