/- A disk that isn't armed: writes, one behind the other. -/
import Derived.Test.YtjgodhfnnifchaaDkK
namespace Go.Proofs.Ytjgodhfnnifchaa
open Go.RowKit

/-- Not armed, not down; writes so far have their own bits. -/
structure Quiet (D : Dsk) (m k : Nat) : Prop where
  len : D.secs.length = m
  left : D.left = -1
  down : D.down = false
  num : D.number ≤ k
  few : ∀ s ∈ D.secs, s.loose.length ≤ k
  bits : ∀ s ∈ D.secs, ∀ p ∈ s.loose, ∃ j, j < D.number ∧ p.1 = ((2 ^ j : Nat) : Int)

theorem Quiet.mono {D : Dsk} {m k l : Nat} (h : Quiet D m k) (hl : k ≤ l) : Quiet D m l :=
  ⟨h.len, h.left, h.down, Nat.le_trans h.num hl, fun s hs => Nat.le_trans (h.few s hs) hl, h.bits⟩

theorem Quiet.steps {D : Dsk} {m k : Nat} (h : Quiet D m k) : D.steps = true := by
  unfold Dsk.steps
  rw [h.down, h.left]; decide

theorem Quiet.stepped {D : Dsk} {m k : Nat} (h : Quiet D m k) : D.stepped = D := by
  unfold Dsk.stepped
  rw [if_neg (by rw [h.left]; decide), if_neg (by rw [h.left]; exact fun h => absurd h.2 (by decide))]

def writeErr (D : Dsk) (at' : Int) (t : ByteArray) : Value := if 0 ≤ at' ∧ at' < D.secs.length then (if t.size ≤ 64 then .nilIface else errno 6) else errno 1

def writeD (D : Dsk) (at' : Int) (t : ByteArray) : Dsk := if (0 ≤ at' ∧ at' < D.secs.length) ∧ t.size ≤ 64 then D.wrote at'.toNat (D.secs.getD at'.toNat sec0) t.data.toList else D

theorem pow_ne {i j : Nat} (h : i < j) : ((2 ^ i : Nat) : Int) ≠ ((2 ^ j : Nat) : Int) := fun e => by
  have := Nat.pow_lt_pow_right (a := 2) (by decide) h
  omega

theorem Quiet.write {D : Dsk} {m k : Nat} (h : Quiet D m k) (hk : k < 63) (at' : Int) (t : ByteArray) : Quiet (writeD D at' t) m (k + 1) := by
  unfold writeD
  split
  · rename_i hc
    obtain ⟨⟨h0, h1⟩, ht⟩ := hc
    have hlt : at'.toNat < D.secs.length := by omega
    have hg : D.secs.getD at'.toNat sec0 = D.secs[at'.toNat] := by rw [List.getD_eq_getElem?_getD, List.getElem?_eq_getElem hlt]; rfl
    have hnum : (D.number + 1) % 64 = D.number + 1 := Nat.mod_eq_of_lt (by have := h.num; omega)
    refine ⟨by simp [Dsk.wrote, h.len], h.left, h.down, ?_, fun s hs => ?_, fun s hs p hp => ?_⟩
    · show (D.number + 1) % 64 ≤ k + 1
      rw [hnum]; have := h.num; omega
    · rcases List.mem_or_eq_of_mem_set hs with hm | rfl
      · have := h.few s hm; omega
      · rw [hg]
        have := h.few _ (List.getElem_mem hlt)
        simp only [List.length_append, List.length_singleton]
        omega
    · show ∃ j, j < (D.number + 1) % 64 ∧ _
      rw [hnum]
      rcases List.mem_or_eq_of_mem_set hs with hm | rfl
      · obtain ⟨j, hj, e⟩ := h.bits s hm p hp
        exact ⟨j, by omega, e⟩
      · rw [hg] at hp
        rcases List.mem_append.1 hp with hp | hp
        · obtain ⟨j, hj, e⟩ := h.bits _ (List.getElem_mem hlt) p hp
          exact ⟨j, by omega, e⟩
        · rw [List.mem_singleton] at hp
          rw [hp]
          exact ⟨D.number, by omega, rfl⟩
  · exact h.mono (by omega)

theorem write_any (w : World) (base B : Nat) (D : Dsk) (m k : Nat) (at' : Int) (t : ByteArray) (h : DiskO w base B D) (hq : Quiet D m k) (hk : k < 63) (hm : m ≤ 200) (ht : t.size ≤ 1000000) (hbase : base ≤ w.heap.size) :
    Calls Try.prog 13 #[.pointer (some ⟨B, 0, none⟩), .int .i64 at', .string t] w fun e w' => e = .returned (writeErr D at' t) ∧ DiskO w' base B (writeD D at' t) ∧ Kept base w w' := by
  have later : ∀ {w' : World}, Below w.heap.size w w' → DiskO w' base B D := fun hb => by
    obtain ⟨sv, ls, h⟩ := h
    exact ⟨sv, ls, h.later hb⟩
  by_cases hr : 0 ≤ at' ∧ at' < D.secs.length
  · by_cases hs : t.size ≤ 64
    · obtain ⟨i, rfl⟩ := Int.eq_ofNat_of_zero_le hr.1
      have hlt : i < D.secs.length := by omega
      have e1 : writeErr D (i : Int) t = .nilIface := by unfold writeErr; rw [if_pos hr, if_pos hs]
      have e2 : writeD D (i : Int) t = D.wrote i D.secs[i] t.data.toList := by
        unfold writeD
        rw [if_pos ⟨hr, hs⟩, Int.toNat_natCast, List.getD_eq_getElem?_getD, List.getElem?_eq_getElem hlt]; rfl
      rw [e1, e2]
      have := write_ok w base B D i D.secs[i] t h (List.getElem?_eq_getElem hlt) (by rw [hq.len]; exact hm) hs hq.steps (fun p hp => by
        obtain ⟨j, hj, e⟩ := hq.bits _ (List.getElem_mem hlt) p hp
        rw [e]; exact pow_ne hj) (by have := hq.few _ (List.getElem_mem hlt); omega) hbase
      rw [hq.stepped] at this
      exact this
    · have e1 : writeErr D at' t = errno 6 := by unfold writeErr; rw [if_pos hr, if_neg hs]
      have e2 : writeD D at' t = D := by unfold writeD; rw [if_neg (fun h => hs h.2)]
      rw [e1, e2]
      exact (write_size w base B D at' t h hr (by omega) ht).mono fun e w' ⟨he, hb⟩ => ⟨he, later hb, Kept.of_below hb⟩
  · have e1 : writeErr D at' t = errno 1 := by unfold writeErr; rw [if_neg hr]
    have e2 : writeD D at' t = D := by unfold writeD; rw [if_neg (fun h => hr h.1)]
    rw [e1, e2]
    exact (write_bound w base B D at' t h hr).mono fun e w' ⟨he, hb⟩ => ⟨he, later hb, Kept.of_below hb⟩

theorem sec0_settled (keep : Int) : sec0.settled keep = sec0 := rfl

theorem newD_quiet (n : Nat) : Quiet (newD n) n 0 :=
  ⟨by simp [newD], rfl, rfl, Nat.le_refl _, fun s hs => by rw [(List.mem_replicate.1 hs).2]; exact Nat.le_refl _, fun s hs p hp => by rw [(List.mem_replicate.1 hs).2] at hp; cases hp⟩

theorem settled_quiet {D : Dsk} {m k : Nat} (h : Quiet D m k) (keep : Int) : Quiet (D.settled keep) m 0 :=
  ⟨by simp [Dsk.settled, h.len], h.left, h.down, Nat.le_refl _, fun s hs => by
    obtain ⟨s0, -, rfl⟩ := List.mem_map.1 hs
    exact Nat.le_refl _, fun s hs p hp => by
    obtain ⟨s0, -, rfl⟩ := List.mem_map.1 hs
    cases hp⟩

/-- Behind a flush nothing is loose. -/
theorem settled_clean (D : Dsk) (keep : Int) : ∀ s ∈ (D.settled keep).secs, s.loose = [] := fun s hs => by
  obtain ⟨s0, -, rfl⟩ := List.mem_map.1 hs
  rfl

/-- What would be there if this were kept. -/
def wantL (keep : Int) (s : Sec) : List UInt8 := s.loose.foldl (keepOne keep) s.kept

theorem settled_seen (keep : Int) (s : Sec) : (s.settled keep).seen = wantL keep s := rfl

theorem clean_seen (keep : Int) {s : Sec} (h : s.loose = []) : s.seen = wantL keep s := by
  obtain ⟨kept, loose⟩ := s
  simp only at h
  subst h
  rfl

end Go.Proofs.Ytjgodhfnnifchaa
