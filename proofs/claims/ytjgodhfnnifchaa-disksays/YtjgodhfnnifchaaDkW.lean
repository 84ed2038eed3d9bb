/- Two disks, tied: whatever is done to both, they answer alike. -/
import Derived.Test.YtjgodhfnnifchaaDkV
namespace Go.Proofs.Ytjgodhfnnifchaa
open Go.RowKit

structure Tied (D : Dsk) (R : RD) : Prop where
  lenK : R.kept.length = D.secs.length
  lenN : R.now.length = D.secs.length
  num : D.number = R.wait.length % 64
  sec : ∀ i s, D.secs[i]? = some s → R.kept[i]? = some s.kept ∧ R.now[i]? = some s.seen ∧ s.loose = looseOf i R.wait
  at' : ∀ x ∈ R.wait, x.1 < R.kept.length
  down : R.down = D.down
  fuse : D.down = false → R.fuse = max D.left (-1)

def newR (n : Nat) : RD := ⟨List.replicate n (noughtB 64), List.replicate n (noughtB 64), [], -1, false⟩

theorem new_tied (n : Nat) : Tied (newD n) (newR n) where
  lenK := by simp [newD, newR]
  lenN := by simp [newD, newR]
  num := rfl
  sec i s hs := by
    obtain ⟨hi, e⟩ := List.getElem?_eq_some_iff.1 hs
    have hi' : i < n := by simpa [newD] using hi
    have e' : s = sec0 := by simpa [newD] using e.symm
    subst e'
    refine ⟨?_, ?_, rfl⟩ <;> simp [newR, hi', sec0, Sec.seen, noughtB]
  at' x hx := by cases hx
  down := rfl
  fuse _ := rfl

def RD.steps (R : RD) : Bool := !R.down && !decide (R.fuse = 0)

def RD.stepped (R : RD) : RD := if R.down = true then R else if R.fuse = 0 then { R with down := true, fuse := -1 } else if 0 < R.fuse then { R with fuse := R.fuse - 1 } else R

theorem Tied.steps {D : Dsk} {R : RD} (h : Tied D R) : R.steps = D.steps := by
  unfold RD.steps Dsk.steps
  rw [h.down]
  by_cases hd : D.down = false
  · have := h.fuse hd
    rw [hd]
    by_cases hl : D.left = 0
    · have : R.fuse = 0 := by omega
      simp [hl, this]
    · have : ¬ R.fuse = 0 := by omega
      simp [hl, this]
  · have hd' : D.down = true := by simpa using hd
    rw [hd']; rfl

/-- What is not of the sectors nor the number, is tied by itself. -/
theorem Tied.same {D E : Dsk} {R S : RD} (h : Tied D R) (hs : E.secs = D.secs) (hn : E.number = D.number) (hk : S.kept = R.kept) (hw : S.now = R.now) (ht : S.wait = R.wait) (hd : S.down = E.down) (hf : E.down = false → S.fuse = max E.left (-1)) : Tied E S := by
  obtain ⟨a, b, c, d, e, -, -⟩ := h
  exact ⟨by rw [hk, hs]; exact a, by rw [hw, hs]; exact b, by rw [hn, ht]; exact c, by rw [hs, hk, hw, ht]; exact d, by rw [ht, hk]; exact e, hd, hf⟩

theorem Tied.stepped {D : Dsk} {R : RD} (h : Tied D R) : Tied D.stepped R.stepped := by
  refine h.same (stepped_secs D) (stepped_number D) ?_ ?_ ?_ ?_ ?_
  · unfold RD.stepped; split; rfl; split; rfl; split <;> rfl
  · unfold RD.stepped; split; rfl; split; rfl; split <;> rfl
  · unfold RD.stepped; split; rfl; split; rfl; split <;> rfl
  · have hf := h.fuse
    unfold RD.stepped Dsk.stepped
    rw [h.down]
    by_cases hd : D.down = true
    · rw [if_pos hd]
      split
      · rw [h.down, hd]
      · split <;> exact h.down
    · rw [if_neg hd]
      have hf := hf (by simpa using hd)
      by_cases hl : D.left = 0
      · rw [if_pos hl, if_pos (by omega)]
      · rw [if_neg hl, if_neg (show ¬ R.fuse = 0 by omega)]
        by_cases hg : 0 < D.left
        · rw [if_pos (show D.down = false ∧ 0 < D.left from ⟨by simpa using hd, hg⟩), if_pos (show 0 < R.fuse by omega)]
        · rw [if_neg (show ¬ (D.down = false ∧ 0 < D.left) from fun h => hg h.2), if_neg (show ¬ 0 < R.fuse by omega)]
          exact h.down
  · have hf := h.fuse
    unfold RD.stepped Dsk.stepped
    rw [h.down]
    by_cases hd : D.down = true
    · rw [if_pos hd]
      split
      · intro e; cases e
      · split
        · intro e; simp only at e; rw [hd] at e; cases e
        · intro e; rw [hd] at e; cases e
    · rw [if_neg hd]
      have hf := hf (by simpa using hd)
      by_cases hl : D.left = 0
      · rw [if_pos hl]
        intro e; cases e
      · rw [if_neg hl, if_neg (show ¬ R.fuse = 0 by omega)]
        by_cases hg : 0 < D.left
        · rw [if_pos (show D.down = false ∧ 0 < D.left from ⟨by simpa using hd, hg⟩), if_pos (show 0 < R.fuse by omega)]
          intro _
          show R.fuse - 1 = max (D.left - 1) (-1)
          omega
        · rw [if_neg (show ¬ (D.down = false ∧ 0 < D.left) from fun h => hg h.2), if_neg (show ¬ 0 < R.fuse by omega)]
          intro _
          exact hf

theorem Tied.arm {D : Dsk} {R : RD} (h : Tied D R) (n : Int) : Tied { D with left := n } { R with fuse := max n (-1) } :=
  h.same rfl rfl rfl rfl rfl h.down fun _ => rfl

/-- One write. -/
def RD.over (R : RD) (i : Nat) (l : List UInt8) : RD := { R with now := R.now.set i (padded l), wait := R.wait ++ [(i, padded l)] }

theorem Tied.over {D : Dsk} {R : RD} (h : Tied D R) (i : Nat) (s : Sec) (hs : D.secs[i]? = some s) (l : List UInt8) : Tied (D.over i s l) (R.over i l) := by
  have hi := (List.getElem?_eq_some_iff.1 hs).1
  have hbit : ((2 ^ D.number : Nat) : Int) = bitN R.wait.length := by unfold bitN; rw [h.num]
  refine ⟨by simp [Dsk.over, RD.over, h.lenK], by simp [Dsk.over, RD.over, h.lenN], ?_, fun j t ht => ?_, fun x hx => ?_, h.down, h.fuse⟩
  · show (D.number + 1) % 64 = (R.wait ++ [(i, padded l)]).length % 64
    rw [h.num, List.length_append, List.length_singleton]
    omega
  · have hj : (D.secs.set i { s with loose := without ((2 ^ D.number : Nat) : Int) s.loose ++ [(((2 ^ D.number : Nat) : Int), padded l)] })[j]? = some t := ht
    show R.kept[j]? = some t.kept ∧ (R.now.set i (padded l))[j]? = some t.seen ∧ t.loose = looseOf j (R.wait ++ [(i, padded l)])
    rw [looseOf_snoc]
    by_cases e : i = j
    · subst e
      rw [List.getElem?_set_self hi] at hj
      obtain ⟨a, b, c⟩ := h.sec i s hs
      have hj' := Option.some.inj hj
      subst hj'
      refine ⟨a, ?_, ?_⟩
      · rw [List.getElem?_set_self (by rw [h.lenN]; exact hi)]
        simp [Sec.seen]
      · unfold putL
        rw [if_pos rfl, ← c, hbit]
    · rw [List.getElem?_set_ne e] at hj
      obtain ⟨a, b, c⟩ := h.sec j t hj
      refine ⟨a, ?_, ?_⟩
      · rw [List.getElem?_set_ne e]; exact b
      · unfold putL
        rw [if_neg e]; exact c
  · rcases List.mem_append.1 hx with hx | hx
    · exact h.at' x hx
    · rw [List.mem_singleton] at hx
      rw [hx]
      show i < R.kept.length
      rw [h.lenK]; exact hi

/-- All that was written is kept. -/
def RD.flushed (R : RD) : RD := { R with kept := R.now, wait := [] }

theorem Tied.flushed {D : Dsk} {R : RD} {m k : Nat} (h : Tied D R) (hw : Well D m k) : Tied (D.settled 18446744073709551615) R.flushed := by
  refine ⟨by simp [Dsk.settled, RD.flushed, h.lenN], by simp [Dsk.settled, RD.flushed, h.lenN], rfl, fun i t ht => ?_, fun x hx => (by cases hx), h.down, h.fuse⟩
  have ht' : (D.secs.map (Sec.settled 18446744073709551615))[i]? = some t := ht
  rw [List.getElem?_map, Option.map_eq_some_iff] at ht'
  obtain ⟨s, hs, rfl⟩ := ht'
  obtain ⟨a, b, c⟩ := h.sec i s hs
  have e := keep_all s (hw.bits s (List.mem_of_getElem? hs))
  show R.now[i]? = some (s.loose.foldl (keepOne 18446744073709551615) s.kept) ∧ R.now[i]? = some (s.loose.foldl (keepOne 18446744073709551615) s.kept) ∧ [] = looseOf i []
  rw [e]
  exact ⟨b, b, rfl⟩

/-- Of what was written some is kept. -/
def RD.restarted (keep : Int) (R : RD) : RD := ⟨R.wait.zipIdx.foldl (keepR keep) R.kept, R.wait.zipIdx.foldl (keepR keep) R.kept, [], -1, false⟩

theorem Tied.restarted {D : Dsk} {R : RD} (h : Tied D R) (keep : Int) (h0 : 0 ≤ keep) (h1 : keep < 18446744073709551616) : Tied { D.settled keep with left := -1, down := false } (R.restarted keep) := by
  refine ⟨by simp [Dsk.settled, RD.restarted, keepR_len, h.lenK], by simp [Dsk.settled, RD.restarted, keepR_len, h.lenK], rfl, fun i t ht => ?_, fun x hx => (by cases hx), rfl, fun _ => rfl⟩
  have ht' : (D.secs.map (Sec.settled keep))[i]? = some t := ht
  rw [List.getElem?_map, Option.map_eq_some_iff] at ht'
  obtain ⟨s, hs, rfl⟩ := ht'
  obtain ⟨a, b, c⟩ := h.sec i s hs
  have e := keepR_at keep h0 h1 i s.kept R.wait.zipIdx [] R.kept a
  have e' : (R.wait.zipIdx.foldl (keepR keep) R.kept)[i]? = some (s.loose.foldl (keepOne keep) s.kept) := by
    rw [c]; exact e
  exact ⟨e', e', rfl⟩

end Go.Proofs.Ytjgodhfnnifchaa
