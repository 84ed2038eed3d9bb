/- DiskSays: the walk. -/
import Derived.Test.YtjgodhfnnifchaaDlG
import Derived.Test.YtjgodhfnnifchaaDlH
namespace Go.Proofs.Ytjgodhfnnifchaa
open Go.RowKit

theorem belowTrans {a b c : World} {n : Nat} (h : Below n a b) (k : Below b.heap.size b c) (hn : n ≤ b.heap.size) : Below n a c :=
  ⟨k.os.trans h.os, k.tape.trans h.tape, k.output.trans h.output, Nat.le_trans h.size k.size, fun i hi => (k.block i (Nat.lt_of_lt_of_le hi hn)).trans (h.block i hi)⟩

/-- Both disks, tied, and nothing older turned. -/
structure Both (w W : World) (b1 b2 m k : Nat) (D : Dsk) (R : RD) : Prop where
  disk : DiskO W b1 b1 D
  ref : RefO W b2 b2 R
  tied : Tied D R
  well : Well D m k
  wait : R.wait.length ≤ k
  below : Below w.heap.size w W
  b1 : w.heap.size ≤ b1 ∧ b1 ≤ W.heap.size
  b2 : w.heap.size ≤ b2 ∧ b2 ≤ W.heap.size

theorem Both.later {w W W' : World} {b1 b2 m k : Nat} {D : Dsk} {R : RD} (h : Both w W b1 b2 m k D R) (hb : Below W.heap.size W W') : Both w W' b1 b2 m k D R :=
  ⟨DiskO.later h.disk hb, h.ref.later hb, h.tied, h.well, h.wait, belowTrans h.below hb h.below.size, ⟨h.b1.1, Nat.le_trans h.b1.2 hb.size⟩, ⟨h.b2.1, Nat.le_trans h.b2.2 hb.size⟩⟩

theorem Both.new {w W1 W2 W3 : World} (n : Nat) (h1 : Below w.heap.size w W1) (hd : DiskO W2 W1.heap.size W1.heap.size (newD n)) (h2 : Below W1.heap.size W1 W2) (hr : RefO W3 W2.heap.size W2.heap.size (newR n)) (h3 : Below W2.heap.size W2 W3) : Both w W3 W1.heap.size W2.heap.size n 0 (newD n) (newR n) :=
  ⟨DiskO.later hd h3, hr, new_tied n, newD_well n, Nat.le_refl _, belowTrans (belowTrans h1 h2 h1.size) h3 (Nat.le_trans h1.size h2.size), ⟨h1.size, Nat.le_trans h2.size h3.size⟩, ⟨Nat.le_trans h1.size h2.size, h3.size⟩⟩

/-- Something is done to the one, and then to the other. -/
theorem Both.turn {w W W1 W2 : World} {b1 b2 m k k' : Nat} {D D' : Dsk} {R R' : RD} (h : Both w W b1 b2 m k D R) (hd : DiskO W1 b1 b1 D') (hk : Kept b1 W W1) (hr : RefO W2 b2 b2 R') (hkr : KeptR b2 W1 W2) (ht : Tied D' R') (hw : Well D' m k') (hl : R'.wait.length ≤ k') : Both w W2 b1 b2 m k' D' R' := by
  have e1 := hk.below h.b1.2
  have e2 := hkr.below (Nat.le_trans h.b2.2 hk.size)
  refine ⟨hd.beside hkr, hr, ht, hw, hl, ⟨hkr.os.trans (hk.os.trans h.below.os), hkr.tape.trans (hk.tape.trans h.below.tape), hkr.output.trans (hk.output.trans h.below.output), Nat.le_trans h.below.size (Nat.le_trans hk.size hkr.size), fun i hi => ?_⟩, ⟨h.b1.1, Nat.le_trans h.b1.2 (Nat.le_trans hk.size hkr.size)⟩, ⟨h.b2.1, Nat.le_trans h.b2.2 (Nat.le_trans hk.size hkr.size)⟩⟩
  rw [e2.block i (Nat.lt_of_lt_of_le hi h.b2.1), e1.block i (Nat.lt_of_lt_of_le hi h.b1.1)]
  exact h.below.block i hi

theorem put_wait (R : RD) (at' : Int) (t : ByteArray) : (R.put at' t).wait.length ≤ R.wait.length + 1 := by
  have e := (stepR_same R).2.2
  unfold RD.put
  split
  · split
    · simp [RD.over, e]
    · rw [e]; omega
  · omega

theorem flush_wait (R : RD) : R.flush.wait.length ≤ R.wait.length := by
  have e := (stepR_same R).2.2
  unfold RD.flush
  split
  · simp [RD.flushed]
  · rw [e]; exact Nat.le_refl _

/-- Each act keeps both tied. -/
theorem Both.put {w W W1 W2 : World} {b1 b2 m k : Nat} {D : Dsk} {R : RD} (h : Both w W b1 b2 m k D R) (at' : Int) (t : ByteArray) (hd : DiskO W1 b1 b1 (putD D at' t)) (hk : Kept b1 W W1) (hr : RefO W2 b2 b2 (R.put at' t)) (hkr : KeptR b2 W1 W2) : Both w W2 b1 b2 m (k + 1) (putD D at' t) (R.put at' t) :=
  h.turn hd hk hr hkr (h.tied.put at' t).1 (h.well.put at' t) (Nat.le_trans (put_wait R at' t) (Nat.succ_le_succ h.wait))

theorem Both.flush {w W W1 W2 : World} {b1 b2 m k : Nat} {D : Dsk} {R : RD} (h : Both w W b1 b2 m k D R) (hd : DiskO W1 b1 b1 (flushD D)) (hk : Kept b1 W W1) (hr : RefO W2 b2 b2 R.flush) (hkr : KeptR b2 W1 W2) : Both w W2 b1 b2 m (k + 1) (flushD D) R.flush :=
  h.turn hd hk hr hkr (h.tied.flush h.well).1 (h.well.flush.mono (by omega)) (Nat.le_trans (flush_wait R) (Nat.le_succ_of_le h.wait))

theorem Both.arm {w W W1 W2 : World} {b1 b2 m k : Nat} {D : Dsk} {R : RD} (h : Both w W b1 b2 m k D R) (n : Int) (hd : DiskO W1 b1 b1 { D with left := n }) (hk : Kept b1 W W1) (hr : RefO W2 b2 b2 { R with fuse := max n (-1) }) (hkr : KeptR b2 W1 W2) : Both w W2 b1 b2 m (k + 1) { D with left := n } { R with fuse := max n (-1) } :=
  h.turn hd hk hr hkr (h.tied.arm n) ((h.well.same (E := { D with left := n }) rfl rfl).mono (by omega)) (Nat.le_succ_of_le h.wait)

theorem Both.restart {w W W1 W2 : World} {b1 b2 m k : Nat} {D : Dsk} {R : RD} (h : Both w W b1 b2 m k D R) (keep : Int) (h0 : 0 ≤ keep) (h1 : keep < 18446744073709551616) (hd : DiskO W1 b1 b1 { D.settled keep with left := -1, down := false }) (hk : Kept b1 W W1) (hr : RefO W2 b2 b2 (R.restarted keep)) (hkr : KeptR b2 W1 W2) : Both w W2 b1 b2 m (k + 1) { D.settled keep with left := -1, down := false } (R.restarted keep) :=
  h.turn hd hk hr hkr (h.tied.restarted keep h0 h1) (((settled_well h.well keep).same (E := { D.settled keep with left := -1, down := false }) rfl rfl).mono (by omega)) (Nat.zero_le _)

end Go.Proofs.Ytjgodhfnnifchaa
