/- The reference: are two operations, are two lists of deeds the same? -/
import Derived.Test.YtnhbfehfipafoaaGreatDoorBgC
import Derived.Test.YtnhbfehfipafoaaGreatDoorWaJ
import Derived.Test.YtnhbfehfipafoaaGreatDoorDkN
import Derived.Test.YtnhbfehfipafoaaGreatDoorBpZ
import Derived.Orders

namespace Go.Proofs.YtnhbfehfipafoaaGreatDoor
open Go.RowKit

def sameO (o p : OpV) : Bool := (o.kind == p.kind) && (o.name.toList == p.name.toList) && (o.n == p.n) && decide (o.v = p.v)

set_option maxRecDepth 100000 in
theorem number_err (b : Bool) (w : World) : Calls Tryz.prog 41 #[okV b] w fun e w' => e = .returned (.int .i64 (if b = true then 0 else 9)) ∧ w' = w := by
 cases b with
 | true =>
  have e0 : okV true = .nilIface := rfl
  rw [e0]
  go_enter Tryz.func41, Tryz.ntmps41
  go_wp2
  go_ret
  exact ⟨rfl, rfl⟩
 | false =>
  have e0 : okV false = .iface 80 (.int .i64 9) := rfl
  rw [e0]
  have ha : (Instr.typeAssert (.iface 80 (.int .i64 9)) 27 80 true).run Tryz.prog w = .ok (.tuple #[.int .i64 9, .bool true]) w := by kernel_rfl
  go_enter Tryz.func41, Tryz.ntmps41
  go_wp2
  go_ret
  exact ⟨rfl, rfl⟩

def DeedsN (w : World) (v : Value) (dss : List (Value × List OpC)) : Prop :=
 ∃ ao cap, v = .slice ao dss.length cap ∧ dss.length ≤ cap ∧ (0 < dss.length → ∃ b off, ao = some ⟨b, off, none⟩ ∧ b < w.heap.size ∧
  ∀ (i : Nat) (p : Value × List OpC), dss[i]? = some p → w.cell? ⟨b, off + i, none⟩ = some p.1 ∧ OpsN w p.1 p.2)

theorem DeedsN.below {w w' : World} {v : Value} {dss : List (Value × List OpC)} (h : DeedsN w v dss) (hb : Below w.heap.size w w') : DeedsN w' v dss := by
 obtain ⟨ao, cap, e, hn, hh⟩ := h
 refine ⟨ao, cap, e, hn, fun h0 => ?_⟩
 obtain ⟨b, off, e', hlt, hc⟩ := hh h0
 exact ⟨b, off, e', Nat.lt_of_lt_of_le hlt hb.size, fun i p hp => ⟨(hb.cell (p := ⟨b, off + i, none⟩) hlt).trans (hc i p hp).1, (hc i p hp).2.below hb⟩⟩

def shortD (dss : List (Value × List OpC)) : Prop := dss.length ≤ 1000 ∧ ∀ p ∈ dss, p.2.length ≤ 1000 ∧ ∀ q ∈ p.2, q.o.v.length ≤ 1000

end Go.Proofs.YtnhbfehfipafoaaGreatDoor

/- The reference: are two lists of deeds the same? -/
namespace Go.Proofs.YtnhbfehfipafoaaGreatDoor
open Go.RowKit

def opsD (dss : List (Value × List OpC)) : List (List OpV) := dss.map fun p => p.2.map (·.o)

theorem OpsN.at {w : World} {v : Value} {os : List OpC} (h : OpsN w v os) {j : Nat} {q : OpC} (hq : os[j]? = some q) : ∃ b off cap, v = .slice (some ⟨b, off, none⟩) os.length cap ∧ b < w.heap.size ∧ w.cell? ⟨b, off + j * 4, none⟩ = some (.int .i64 q.o.kind) ∧ w.cell? ⟨b, off + j * 4 + 1, none⟩ = some (.string q.o.name) ∧ w.cell? ⟨b, off + j * 4 + 2, none⟩ = some (.int .i64 q.o.n) ∧ w.cell? ⟨b, off + j * 4 + 3, none⟩ = some q.row ∧ RowS w q.row q.o.v ∧ ∀ w', Below w.heap.size w w' → RowS w' q.row q.o.v := by
 obtain ⟨ao, cap, rfl, -, hh⟩ := h
 have hj := (List.getElem?_eq_some_iff.1 hq).1
 obtain ⟨b, off, rfl, hlt, hc⟩ := hh (by omega)
 obtain ⟨a0, a1, a2, a3, a4⟩ := hc j q hq
 exact ⟨b, off, cap, rfl, hlt, a0, a1, a2, a3, a4, fun w' hb => a4.below hb (Nat.le_refl _)⟩

theorem OpsN.form {w : World} {v : Value} {os : List OpC} (h : OpsN w v os) : ∃ o c, v = .slice o os.length c := by
 obtain ⟨ao, cap, e, -⟩ := h
 exact ⟨ao, cap, e⟩

end Go.Proofs.YtnhbfehfipafoaaGreatDoor

/- A disk that isn't armed: a deed is always added. Lists of deeds that came in, put together anew. -/
namespace Go.Proofs.YtnhbfehfipafoaaGreatDoor
open Go.RowKit

def Free (D : Dsk) : Prop := D.down = false ∧ D.left < 0

theorem Free.steps {D : Dsk} (h : Free D) : D.steps = true := by
 unfold Dsk.steps
 rw [h.1, decide_eq_false (by have := h.2; omega)]
 rfl

theorem Free.stepped {D : Dsk} (h : Free D) : D.stepped = D := by
 unfold Dsk.stepped
 rw [if_neg (by have := h.2; omega), if_neg (fun h' => by have := h.2; omega)]

theorem Free.put {D : Dsk} (h : Free D) (at' : Int) (t : ByteArray) : Free (putD D at' t) := by
 unfold putD
 split
 ·rw [if_pos h.steps, h.stepped]
  exact h
 ·exact h

theorem Free.flush {D : Dsk} (h : Free D) : Free (flushD D) := by
 unfold flushD
 rw [if_pos h.steps, h.stepped]
 exact h

theorem wipes_free (f : Int) (fr : Nat) : ∀ (c i : Nat) (D : Dsk) (wp : Bool), Free D → (wipesD f fr c i D wp).2.1 = true ∧ Free (wipesD f fr c i D wp).1
 | 0, _, _, _, h => ⟨rfl, h⟩
 | c + 1, i, D, wp, h => by
  unfold wipesD
  rw [if_neg (by rw [h.1]; decide)]
  split
  ·rw [if_pos h.steps]
   exact wipes_free f fr c (i + 1) _ _ (h.put _ _)
  ·exact wipes_free f fr c (i + 1) _ _ h

theorem writes_free (f : Int) (fr : Nat) : ∀ (bs : List ByteArray) (i : Nat) (D : Dsk), Free D → (writesD f fr i bs D).2 = true ∧ Free (writesD f fr i bs D).1
 | [], _, _, h => ⟨rfl, h⟩
 | b :: t, i, D, h => by
  unfold writesD
  rw [if_pos h.steps]
  exact writes_free f fr t (i + 1) _ (h.put _ _)

theorem uncloseB_free {R : Dsk × Bool × Bool} (h1 : R.2.1 = true) (h2 : Free R.1) : uncloseB R = true ∧ Free (uncloseR R).2 := by
 obtain ⟨D, ok, wp⟩ := R
 dsimp only at h1 h2
 subst h1
 cases wp with
 | false => exact ⟨rfl, h2⟩
 | true => exact ⟨by unfold uncloseB; simp [h2.steps], h2.flush⟩

theorem andB_free {D : Dsk} (h : Free D) : andB D true = true ∧ Free (andFlush D true).2 := ⟨by unfold andB; rw [h.steps]; rfl, h.flush⟩

theorem addD_free {f : Int} {fr en mn : Nat} {os : List OpV} {D : Dsk} (h : Free D) : (addD f fr en mn os D).2 = true ∧ Free (addD f fr en mn os D).1 := by
 obtain ⟨w1, w2⟩ := wipes_free f fr (mn - en) en D false h
 obtain ⟨u1, u2⟩ := uncloseB_free w1 w2
 obtain ⟨x1, x2⟩ := writes_free f fr (os.map opS) en _ u2
 obtain ⟨y1, y2⟩ := andB_free x2
 unfold addD
 rw [if_neg (by rw [u1]; decide), x1, if_neg (by rw [y1]; decide), y2.steps]
 exact andB_free (y2.put _ _)

theorem restart_free (D : Dsk) (keep : Int) : Free { D.settled keep with left := -1, down := false } := ⟨rfl, by show (-1 : Int) < 0; decide⟩

def WantT (w W : World) (v : Value) (dss : List (Value × List OpC)) : Prop := W.ownsRow 0 44 1 v dss.length (dss.map (·.1)) ∧ (∀ p ∈ dss, OpsN w p.1 p.2) ∧ Below w.heap.size w W

theorem WantT.later {w W W' : World} {v : Value} {dss : List (Value × List OpC)} (h : WantT w W v dss) (hb : Below W.heap.size W W') : WantT w W' v dss :=
 ⟨ownsKeep h.1 (fun b _ _ hx => hb.block b (heap_lt hx)), h.2.1, h.2.2.trans (hb.mono h.2.2.size)⟩

theorem list_notLog {t : TypeId} (h : listT t) : ¬ logT t := by
 unfold listT at h
 unfold logT diskT
 rcases h with rfl | rfl | rfl <;> decide

theorem WantT.keptW {w W W' : World} {base : Own} {v : Value} {dss : List (Value × List OpC)} (h : WantT w W v dss) (hk : KeptW base W W') (hb : ∀ b, base.mine b → w.heap.size ≤ b) (hW : w.heap.size ≤ W.heap.size) : WantT w W' v dss :=
 ⟨ownsKeep h.1 (fun b _ _ hx => hk.block b (heap_lt hx) (.inr fun cs' t' fz' hx' => by
  rw [hx] at hx'
  simp only [Option.some.injEq, Obj.cells.injEq] at hx'
  rw [← hx'.2.1]
  exact list_notLog (.inl rfl))), h.2.1, h.2.2.trans (hk.below hW hb)⟩

theorem DeedsT.keptW {W W' : World} {base : Nat} {base' : Own} {v : Value} {dss : List (Value × List OpC)} (h : DeedsT base W v dss) (hk : KeptW base' W W') : DeedsT base W' v dss :=
 h.keep fun b _ _ _ hx ht => hk.block b (heap_lt hx) (.inr fun cs' t' fz' hx' => by
  rw [hx] at hx'
  simp only [Option.some.injEq, Obj.cells.injEq] at hx'
  rw [← hx'.2.1]
  exact list_notLog ht)

theorem owns_at {W : World} {base : Nat} {e : TypeId} {o : Option Addr} {n c : Nat} {xs : List Value} (h : W.ownsRow base e 1 (.slice o n c) n xs) (h0 : 0 < n) : ∃ b, o = some ⟨b, 0, none⟩ ∧ b < W.heap.size ∧ n ≤ c ∧ ∀ i x, xs[i]? = some x → W.cell? ⟨b, 0 + i, none⟩ = some x := by
 rcases h.2 with ⟨e', rfl⟩ | ⟨g, cap, cur, e', -, hg, hle, -⟩
 ·omega
 ·simp only [Value.slice.injEq, true_and] at e'
  obtain ⟨rfl, rfl⟩ := e'
  refine ⟨g, rfl, heap_lt hg, hle, fun i x hx => ?_⟩
  have := World.ownsRow.cells (g := g) h rfl i x hx
  rw [Go.WideShapes.add_plain] at this
  exact this

theorem deedsN_of_owns {W : World} {base : Nat} {v : Value} {dss : List (Value × List OpC)} (h : W.ownsRow base 44 1 v dss.length (dss.map (·.1))) (hp : ∀ p ∈ dss, OpsN W p.1 p.2) : DeedsN W v dss := by
 obtain ⟨o, c, rfl, hle⟩ := owns_form h
 refine ⟨o, c, rfl, hle, fun h0 => ?_⟩
 obtain ⟨b, rfl, hlt, -, hc⟩ := owns_at h h0
 exact ⟨b, 0, rfl, hlt, fun i p hi => ⟨hc i p.1 (by rw [List.getElem?_map, hi]; rfl), hp p (List.mem_of_getElem? hi)⟩⟩

theorem WantT.read {w W : World} {v : Value} {dss : List (Value × List OpC)} (h : WantT w W v dss) : DeedsN W v dss := deedsN_of_owns h.1 fun p hp => (h.2.1 p hp).below h.2.2

theorem ops_at : ∀ (os : List OpC) (i : Nat) (q : OpC), os[i]? = some q → ∀ j, j < 4 → (os.flatMap OpC.cells)[i * 4 + j]? = q.cells[j]?
 | o :: t, 0, q, h, j, hj => by
  obtain rfl : o = q := by simpa using h
  rw [List.flatMap_cons, Nat.zero_mul, Nat.zero_add, List.getElem?_append_left (by show j < 4; exact hj)]
 | o :: t, i + 1, q, h, j, hj => by
  rw [List.flatMap_cons, List.getElem?_append_right (by show 4 ≤ _; omega)]
  have := ops_at t i q (by simpa using h) j hj
  rw [← this]
  congr 1
  show (i + 1) * 4 + j - 4 = _
  omega

theorem OpsT.read {base : Nat} {W : World} {v : Value} {os : List OpC} (h : OpsT base W v os) : OpsN W v os := by
 obtain ⟨o, c, rfl, hle⟩ := owns_form h.1
 refine ⟨o, c, rfl, hle, fun h0 => ?_⟩
 rcases h.1.2 with ⟨e', e0⟩ | ⟨g, cap, cur, e', -, hg, -⟩
 ·omega
 ·simp only [Value.slice.injEq, true_and] at e'
  obtain ⟨rfl, rfl⟩ := e'
  refine ⟨g, 0, rfl, heap_lt hg, fun i q hi => ?_⟩
  have hc : ∀ j, j < 4 → W.cell? ⟨g, 0 + i * 4 + j, none⟩ = q.cells[j]? := fun j hj => by
   have h1 := ops_at os i q hi j hj
   obtain ⟨x, hx⟩ : ∃ x, q.cells[j]? = some x := ⟨_, List.getElem?_eq_getElem (show j < 4 from hj)⟩
   rw [hx] at h1 ⊢
   have := World.ownsRow.cells (g := g) h.1 rfl (i * 4 + j) x h1
   rw [Go.WideShapes.add_plain] at this
   rw [Nat.add_assoc]
   exact this
  exact ⟨hc 0 (by decide), hc 1 (by decide), hc 2 (by decide), hc 3 (by decide), (h.2 q (List.mem_of_getElem? hi)).row⟩

theorem DeedsT.read {base : Nat} {W : World} {v : Value} {dss : List (Value × List OpC)} (h : DeedsT base W v dss) : DeedsN W v dss := deedsN_of_owns h.1 fun p hp => (h.2 p hp).read

end Go.Proofs.YtnhbfehfipafoaaGreatDoor

/- A list of deeds is copied; one more is put behind it. -/
namespace Go.Proofs.YtnhbfehfipafoaaGreatDoor
open Go.RowKit

def rowD : Nat → List Nat
 | 1 => [0]
 | 4 => [2, 3]
 | 5 => [4]
 | 6 => [5]
 | 7 => [1, 6]
 | 8 => [7]
 | _ => []

def rowS (base n : Nat) (xs : List Value) (x : Value) (fl : Bool) (i : Nat) (c : Nat → Value) (W : World) : Prop :=
 (i = 1 → fl = false → ∃ o k, c 1 = .slice o n k ∧ W.ownsRow base 44 1 (.slice o n k) n xs) ∧
 (i = 6 → fl = false → ∃ B, c 6 = .slice (some ⟨B, 0, none⟩) 1 1 ∧ W.cell? ⟨B, 0, none⟩ = some x ∧ B < W.heap.size) ∧
 (i = 7 → ∃ o k, c 7 = .slice o (n + 1) k ∧ W.ownsRow base 44 1 (.slice o (n + 1) k) (n + 1) (xs ++ [x])) ∧
 (i = 8 → c 8 = c 7)

end Go.Proofs.YtnhbfehfipafoaaGreatDoor

/- The log under a walk: what is known of it while deeds go in, and what behind a fall. -/
namespace Go.Proofs.YtnhbfehfipafoaaGreatDoor
open Go.RowKit

structure WalI (E : Dsk) (en : Nat) (ws : List (List OpV)) : Prop where
 well : Well E 60 0
 clean : Clean E
 up : E.down = false
 ds : (saysL 5 1 59 (cont E)).ds = ws
 e : (saysL 5 1 59 (cont E)).e = en

structure WalZ (E : Dsk) (ws ls : List (List OpV)) : Prop where
 well : ∃ k, Well E 60 k
 ds : ∀ c : Nat → List UInt8, (∀ j, poss E j (c j)) → (saysL 5 1 59 c).ds = ws ∨ (saysL 5 1 59 c).ds = ls

theorem WalI.en_le {E : Dsk} {en : Nat} {ws : List (List OpV)} (h : WalI E en ws) : en ≤ 59 := (says_from h.ds h.e).1

theorem WalI.full {E : Dsk} {en : Nat} {ws ls : List (List OpV)} (h : WalI E en ws) : WalZ E ws ls where
 well := ⟨0, h.well⟩
 ds := fun c hc => by
  obtain rfl : c = cont E := funext fun j => h.clean j _ (hc j)
  exact .inl h.ds

theorem addF_nought {os : List OpV} {r : Nat} (h : addF os r = 0) : os.length ≤ 12 ∧ os.length < r ∧ packF os = 0 := by
 unfold addF at h
 split at h
 ·cases h
 ·split at h
  ·cases h
  ·exact ⟨by omega, by omega, h⟩

theorem WalI.added {E : Dsk} {en : Nat} {ws : List (List OpV)} {os : List OpV} (h : WalI E en ws) (hf : addF os (59 - en) = 0) (ht : (addD 5 1 en 59 os E).2 = true) : WalI (addD 5 1 en 59 os E).1 (en + os.length + 1) (ws ++ [os]) := by
 obtain ⟨h1, h2, h3, h4, h5⟩ := (addD_facts h.well (by omega) (addF_nought hf).2.1 (packF_all (addF_nought hf).2.2) h.ds h.e).1 ht
 exact ⟨h3, h2, h1.trans h.up, h4, h5⟩

def backD (E : Dsk) (keep : Int) : Dsk := { E.settled keep with left := -1, down := false }

theorem WalZ.back {E : Dsk} {ws ls : List (List OpV)} (h : WalZ E ws ls) (keep : Int) : ∃ gs en, (gs = ws ∨ gs = ls) ∧ WalI (backD E keep) en gs ∧ Free (backD E keep) := by
 have hs : (backD E keep).secs = (E.settled keep).secs := rfl
 have hc : ∀ j, cont (backD E keep) j = cont (E.settled keep) j := cont_same hs
 obtain ⟨k, hw⟩ := h.well
 refine ⟨_, _, ?_, ⟨?_, clean_same hs (settled_isClean keep E), rfl, rfl, rfl⟩, restart_free E keep⟩
 ·rw [show cont (backD E keep) = cont (E.settled keep) from funext hc]
  exact h.ds _ fun j => settled_poss keep E j
 ·have := settled_well hw keep
  exact ⟨this.len, this.num, this.few, this.apart, this.bits⟩

end Go.Proofs.YtnhbfehfipafoaaGreatDoor

/- A store's heads and texts on a disk: without memory. -/
namespace Go.Proofs.YtnhbfehfipafoaaGreatDoor
open Go.RowKit

def markB : List UInt8 := [98, 97, 115, 105, 115, 107, 101, 101, 112]

structure Hd where
 pl : Nat
 age : Int
 first : Int
 long : Int

structure Hd.ok (h : Hd) : Prop where
 pl : h.pl ≤ 1
 age : 0 ≤ h.age ∧ h.age < 4294967296
 first : 0 < h.first ∧ h.first < 4294967296
 long : 0 ≤ h.long ∧ h.long ≤ 2560

def numAt (l : List UInt8) (k : Nat) : Int := (bt l k : Int) + 256 * (bt l (k + 1) : Int) + 65536 * (bt l (k + 2) : Int) + 16777216 * (bt l (k + 3) : Int)

theorem numAt_range (l : List UInt8) (k : Nat) : 0 ≤ numAt l k ∧ numAt l k < 4294967296 := by
 have h0 := bt_le l k
 have h1 := bt_le l (k + 1)
 have h2 := bt_le l (k + 2)
 have h3 := bt_le l (k + 3)
 unfold numAt
 omega

def hdB (h : Hd) : List UInt8 := markB ++ (fourB h.age ++ (fourB h.first ++ fourB h.long))

theorem hdB_len (h : Hd) : (hdB h).length = 21 := rfl

def unHd (p : Nat) (s : List UInt8) : Option Hd := if s.take 9 = markB ∧ 0 < numAt s 13 ∧ numAt s 17 ≤ 2560 then some ⟨p, numAt s 9, numAt s 13, numAt s 17⟩ else none

theorem unHd_ok {p : Nat} {s : List UInt8} {h : Hd} (hp : p ≤ 1) (e : unHd p s = some h) : h.ok ∧ h.pl = p := by
 unfold unHd at e
 split at e
 ·rename_i hc
  obtain rfl := Option.some.inj e
  exact ⟨⟨hp, numAt_range s 9, ⟨hc.2.1, (numAt_range s 13).2⟩, ⟨(numAt_range s 17).1, hc.2.2⟩⟩, rfl⟩
 ·cases e

theorem numAt_hdB (h : Hd) (ok : h.ok) : numAt (padded (hdB h)) 9 = h.age ∧ numAt (padded (hdB h)) 13 = h.first ∧ numAt (padded (hdB h)) 17 = h.long := by
 have e : ∀ (k : Nat) (z : Int), (padded (hdB h)).getD k 0 = lowB z → (bt (padded (hdB h)) k : Int) = z % 256 := fun k z hk => by
  unfold bt
  rw [hk]
  exact low_nat z
 obtain ⟨-, ha, hf, hl⟩ := ok
 refine ⟨?_, ?_, ?_⟩
 ·unfold numAt
  rw [e 9 h.age rfl, e (9 + 1) (h.age / 256) rfl, e (9 + 2) (h.age / 65536) rfl, e (9 + 3) (h.age / 16777216) rfl]
  omega
 ·unfold numAt
  rw [e 13 h.first rfl, e (13 + 1) (h.first / 256) rfl, e (13 + 2) (h.first / 65536) rfl, e (13 + 3) (h.first / 16777216) rfl]
  omega
 ·unfold numAt
  rw [e 17 h.long rfl, e (17 + 1) (h.long / 256) rfl, e (17 + 2) (h.long / 65536) rfl, e (17 + 3) (h.long / 16777216) rfl]
  omega

theorem unHd_hdB (h : Hd) (ok : h.ok) : unHd h.pl (padded (hdB h)) = some h := by
 obtain ⟨h1, h2, h3⟩ := numAt_hdB h ok
 unfold unHd
 rw [h1, h2, h3, if_pos ⟨rfl, ok.first.1, ok.long.2⟩]

def newer (a b : Hd) : Bool := decide (0 < (b.age - a.age) % 4294967296 ∧ (b.age - a.age) % 4294967296 < 2147483648)

def newestC (c : Nat → List UInt8) : Option Hd :=
 match unHd 0 (c 0) with
 | none => unHd 1 (c 1)
 | some a => match unHd 1 (c 1) with
  | none => some a
  | some b => if newer a b = true then some b else some a

theorem newest_or {c : Nat → List UInt8} {h : Hd} (e : newestC c = some h) : (unHd 0 (c 0) = some h) ∨ (unHd 1 (c 1) = some h) := by
 unfold newestC at e
 cases h0 : unHd 0 (c 0) with
 | none => rw [h0] at e; exact .inr e
 | some a =>
  rw [h0] at e
  cases h1 : unHd 1 (c 1) with
  | none => rw [h1] at e; exact .inl e
  | some b =>
   rw [h1] at e
   dsimp only at e
   split at e
   ·exact .inr e
   ·exact .inl e

theorem newest_ok {c : Nat → List UInt8} {h : Hd} (e : newestC c = some h) : h.ok ∧ unHd h.pl (c h.pl) = some h := by
 rcases newest_or e with h1 | h1
 ·obtain ⟨h2, h3⟩ := unHd_ok (by decide) h1
  exact ⟨h2, by rw [h3]; exact h1⟩
 ·obtain ⟨h2, h3⟩ := unHd_ok (by decide) h1
  exact ⟨h2, by rw [h3]; exact h1⟩

theorem newest_same {c c' : Nat → List UInt8} (h0 : c' 0 = c 0) (h1 : c' 1 = c 1) : newestC c' = newestC c := by
 unfold newestC
 rw [h0, h1]

def nextHd (h : Hd) (F : Int) (n : Nat) : Hd := ⟨(h.pl + 1) % 2, (h.age + 1) % 4294967296, F, n⟩

theorem nextHd_ok (h : Hd) {F : Int} {n : Nat} (hF : 0 < F ∧ F < 4294967296) (hn : n ≤ 2560) : (nextHd h F n).ok := by
 refine ⟨?_, ?_, hF, ?_⟩
 ·show (h.pl + 1) % 2 ≤ 1
  omega
 ·show 0 ≤ (h.age + 1) % 4294967296 ∧ (h.age + 1) % 4294967296 < 4294967296
  omega
 ·show 0 ≤ (n : Int) ∧ (n : Int) ≤ 2560
  omega

theorem newest_next {c c' : Nat → List UInt8} {h : Hd} {F : Int} {n : Nat} (e : newestC c = some h) (hF : 0 < F ∧ F < 4294967296) (hn : n ≤ 2560)
  (h0 : c' h.pl = c h.pl) (h1 : c' (nextHd h F n).pl = padded (hdB (nextHd h F n))) : newestC c' = some (nextHd h F n) := by
 obtain ⟨ok, hu⟩ := newest_ok e
 have hn2 := unHd_hdB _ (nextHd_ok h hF hn)
 rw [← h1] at hn2
 rw [← h0] at hu
 have ha := ok.age
 have hp := ok.pl
 obtain ⟨N, hN⟩ : ∃ N, nextHd h F n = N := ⟨_, rfl⟩
 have hNa : N.age = (h.age + 1) % 4294967296 := by rw [← hN]; rfl
 have hNp : N.pl = (h.pl + 1) % 2 := by rw [← hN]; rfl
 rw [hN] at hn2 ⊢
 unfold newestC
 rcases (show h.pl = 0 ∨ h.pl = 1 by omega) with e0 | e0
 ·rw [e0] at hu hNp
  rw [show N.pl = 1 from hNp] at hn2
  rw [hu, hn2]
  have : newer h N = true := by unfold newer; rw [hNa]; exact decide_eq_true (by omega)
  dsimp only
  rw [if_pos this]
 ·rw [e0] at hu hNp
  rw [show N.pl = 0 from hNp] at hn2
  rw [hn2, hu]
  have : newer N h = false := by unfold newer; rw [hNa]; exact decide_eq_false (by omega)
  dsimp only
  rw [if_neg (by rw [this]; decide)]

def readT (c : Nat → List UInt8) : Nat → Nat → Nat → List UInt8
 | 0, _, _ => []
 | k + 1, i, n => if n = 0 then [] else (c i).take n ++ readT c k (i + 1) (n - 64)

theorem readT_zero (c : Nat → List UInt8) (k i : Nat) : readT c k i 0 = [] := by
 cases k with
 | zero => rfl
 | succ k => unfold readT; rw [if_pos rfl]

theorem readT_congr {c c' : Nat → List UInt8} : ∀ (k i n : Nat), (∀ j, i ≤ j → j < i + k → c' j = c j) → readT c' k i n = readT c k i n
 | 0, _, _, _ => rfl
 | k + 1, i, n, h => by
  unfold readT
  rw [h i (Nat.le_refl _) (by omega), readT_congr k (i + 1) (n - 64) (fun j h1 h2 => h j (by omega) (by omega))]

def rawT : Nat → Nat → List UInt8 → Dsk → Dsk × Bool
 | 0, _, _, D => (D, true)
 | k + 1, i, t, D => if t = [] then (D, true) else if D.steps = true then rawT k (i + 1) (t.drop 64) (putD D (i : Int) (secB (t.take 64))) else (putD D (i : Int) (secB (t.take 64)), false)

theorem secB_size (l : List UInt8) : (secB l).size = l.length := by
 show l.toArray.size = l.length
 rw [List.size_toArray]

theorem padded_take (t : List UInt8) : (padded (t.take 64)).take t.length = t.take 64 := by
 unfold padded
 by_cases h : 64 ≤ t.length
 ·have h1 : (t.take 64).length = 64 := by rw [List.length_take]; omega
  rw [h1]
  show (t.take 64 ++ []).take t.length = _
  rw [List.append_nil, List.take_of_length_le (by omega)]
 ·have h1 : t.take 64 = t := List.take_of_length_le (by omega)
  rw [h1, List.take_left' rfl]

theorem rawT_facts : ∀ (k i : Nat) (t : List UInt8) (D : Dsk) (m q : Nat), Well D m q → i + k ≤ m → t.length ≤ 64 * k →
  Well (rawT k i t D).1 m (q + k) ∧ (∀ j x, poss (rawT k i t D).1 j x → poss D j x ∨ (i ≤ j ∧ j < i + k)) ∧
  ((rawT k i t D).2 = true → (rawT k i t D).1.down = D.down ∧ (∀ j, (j < i ∨ i + k ≤ j) → cont (rawT k i t D).1 j = cont D j) ∧ readT (cont (rawT k i t D).1) k i t.length = t)
 | 0, _, t, _, _, _, hw, _, ht => by
  have : t = [] := List.length_eq_zero_iff.1 (by omega)
  subst this
  exact ⟨hw, fun _ _ h => .inl h, fun _ => ⟨rfl, fun _ _ => rfl, rfl⟩⟩
 | k + 1, i, t, D, m, q, hw, hi, ht => by
  have hlen : D.secs.length = m := hw.len
  have hsz : (secB (t.take 64)).size ≤ 64 := by rw [secB_size, List.length_take]; omega
  unfold rawT
  by_cases h0 : t = []
  ·subst h0
   rw [if_pos rfl]
   exact ⟨hw.mono (by omega), fun _ _ h => .inl h, fun _ => ⟨rfl, fun _ _ => rfl, readT_zero _ _ _⟩⟩
  rw [if_neg h0]
  have hw1 := hw.put (i : Int) (secB (t.take 64))
  cases hs : D.steps with
  | false =>
   rw [if_neg (by decide)]
   obtain ⟨g1, g2⟩ := put_fell (D := D) (i := i) (t := secB (t.take 64)) (by omega) hsz hs
   exact ⟨hw1.mono (by omega), fun j x hp => .inl ((poss_same g1 j x).1 hp), fun h => by cases h⟩
  | true =>
   rw [if_pos rfl]
   obtain ⟨g1, g2, g3, g4⟩ := put_done (D := D) (i := i) (t := secB (t.take 64)) (by omega) hsz hs
   obtain ⟨k1, k2, k3⟩ := rawT_facts k (i + 1) (t.drop 64) (putD D (i : Int) (secB (t.take 64))) m (q + 1) hw1 (by omega) (by rw [List.length_drop]; omega)
   refine ⟨k1.mono (by omega), fun j x hp => ?_, fun hok => ?_⟩
   ·rcases k2 j x hp with h | h
    ·rcases g2 j x h with h | h
     ·exact .inl h
     ·exact .inr ⟨by omega, by omega⟩
    ·exact .inr ⟨by omega, by omega⟩
   ·obtain ⟨m1, m2, m3⟩ := k3 hok
    refine ⟨m1.trans g4, fun j hj => ?_, ?_⟩
    ·rw [m2 j (by omega), g1, if_neg (by omega)]
    ·unfold readT
     have hne : t.length ≠ 0 := fun h => h0 (List.length_eq_zero_iff.1 h)
     rw [if_neg hne, m2 i (by omega), g1, if_pos rfl]
     rw [List.length_drop] at m3
     rw [m3]
     show (padded (t.take 64)).take t.length ++ _ = t
     rw [padded_take, List.take_append_drop]

theorem rawT_free : ∀ (k i : Nat) (t : List UInt8) (D : Dsk), Free D → (rawT k i t D).2 = true ∧ Free (rawT k i t D).1
 | 0, _, _, _, h => ⟨rfl, h⟩
 | k + 1, i, t, D, h => by
  unfold rawT
  split
  ·exact ⟨rfl, h⟩
  ·rw [if_pos h.steps]
   exact rawT_free k (i + 1) _ _ (h.put _ _)

def layD (n : Hd) (t : List UInt8) (D : Dsk) : Dsk × Bool :=
 if andB (rawT 40 (2 + n.pl * 40) t D).1 (rawT 40 (2 + n.pl * 40) t D).2 = false then ((andFlush (rawT 40 (2 + n.pl * 40) t D).1 (rawT 40 (2 + n.pl * 40) t D).2).2, false)
 else
  ((andFlush (putD (andFlush (rawT 40 (2 + n.pl * 40) t D).1 (rawT 40 (2 + n.pl * 40) t D).2).2 (n.pl : Int) (secB (hdB n))) (andFlush (rawT 40 (2 + n.pl * 40) t D).1 (rawT 40 (2 + n.pl * 40) t D).2).2.steps).2,
   andB (putD (andFlush (rawT 40 (2 + n.pl * 40) t D).1 (rawT 40 (2 + n.pl * 40) t D).2).2 (n.pl : Int) (secB (hdB n))) (andFlush (rawT 40 (2 + n.pl * 40) t D).1 (rawT 40 (2 + n.pl * 40) t D).2).2.steps)

theorem layD_free {n : Hd} {t : List UInt8} {D : Dsk} (h : Free D) : (layD n t D).2 = true ∧ Free (layD n t D).1 := by
 obtain ⟨x1, x2⟩ := rawT_free 40 (2 + n.pl * 40) t D h
 obtain ⟨y1, y2⟩ := andB_free x2
 unfold layD
 rw [x1, if_neg (by rw [y1]; decide), y2.steps]
 exact andB_free (y2.put _ _)

def Out (n : Hd) (j : Nat) : Prop := j ≠ n.pl ∧ (j < 2 + n.pl * 40 ∨ 2 + n.pl * 40 + 40 ≤ j)

theorem layD_facts {n : Hd} {t : List UInt8} {D : Dsk} {m : Nat} (hw : Well D m 0) (hm : 82 ≤ m) (hn : n.ok) (ht : t.length ≤ 2560) :
  Well (layD n t D).1 m 41 ∧
  ((layD n t D).2 = true → (layD n t D).1.down = D.down ∧ Clean (layD n t D).1 ∧ Well (layD n t D).1 m 0 ∧ cont (layD n t D).1 n.pl = padded (hdB n) ∧ readT (cont (layD n t D).1) 40 (2 + n.pl * 40) t.length = t ∧ ∀ j, Out n j → cont (layD n t D).1 j = cont D j) ∧
  (Clean D → (layD n t D).2 = false → ∀ c : Nat → List UInt8, (∀ j, poss (layD n t D).1 j (c j)) →
   (c n.pl = cont D n.pl ∨ (c n.pl = padded (hdB n) ∧ readT c 40 (2 + n.pl * 40) t.length = t)) ∧ ∀ j, Out n j → c j = cont D j) := by
 have hpl := hn.pl
 have hin : 2 + n.pl * 40 + 40 ≤ m := by omega
 obtain ⟨x1, x2, x3⟩ := rawT_facts 40 (2 + n.pl * 40) t D m 0 hw hin (by omega)
 obtain ⟨X, hX⟩ : ∃ X, rawT 40 (2 + n.pl * 40) t D = X := ⟨_, rfl⟩
 unfold layD
 rw [hX] at x1 x2 x3 ⊢
 rw [Nat.zero_add] at x1
 by_cases hx : andB X.1 X.2 = false
 ·rw [if_pos hx]
  refine ⟨(andFlush_well x1).mono (by omega), fun h => absurd (show false = true from h) Bool.false_ne_true, fun hcl _ c hc => ?_⟩
  have hs := andFlush_secs hx
  have hp : ∀ j, c j = cont D j ∨ (2 + n.pl * 40 ≤ j ∧ j < 2 + n.pl * 40 + 40) := fun j => by
   rcases x2 j (c j) ((poss_same hs j (c j)).1 (hc j)) with h1 | h1
   ·exact .inl (hcl j _ h1)
   ·exact .inr h1
  refine ⟨.inl ((hp n.pl).resolve_right (by omega)), fun j hj => (hp j).resolve_right ?_⟩
  have := hj.2
  omega
 rw [if_neg hx]
 have hx' : andB X.1 X.2 = true := by simpa using hx
 obtain ⟨y0, y1, y2, y3, y4, y5⟩ := andFlush_done x1 hx'
 obtain ⟨z1, z2, z3⟩ := x3 y0
 obtain ⟨D2, hD2⟩ : ∃ D2, (andFlush X.1 X.2).2 = D2 := ⟨_, rfl⟩
 rw [hD2] at y1 y2 y3 y4 y5 ⊢
 have hl2 : D2.secs.length = m := y5.len
 have hout : ∀ j, (j < 2 + n.pl * 40 ∨ 2 + n.pl * 40 + 40 ≤ j) → cont D2 j = cont D j := fun j hj => by rw [y1, z2 j hj]
 have htx : readT (cont D2) 40 (2 + n.pl * 40) t.length = t := by
  rw [show cont D2 = cont X.1 from funext y1]
  exact z3
 have hsz : (secB (hdB n)).size ≤ 64 := by rw [secB_size, hdB_len]; decide
 have hYw := y5.put (n.pl : Int) (secB (hdB n))
 cases hs2 : D2.steps with
 | false =>
  obtain ⟨g1, -⟩ := put_fell (D := D2) (i := n.pl) (t := secB (hdB n)) (by omega) hsz hs2
  refine ⟨(andFlush_well hYw).mono (by omega), (fun h => absurd (show false = true from h) Bool.false_ne_true), fun _ _ c hc => ?_⟩
  have hp : ∀ j, c j = cont D2 j := fun j => y2 j _ ((poss_same (D := D2) g1 j (c j)).1 (hc j))
  exact ⟨.inl (by rw [hp]; exact hout _ (by omega)), fun j hj => by rw [hp]; exact hout j hj.2⟩
 | true =>
  obtain ⟨g1, g2, g3, g4⟩ := put_done (D := D2) (i := n.pl) (t := secB (hdB n)) (by omega) hsz hs2
  obtain ⟨Y, hY⟩ : ∃ Y, putD D2 (n.pl : Int) (secB (hdB n)) = Y := ⟨_, rfl⟩
  rw [hY] at g1 g2 g3 g4 hYw ⊢
  have hdata : (secB (hdB n)).data.toList = hdB n := rfl
  rw [hdata] at g1 g2
  have htx2 : ∀ c : Nat → List UInt8, (∀ j, j ≠ n.pl → c j = cont D2 j) → readT c 40 (2 + n.pl * 40) t.length = t := fun c hc => by
   rw [readT_congr (c := cont D2) 40 _ _ (fun j h1 h2 => hc j (by omega))]
   exact htx
  refine ⟨(andFlush_well hYw).mono (by omega), fun hb => ?_, fun _ hb c hc => ?_⟩
  ·have hb : andB Y true = true := hb
   obtain ⟨-, q1, q2, -, q4, q5⟩ := andFlush_done hYw hb
   have hother : ∀ j, j ≠ n.pl → cont (andFlush Y true).2 j = cont D2 j := fun j hj => by rw [q1, g1, if_neg hj]
   exact ⟨by rw [q4, g4, y4, z1], q2, q5, by rw [q1, g1, if_pos rfl], htx2 _ hother, fun j hj => by rw [hother j hj.1]; exact hout j hj.2⟩
  ·have hb : andB Y true = false := hb
   have hsx := andFlush_secs hb
   have hp : ∀ j, c j = cont D2 j ∨ (j = n.pl ∧ c j = padded (hdB n)) := fun j => by
    rcases g2 j (c j) ((poss_same hsx j (c j)).1 (hc j)) with h1 | h1
    ·exact .inl (y2 j _ h1)
    ·exact .inr h1
   have hother : ∀ j, j ≠ n.pl → c j = cont D2 j := fun j hj => (hp j).resolve_right (fun h => hj h.1)
   refine ⟨?_, fun j hj => by rw [hother j hj.1]; exact hout j hj.2⟩
   rcases hp n.pl with h | ⟨-, h⟩
   ·exact .inl (by rw [h]; exact hout _ (by omega))
   ·exact .inr ⟨h, htx2 c hother⟩

end Go.Proofs.YtnhbfehfipafoaaGreatDoor

/- Values by their numbers; operations that have come up. -/
namespace Go.Proofs.YtnhbfehfipafoaaGreatDoor
open Go.RowKit

def upd (c : Nat → Value) (i : Nat) (v : Value) : Nat → Value := fun j => if j = i then v else c j

theorem upd_self (c : Nat → Value) (i : Nat) (v : Value) : upd c i v i = v := if_pos rfl

theorem upd_ne (c : Nat → Value) {i j : Nat} (v : Value) (h : j ≠ i) : upd c i v j = c j := if_neg h

theorem listed_not {L : Array Bool} {i : Nat} (h : L.getD i true = false) : ¬ L.getD i false = true := fun h' => by
 by_cases hl : i < L.size
 ·simp [hl] at h h'; rw [h] at h'; cases h'
 ·simp [Array.getElem?_eq_none (Nat.le_of_not_lt hl)] at h'

theorem listed_old {L : Array Bool} {i j : Nat} (hne : i ≠ j) (h : (L.setIfInBounds i true).getD j false = true) : L.getD j false = true := by rwa [getD_set_ne false hne] at h

theorem listed_new {L : Array Bool} {i : Nat} (h : L.getD i true = false) : (L.setIfInBounds i true).getD i false = true := by
 have hl : i < L.size := by
  by_cases hl : i < L.size
  ·exact hl
  ·simp [Array.getElem?_eq_none (Nat.le_of_not_lt hl)] at h
 simp [hl]

end Go.Proofs.YtnhbfehfipafoaaGreatDoor

/- Regions that draw their order, and make, and call: what each operation answered stands while others come up; the last one may write. -/
namespace Go.Proofs.YtnhbfehfipafoaaGreatDoor
open Go.RowKit

structure FS (deps : Nat → List Nat) (kv : Nat → Option Value) (Sp : Nat → (Nat → Value) → World → Prop) (w : World) (L : Array Bool) (c : Nat → Value) (W : World) : Prop where
 below : Below w.heap.size w W
 plain : ∀ i v, L.getD i false = true → kv i = some v → c i = v
 spec : ∀ i, L.getD i false = true → Sp i c W
 closed : ∀ i, L.getD i false = true → ∀ j ∈ deps i, L.getD j false = true

structure Stays (deps : Nat → List Nat) (Sp : Nat → (Nat → Value) → World → Prop) : Prop where
 later : ∀ i c W W', Below W.heap.size W W' → Sp i c W → Sp i c W'
 other : ∀ i j c v W, j ≠ i → i ∉ deps j → Sp j c W → Sp j (upd c i v) W

variable {deps : Nat → List Nat} {kv : Nat → Option Value} {Sp : Nat → (Nat → Value) → World → Prop} {Fin : (Nat → Value) → World → Prop} {w W W' : World} {L : Array Bool} {c : Nat → Value}

theorem FS.start (w : World) (n : Nat) (c : Nat → Value) : FS deps kv Sp w (Array.replicate n false) c w.drew where
 below := (Below.refl _ _).drew
 plain := fun i _ h => by simp [Array.getD] at h
 spec := fun i h => by simp [Array.getD] at h
 closed := fun i h => by simp [Array.getD] at h

theorem FS.made (h : FS deps kv Sp w L c W) (hst : Stays deps Sp) {i : Nat} (hn : L.getD i true = false) (hd : ∀ j ∈ deps i, L.getD j false = true) (hb : Below W.heap.size W W') {v : Value} (hk : ∀ u, kv i = some u → v = u) (hnew : Sp i (upd c i v) W') :
  FS deps kv Sp w (L.setIfInBounds i true) (upd c i v) W' where
 below := h.below.trans (hb.mono h.below.size)
 plain := fun j u hj hu => by
  by_cases e : j = i
  ·subst e; rw [upd_self]; exact hk u hu
  ·rw [upd_ne _ _ e]; exact h.plain j u (listed_old (fun e' => e e'.symm) hj) hu
 spec := fun j hj => by
  by_cases e : j = i
  ·subst e; exact hnew
  ·have hj' := listed_old (fun e' => e e'.symm) hj
   exact hst.other _ _ _ _ _ e (fun hm => listed_not hn (h.closed j hj' i hm)) (hst.later _ _ _ _ hb (h.spec j hj'))
 closed := fun j hj k hjk => by
  by_cases ek : i = k
  ·subst ek; exact listed_new hn
  ·rw [getD_set_ne false ek]
   by_cases e : j = i
   ·subst e; exact hd k hjk
   ·exact h.closed j (listed_old (fun e' => e e'.symm) hj) k hjk

def FSx (deps : Nat → List Nat) (kv : Nat → Option Value) (Sp : Nat → (Nat → Value) → World → Prop) (Fin : (Nat → Value) → World → Prop) (w : World) (m : Nat) (L : Array Bool) (c : Nat → Value) (W : World) : Prop :=
 (L.getD m false = false ∧ FS deps kv Sp w L c W) ∨ ((∀ i, i ≤ m → L.getD i false = true) ∧ Fin c W)

theorem FSx.start (w : World) (n m : Nat) (c : Nat → Value) : FSx deps kv Sp Fin w m (Array.replicate n false) c w.drew :=
 .inl ⟨by simp [Array.getD], FS.start w n c⟩

theorem FSx.pre {m : Nat} (h : FSx deps kv Sp Fin w m L c W) {i : Nat} (hi : i ≤ m) (hn : L.getD i true = false) : L.getD m false = false ∧ FS deps kv Sp w L c W := by
 rcases h with h | ⟨h, -⟩
 ·exact h
 ·exact absurd (h i hi) (listed_not hn)

theorem FS.next {m i : Nat} (h : FS deps kv Sp w (L.setIfInBounds i true) c W) (hne : i ≠ m) (hm : L.getD m false = false) : FSx deps kv Sp Fin w m (L.setIfInBounds i true) c W :=
 .inl ⟨by rw [getD_set_ne false hne]; exact hm, h⟩

theorem FSx.last {m : Nat} (hall : ∀ j, j < m → L.getD j false = true) (hn : L.getD m true = false) (hf : Fin c W) : FSx deps kv Sp Fin w m (L.setIfInBounds m true) c W :=
 .inr ⟨fun j hj => by
  by_cases e : m = j
  ·subst e; exact listed_new hn
  ·rw [getD_set_ne false e]; exact hall j (by omega), hf⟩

theorem FSx.fin {m : Nat} (h : FSx deps kv Sp Fin w m L c W) (hall : L.getD m false = true) : Fin c W := by
 rcases h with ⟨h, -⟩ | ⟨-, h⟩
 ·rw [hall] at h; cases h
 ·exact h

theorem FS.put {deps : Nat → List Nat} {kv : Nat → Option Value} {Sp Sp' : Nat → (Nat → Value) → World → Prop} {w W W' : World} {L : Array Bool} {c : Nat → Value} (h : FS deps kv Sp w L c W) {i : Nat} (hn : L.getD i true = false) (hd : ∀ j ∈ deps i, L.getD j false = true) (hB : Below w.heap.size w W') {v : Value} (hk : ∀ u, kv i = some u → v = u)
  (hkeep : ∀ j, j ≠ i → L.getD j false = true → Sp j c W → Sp' j (upd c i v) W') (hnew : Sp' i (upd c i v) W') : FS deps kv Sp' w (L.setIfInBounds i true) (upd c i v) W' where
 below := hB
 plain := fun j u hj hu => by
  by_cases e : j = i
  ·subst e; rw [upd_self]; exact hk u hu
  ·rw [upd_ne _ _ e]; exact h.plain j u (listed_old (fun e' => e e'.symm) hj) hu
 spec := fun j hj => by
  by_cases e : j = i
  ·subst e; exact hnew
  ·have hj' := listed_old (fun e' => e e'.symm) hj
   exact hkeep j e hj' (h.spec j hj')
 closed := fun j hj k hjk => by
  by_cases ek : i = k
  ·subst ek; exact listed_new hn
  ·rw [getD_set_ne false ek]
   by_cases e : j = i
   ·subst e; exact hd k hjk
   ·exact h.closed j (listed_old (fun e' => e e'.symm) hj) k hjk

end Go.Proofs.YtnhbfehfipafoaaGreatDoor

/- Regions that draw their order, the values of which are known but for a variable of one's own, into which is stored last. -/
namespace Go.Proofs.YtnhbfehfipafoaaGreatDoor
open Go.RowKit

def rgS (ai si : Nat) (Z V : World → Nat → Prop) (C : Nat) (b : Bool) (i : Nat) (c : Nat → Value) (W : World) : Prop :=
 (i = ai → ∃ B, c ai = .pointer (some ⟨B, 0, none⟩) ∧ C ≤ B ∧ (b = false → Z W B)) ∧
 (i = si → ∃ B, c ai = .pointer (some ⟨B, 0, none⟩) ∧ C ≤ B ∧ V W B)

variable {ai si : Nat} {Z V : World → Nat → Prop} {C : Nat} {b : Bool} {i : Nat} {c c' : Nat → Value} {W W' : World} {ds : Nat → List Nat}

theorem rgS_p (h1 : i ≠ ai) (h2 : i ≠ si) : rgS ai si Z V C b i c W := ⟨fun e => absurd e h1, fun e => absurd e h2⟩

theorem rgS_a (h : ai ≠ si) (hx : ∃ B, c ai = .pointer (some ⟨B, 0, none⟩) ∧ C ≤ B ∧ (b = false → Z W B)) : rgS ai si Z V C b ai c W := ⟨fun _ => hx, fun e => absurd e h⟩

theorem rgS_s (h : si ≠ ai) (hx : ∃ B, c ai = .pointer (some ⟨B, 0, none⟩) ∧ C ≤ B ∧ V W B) : rgS ai si Z V C b si c W := ⟨fun e => absurd e h, fun _ => hx⟩

theorem rgS_keep (_ : si ≠ ai) (he : c' ai = c ai) {L : Array Bool} : ∀ j, j ≠ si → L.getD j false = true → rgS ai si Z V C false j c W → rgS ai si Z V C true j c' W' := fun j hj _ hs => by
 refine ⟨fun e => ?_, fun e => absurd e hj⟩
 obtain ⟨B, h1, h2, -⟩ := hs.1 e
 exact ⟨B, he.trans h1, h2, fun h => by cases h⟩

theorem rgStays (ai si : Nat) (Z V : World → Nat → Prop) (hZ : ∀ W W' B, Below W.heap.size W W' → Z W B → Z W' B) (hV : ∀ W W' B, Below W.heap.size W W' → V W B → V W' B) (C : Nat) (b : Bool) (_ : si ∈ ds ai → False) (h2 : ai ∉ ds si → False) : Stays ds (rgS ai si Z V C b) where
 later := fun i c W W' hb h => by
  refine ⟨fun e => ?_, fun e => ?_⟩
  ·obtain ⟨B, a1, a2, a3⟩ := h.1 e
   exact ⟨B, a1, a2, fun hf => hZ _ _ _ hb (a3 hf)⟩
  ·obtain ⟨B, a1, a2, a3⟩ := h.2 e
   exact ⟨B, a1, a2, hV _ _ _ hb a3⟩
 other := fun i j c v W hne hm h => by
  refine ⟨fun e => ?_, fun e => ?_⟩
  ·subst e
   obtain ⟨B, a1, a2, a3⟩ := h.1 rfl
   exact ⟨B, (upd_ne _ _ hne).trans a1, a2, a3⟩
  ·subst e
   obtain ⟨B, a1, a2, a3⟩ := h.2 rfl
   refine ⟨B, (upd_ne _ _ (fun e => ?_)).trans a1, a2, a3⟩
   subst e
   exact h2 hm

end Go.Proofs.YtnhbfehfipafoaaGreatDoor
