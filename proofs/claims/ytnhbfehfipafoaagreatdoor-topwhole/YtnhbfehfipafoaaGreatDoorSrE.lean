/- What a disk says of a store: without memory. -/
import Derived.Test.YtnhbfehfipafoaaGreatDoorDetRg
import Derived.Test.YtnhbfehfipafoaaGreatDoorBpR
import Derived.Test.YtnhbfehfipafoaaGreatDoorShelfI

namespace Go.Proofs.YtnhbfehfipafoaaGreatDoor
open Go.RowKit

def allC : List Nmd → List OpV → Nat × List Nmd
 | l, [] => (0, l)
 | l, o :: t => if (applyC l o).1 = 0 then allC (applyC l o).2 t else ((applyC l o).1, [])

theorem allC_cons (l : List Nmd) (o : OpV) (t : List OpV) : allC l (o :: t) = if (applyC l o).1 = 0 then allC (applyC l o).2 t else ((applyC l o).1, []) := by rw [allC]

theorem allC_ok : ∀ {l : List Nmd} (_ : CatOk l) (os : List OpV), (allC l os).1 = 0 → CatOk (allC l os).2
 | _, hc, [], _ => hc
 | l, hc, o :: t, h => by
  unfold allC at h ⊢
  by_cases h0 : (applyC l o).1 = 0
  ·rw [if_pos h0] at h ⊢
   exact allC_ok (applyC_ok hc o h0) t h
  ·rw [if_neg h0] at h
   exact absurd h h0

theorem allC_app : ∀ {l l' : List Nmd} (a b : List OpV), allC l a = (0, l') → allC l (a ++ b) = allC l' b
 | l, l', [], b, h => by
  have : l = l' := congrArg Prod.snd h
  rw [this]
  rfl
 | l, l', o :: t, b, h => by
  rw [List.cons_append, allC_cons]
  rw [allC_cons] at h
  by_cases h0 : (applyC l o).1 = 0
  ·rw [if_pos h0] at h ⊢
   exact allC_app t b h
  ·rw [if_neg h0] at h
   exact absurd (congrArg Prod.fst h) h0

theorem applyC_opF {l : List Nmd} {o : OpV} (hc : CatOk l) (h : (applyC l o).1 = 0) : opF o = 0 := by
 unfold applyC at h
 by_cases h1 : opOk o = false
 ·rw [if_pos h1] at h; simp at h
 rw [if_neg h1] at h
 have h1' : opOk o = true := by simpa using h1
 unfold opOk at h1'
 simp only [Bool.and_eq_true, Bool.or_eq_true, decide_eq_true_eq] at h1'
 obtain ⟨hn, hk⟩ := h1'
 have key : (1 ≤ o.kind ∧ o.kind ≤ 4) → (0 ≤ o.n ∧ o.n ≤ 4) → o.v.length ≤ 4 → (∀ z ∈ o.v, -999 ≤ z ∧ z ≤ 999) → opF o = 0 := fun k1 k2 k3 k4 => by
  unfold opF
  have hs : shapeB o = true := by
   unfold shapeB
   rw [decide_eq_true k1, hn, decide_eq_true k2, decide_eq_true k3]
   rfl
  have hb : bigB o = false := by
   unfold bigB
   rw [List.any_eq_false]
   intro z hz
   have := k4 z hz
   rw [decide_eq_true_eq]
   omega
  rw [hs, hb]
  rfl
 by_cases h2 : o.kind = 1
 ·rw [if_pos h2] at h
  by_cases h3 : ¬ (1 ≤ o.n ∧ o.n ≤ 4)
  ·rw [if_pos h3] at h; simp at h
  have h3' : 1 ≤ o.n ∧ o.n ≤ 4 := Classical.not_not.1 h3
  have hv : o.v.length = 0 := by
   rcases hk with (hk | hk) | hk
   ·exact hk.2
   ·exact hk.2.2
   ·omega
  exact key (by omega) (by omega) (by omega) (fun z hz => by rw [List.length_eq_zero_iff.1 hv] at hz; cases hz)
 rw [if_neg h2] at h
 by_cases h3 : hasL l o.name = false
 ·rw [if_pos h3] at h; simp at h
 rw [if_neg h3] at h
 by_cases h4 : o.kind = 2
 ·have hv : o.n = 0 ∧ o.v.length = 0 := by
   rcases hk with (hk | hk) | hk
   ·omega
   ·exact hk.2
   ·omega
  exact key (by omega) (by omega) (by omega) (fun z hz => by rw [List.length_eq_zero_iff.1 hv.2] at hz; cases hz)
 rw [if_neg h4] at h
 have hk' : (o.kind = 3 ∨ o.kind = 4) ∧ o.n = 0 := by
  rcases hk with (hk | hk) | hk
  ·exact absurd hk.1 h2
  ·exact absurd hk.1 h4
  ·exact hk
 split at h
 ·simp at h
 ·rename_i x hx
  by_cases h5 : genF o.v x.n ≠ 0
  ·rw [if_pos h5] at h; exact absurd h h5
  have h6 := genF_ok.1 (Classical.not_not.1 h5)
  have h7 := (hc.all x (List.mem_of_getElem? hx)).n
  exact key (by omega) (by omega) (by omega) h6.2

theorem allC_opF : ∀ {l : List Nmd} (_ : CatOk l) (os : List OpV), (allC l os).1 = 0 → ∀ o ∈ os, opF o = 0
 | _, _, [], _ => fun _ h => by cases h
 | l, hc, o :: t, h => by
  unfold allC at h
  by_cases h0 : (applyC l o).1 = 0
  ·rw [if_pos h0] at h
   intro x hx
   rcases List.mem_cons.1 hx with rfl | hx
   ·exact applyC_opF hc h0
   ·exact allC_opF (applyC_ok hc o h0) t h x hx
  ·rw [if_neg h0] at h
   exact absurd h h0

theorem says_fresh {F : Int} {fr mn : Nat} {c : Nat → List UInt8} (h : numL (c fr) ≠ F % 4294967296) : (saysL F fr mn c).ds = [] ∧ (saysL F fr mn c).e = 0 := by
 unfold saysL scanS
 cases mn with
 | zero => exact ⟨rfl, rfl⟩
 | succ k =>
  rw [seg_succ, Nat.add_zero, List.foldl_cons]
  have hr : rdSec (F + (st0.i : Nat)) (c fr) = (0, []) := by
   unfold rdSec
   rw [if_neg]
   rintro ⟨-, h1, -⟩
   exact h (by rw [h1]; show (F + ((0 : Nat) : Int)) % 4294967296 = _; rw [Int.natCast_zero, Int.add_zero])
  have e : stepS F st0 (c fr) = { st0 with i := st0.i + 1, stop := true } := step_bad rfl hr (by decide) (fun h => absurd h.1 (by decide))
  rw [e]
  obtain ⟨h1, h2, -⟩ := fold_stop F (seg c fr 1 k) { st0 with i := st0.i + 1, stop := true } rfl
  exact ⟨h1, h2⟩

theorem saysL_congr {f : Int} {fr mn : Nat} {c c' : Nat → List UInt8} (h : ∀ i, i < mn → c' (fr + i) = c (fr + i)) : saysL f fr mn c' = saysL f fr mn c := by
 unfold saysL
 rw [seg_congr (c := c') (c' := c) (fun i hi => by rw [Nat.zero_add]; exact h i hi)]

structure SaysS (m : Nat) (c : Nat → List UInt8) (h : Hd) (l : List Nmd) (en : Nat) : Prop where
 head : newestC c = some h
 says : ∃ l0, CatOk l0 ∧ readT c 40 (2 + h.pl * 40) h.long.toNat = textC l0 ∧ allC l0 (saysL h.first 82 (m - 82) c).ds.flatten = (0, l)
 e : (saysL h.first 82 (m - 82) c).e = en

theorem SaysS.ok {m : Nat} {c : Nat → List UInt8} {h : Hd} {l : List Nmd} {en : Nat} (s : SaysS m c h l en) : CatOk l := by
 obtain ⟨l0, h1, -, h2⟩ := s.says
 have := allC_ok h1 _ (congrArg Prod.fst h2)
 rwa [h2] at this

theorem SaysS.en_le {m : Nat} {c : Nat → List UInt8} {h : Hd} {l : List Nmd} {en : Nat} (s : SaysS m c h l en) : en ≤ m - 82 := (says_from rfl s.e).1

theorem textC_few {l : List Nmd} (h : CatOk l) : (textC l).length ≤ 1872 := by
 have h1 := text_len h.all
 have h2 := h.few
 omega

theorem SaysS.lay_old {m : Nat} {c c' : Nat → List UInt8} {h n : Hd} {l : List Nmd} {en : Nat} (s : SaysS m c h l en) (hn : n.pl = (h.pl + 1) % 2) (ho : ∀ j, (j = n.pl ∨ Out n j) → c' j = c j) : SaysS m c' h l en := by
 have hp := (newest_ok s.head).1.pl
 have h01 : ∀ j, j ≤ 1 → c' j = c j := fun j hj => ho j (by
  by_cases e : j = n.pl
  ·exact .inl e
  ·exact .inr ⟨e, .inl (by omega)⟩)
 have hlog : saysL h.first 82 (m - 82) c' = saysL h.first 82 (m - 82) c := saysL_congr fun i hi => ho _ (.inr ⟨by omega, .inr (by omega)⟩)
 obtain ⟨l0, g1, g2, g3⟩ := s.says
 refine ⟨by rw [newest_same (h01 0 (by omega)) (h01 1 (by omega))]; exact s.head, ⟨l0, g1, ?_, by rw [hlog]; exact g3⟩, by rw [hlog]; exact s.e⟩
 rw [readT_congr (c := c) (c' := c') 40 _ _ (fun j h1 h2 => ho j (.inr ⟨by omega, by omega⟩))]
 exact g2

theorem SaysS.lay_new {m : Nat} {c c' : Nat → List UInt8} {h : Hd} {l : List Nmd} {en : Nat} (s : SaysS m c h l en) {F : Int} (hF : 0 < F ∧ F < 4294967296) (hfr : numL (c 82) ≠ F)
  (h1 : c' (nextHd h F (textC l).length).pl = padded (hdB (nextHd h F (textC l).length))) (h2 : readT c' 40 (2 + (nextHd h F (textC l).length).pl * 40) (textC l).length = textC l)
  (ho : ∀ j, Out (nextHd h F (textC l).length) j → c' j = c j) : SaysS m c' (nextHd h F (textC l).length) l 0 := by
 have hp := (newest_ok s.head).1.pl
 have hn : (nextHd h F (textC l).length).pl = (h.pl + 1) % 2 := rfl
 have hlen := textC_few s.ok
 have hf : (nextHd h F (textC l).length).first = F := rfl
 have hl : (nextHd h F (textC l).length).long.toNat = (textC l).length := Int.toNat_natCast _
 have hno : numL (c' 82) ≠ (nextHd h F (textC l).length).first % 4294967296 := by
  rw [ho 82 ⟨by omega, .inr (by omega)⟩, hf, Int.emod_eq_of_lt (by omega) (by omega)]
  exact hfr
 obtain ⟨k1, k2⟩ := says_fresh (mn := m - 82) hno
 refine ⟨newest_next s.head hF (by omega) (ho _ ⟨by omega, .inl (by omega)⟩) h1, ⟨l, s.ok, by rw [hl]; exact h2, ?_⟩, k2⟩
 rw [k1]
 rfl

theorem SaysS.more {m : Nat} {c c' : Nat → List UInt8} {h : Hd} {l l' : List Nmd} {en en' : Nat} {os : List OpV} (s : SaysS m c h l en) (ho : ∀ j, j < 82 → c' j = c j)
  (hd : (saysL h.first 82 (m - 82) c').ds = (saysL h.first 82 (m - 82) c).ds ++ [os]) (hl : allC l os = (0, l')) (he : (saysL h.first 82 (m - 82) c').e = en') : SaysS m c' h l' en' := by
 have hp := (newest_ok s.head).1.pl
 obtain ⟨l0, g1, g2, g3⟩ := s.says
 refine ⟨by rw [newest_same (ho 0 (by omega)) (ho 1 (by omega))]; exact s.head, ⟨l0, g1, ?_, ?_⟩, he⟩
 ·rw [readT_congr (c := c) (c' := c') 40 _ _ (fun j h1 h2 => ho j (by omega))]
  exact g2
 ·rw [hd, List.flatten_append, allC_app _ _ g3]
  simpa using hl

theorem SaysS.stay {m : Nat} {c c' : Nat → List UInt8} {h : Hd} {l : List Nmd} {en en' : Nat} (s : SaysS m c h l en) (ho : ∀ j, j < 82 → c' j = c j)
  (hd : (saysL h.first 82 (m - 82) c').ds = (saysL h.first 82 (m - 82) c).ds) (he : (saysL h.first 82 (m - 82) c').e = en') : SaysS m c' h l en' := by
 have hp := (newest_ok s.head).1.pl
 obtain ⟨l0, g1, g2, g3⟩ := s.says
 refine ⟨by rw [newest_same (ho 0 (by omega)) (ho 1 (by omega))]; exact s.head, ⟨l0, g1, ?_, by rw [hd]; exact g3⟩, he⟩
 rw [readT_congr (c := c) (c' := c') 40 _ _ (fun j h1 h2 => ho j (by omega))]
 exact g2

structure StoI (D : Dsk) (m : Nat) (h : Hd) (l : List Nmd) (en : Nat) : Prop where
 well : Well D m 0
 clean : Clean D
 up : D.down = false
 says : SaysS m (cont D) h l en

structure StoZ (D : Dsk) (m : Nat) (l1 l2 : List Nmd) : Prop where
 well : ∃ k, Well D m k
 says : ∀ c : Nat → List UInt8, (∀ j, poss D j (c j)) → ∃ h en, SaysS m c h l1 en ∨ SaysS m c h l2 en

theorem StoI.full {D : Dsk} {m : Nat} {h : Hd} {l : List Nmd} {en : Nat} (s : StoI D m h l en) (l2 : List Nmd) : StoZ D m l l2 where
 well := ⟨0, s.well⟩
 says := fun c hc => by
  obtain rfl : c = cont D := funext fun j => s.clean j _ (hc j)
  exact ⟨h, en, .inl s.says⟩

theorem StoI.lay_done {D : Dsk} {m : Nat} {h : Hd} {l : List Nmd} {en : Nat} (s : StoI D m h l en) (hm : 82 ≤ m) {F : Int} (hF : 0 < F ∧ F < 4294967296) (hfr : numL (cont D 82) ≠ F)
  (hok : (layD (nextHd h F (textC l).length) (textC l) D).2 = true) : StoI (layD (nextHd h F (textC l).length) (textC l) D).1 m (nextHd h F (textC l).length) l 0 := by
 have hlen := textC_few s.says.ok
 obtain ⟨h1, h2, h3, h4, h5, h6⟩ := (layD_facts (t := textC l) s.well hm (nextHd_ok h hF (by omega)) (by omega)).2.1 hok
 exact ⟨h3, h2, h1.trans s.up, s.says.lay_new hF hfr h4 h5 h6⟩

theorem StoI.lay_fell {D : Dsk} {m : Nat} {h : Hd} {l : List Nmd} {en : Nat} (s : StoI D m h l en) (hm : 82 ≤ m) {F : Int} (hF : 0 < F ∧ F < 4294967296) (hfr : numL (cont D 82) ≠ F)
  (hok : (layD (nextHd h F (textC l).length) (textC l) D).2 = false) : StoZ (layD (nextHd h F (textC l).length) (textC l) D).1 m l l := by
 have hlen := textC_few s.says.ok
 obtain ⟨k1, -, k3⟩ := layD_facts (n := nextHd h F (textC l).length) (t := textC l) s.well hm (nextHd_ok h hF (by omega)) (by omega)
 refine ⟨⟨_, k1⟩, fun c hc => ?_⟩
 obtain ⟨h1, h2⟩ := k3 s.clean hok c hc
 rcases h1 with h1 | ⟨h1, h3⟩
 ·exact ⟨h, en, .inl (s.says.lay_old (n := nextHd h F (textC l).length) rfl (fun j hj => by
   rcases hj with rfl | hj
   ·exact h1
   ·exact h2 j hj))⟩
 ·exact ⟨_, 0, .inl (s.says.lay_new hF hfr h1 h3 h2)⟩

theorem poss_cont (D : Dsk) (j : Nat) : poss D j (cont D j) := by
 unfold poss cont Sec.seen
 cases hl : (D.secs.getD j sec0).loose.getLast? with
 | none => exact .inl rfl
 | some p => exact .inr ⟨p, List.mem_of_getLast? hl, rfl⟩

def Pin (D : Dsk) (fr : Nat) (E : Dsk) : Prop := ∀ j x, j < fr → poss E j x → x = cont D j

theorem Pin.cont {D : Dsk} {fr : Nat} {E : Dsk} (h : Pin D fr E) {j : Nat} (hj : j < fr) : cont E j = cont D j := h j _ hj (poss_cont E j)

theorem Pin.same {D : Dsk} {fr : Nat} {E E' : Dsk} (h : Pin D fr E) (hs : E'.secs = E.secs) : Pin D fr E' := fun j x hj hp => h j x hj ((poss_same hs j x).1 hp)

theorem Pin.put {D : Dsk} {fr : Nat} {E : Dsk} (h : Pin D fr E) {i : Nat} {t : ByteArray} (hi : fr ≤ i) (hl : i < E.secs.length) (ht : t.size ≤ 64) : Pin D fr (putD E (i : Int) t) := by
 cases hs : E.steps with
 | false => exact h.same (put_fell hl ht hs).1
 | true =>
  obtain ⟨-, g2, -, -⟩ := put_done hl ht hs
  intro j x hj hp
  rcases g2 j x hp with h1 | ⟨h1, -⟩
  ·exact h j x hj h1
  ·omega

theorem Pin.flush {D : Dsk} {fr m k : Nat} {E : Dsk} (h : Pin D fr E) (hw : Well E m k) : Pin D fr (flushD E) := by
 cases hs : E.steps with
 | false => exact h.same (flush_fell hs).1
 | true =>
  obtain ⟨g1, g2, -⟩ := flush_done hw hs
  intro j x hj hp
  rw [g2 j x hp, g1, h.cont hj]

theorem Pin.andFlush {D : Dsk} {fr m k : Nat} {E : Dsk} (h : Pin D fr E) (hw : Well E m k) (ok : Bool) : Pin D fr (andFlush E ok).2 := by
 unfold Go.Proofs.YtnhbfehfipafoaaGreatDoor.andFlush
 split
 ·exact h.flush hw
 ·exact h

theorem addD_pin {f : Int} {fr mn en m k : Nat} {D : Dsk} {os : List OpV} (hw : Well D m k) (hcl : Clean D) (hin : fr + mn ≤ m) (hn : os.length < mn - en) (ho : ∀ o ∈ os, opF o = 0) : Pin D fr (addD f fr en mn os D).1 := by
 have hlen : D.secs.length = m := hw.len
 have h0 : Pin D fr D := fun j x _ hp => hcl j x hp
 obtain ⟨w1, w2, -⟩ := wipes_facts f fr (mn - en) en D false (by omega)
 have hRw := wipesD_well f fr m (mn - en) en k D false hw
 obtain ⟨R, hR⟩ : ∃ R, wipesD f fr (mn - en) en D false = R := ⟨_, rfl⟩
 rw [hR] at w1 w2 hRw
 have h1 : Pin D fr R.1 := fun j x hj hp => by
  rcases w2 j x hp with h | ⟨-, t, -, -, h, -⟩
  ·exact hcl j x h
  ·omega
 have h2 : Pin D fr (uncloseR R).2 := by
  unfold uncloseR
  split
  ·exact h1
  ·split
   ·exact h1
   ·exact h1.flush hRw
 have hUw := uncloseR_well hRw
 have hbs58 : ∀ b ∈ os.map opS, b.size ≤ 58 := fun b hb => by
  obtain ⟨o, h1, rfl⟩ := List.mem_map.1 hb
  have h2 := opB_small (ho o h1)
  have h3 : (opS o).data.toList.length = (opS o).size := by simp
  rw [opS_data (ho o h1)] at h3
  omega
 obtain ⟨D1, hD1⟩ : ∃ D1, (uncloseR R).2 = D1 := ⟨_, rfl⟩
 rw [hD1] at h2 hUw
 obtain ⟨x1, x2, -⟩ := writes_facts f fr (os.map opS) en D1 (by rw [List.length_map, hUw.len]; omega) hbs58
 have hXw := writesD_well f fr m (os.map opS) en _ D1 hUw
 obtain ⟨X, hX⟩ : ∃ X, writesD f fr en (os.map opS) D1 = X := ⟨_, rfl⟩
 have h3 : Pin D fr X.1 := by
  rw [← hX]
  intro j x hj hp
  rcases x2 j x hp with h | ⟨t, b, -, h, -⟩
  ·exact h2 j x hj h
  ·omega
 unfold addD
 rw [hR, hD1, hX]
 rw [hX] at hXw
 have h4 := h3.andFlush hXw X.2
 have hFw := andFlush_well (ok := X.2) hXw
 split
 ·exact h2
 ·split
  ·exact h4
  ·have hcsz : (secB (secT 99 (f + (en + os.length : Nat)) (fourB os.length))).size ≤ 64 := by
    rw [secB_size, secT_len, fourB_len]
    decide
   have h5 : Pin D fr (closedD f fr en os.length (Go.Proofs.YtnhbfehfipafoaaGreatDoor.andFlush X.1 X.2).2) := h4.put (by omega) (by rw [hFw.len]; omega) hcsz
   exact h5.andFlush (hFw.put _ _) _

theorem StoI.add_done {D : Dsk} {m : Nat} {h : Hd} {l l' : List Nmd} {en : Nat} {os : List OpV} (s : StoI D m h l en) (hm : 82 ≤ m) (hl : allC l os = (0, l')) (hn : os.length < m - 82 - en)
  (hok : (addD h.first 82 en (m - 82) os D).2 = true) : StoI (addD h.first 82 en (m - 82) os D).1 m h l' (en + os.length + 1) := by
 have ho := allC_opF s.says.ok os (congrArg Prod.fst hl)
 obtain ⟨h1, h2, h3, h4, h5⟩ := (addD_facts s.well (by omega) hn ho rfl s.says.e).1 hok
 have hp := addD_pin (f := h.first) (fr := 82) (en := en) (mn := m - 82) s.well s.clean (by omega) hn ho
 exact ⟨h3, h2, h1.trans s.up, s.says.more (fun j hj => hp.cont hj) h4 hl h5⟩

theorem StoI.add_fell {D : Dsk} {m : Nat} {h : Hd} {l l' : List Nmd} {en : Nat} {os : List OpV} (s : StoI D m h l en) (hm : 82 ≤ m) (hl : allC l os = (0, l')) (hn : os.length < m - 82 - en)
  (hok : (addD h.first 82 en (m - 82) os D).2 = false) : StoZ (addD h.first 82 en (m - 82) os D).1 m l l' := by
 have ho := allC_opF s.says.ok os (congrArg Prod.fst hl)
 have hf := (addD_facts s.well (by omega) hn ho rfl s.says.e).2 s.clean hok
 have hp := addD_pin (f := h.first) (fr := 82) (en := en) (mn := m - 82) s.well s.clean (by omega) hn ho
 refine ⟨⟨_, addD_well s.well⟩, fun c hc => ?_⟩
 have hlow : ∀ j, j < 82 → c j = cont D j := fun j hj => hp j _ hj (hc j)
 rcases hf c hc with h1 | h1
 ·exact ⟨h, _, .inl (s.says.stay hlow h1 rfl)⟩
 ·exact ⟨h, _, .inr (s.says.more hlow h1 hl rfl)⟩

theorem StoZ.back {D : Dsk} {m : Nat} {l1 l2 : List Nmd} (s : StoZ D m l1 l2) (keep : Int) : ∃ h l en, (l = l1 ∨ l = l2) ∧ StoI (backD D keep) m h l en ∧ Free (backD D keep) := by
 have hs : (backD D keep).secs = (D.settled keep).secs := rfl
 obtain ⟨k, hw⟩ := s.well
 have hw2 : Well (backD D keep) m 0 := by
  have := settled_well hw keep
  exact ⟨this.len, this.num, this.few, this.apart, this.bits⟩
 have hc : cont (backD D keep) = cont (D.settled keep) := funext fun j => cont_same hs j
 obtain ⟨h, en, h1⟩ := s.says (cont (D.settled keep)) (fun j => settled_poss keep D j)
 rcases h1 with h1 | h1
 ·exact ⟨h, l1, en, .inl rfl, ⟨hw2, clean_same hs (settled_isClean keep D), rfl, by rw [hc]; exact h1⟩, restart_free D keep⟩
 ·exact ⟨h, l2, en, .inr rfl, ⟨hw2, clean_same hs (settled_isClean keep D), rfl, by rw [hc]; exact h1⟩, restart_free D keep⟩

theorem StoI.arm {D : Dsk} {m : Nat} {h : Hd} {l : List Nmd} {en : Nat} (s : StoI D m h l en) (n : Int) : StoI { D with left := n } m h l en :=
 ⟨⟨s.well.len, s.well.num, s.well.few, s.well.apart, s.well.bits⟩, s.clean, s.up, s.says⟩

def hd0 : Hd := ⟨0, 0, 0, 0⟩

theorem unHd_noughts (p : Nat) : unHd p (noughtB 64) = none := by
 unfold unHd
 rw [if_neg]
 rintro ⟨h, -⟩
 exact absurd h (by decide)

theorem newest_newD (m : Nat) : newestC (cont (newD m)) = none := by
 unfold newestC
 rw [cont_newD, cont_newD, unHd_noughts, unHd_noughts]

theorem format_new {m : Nat} (hm : 86 ≤ m) {F : Int} (hF : 0 < F ∧ F < 4294967296) : StoI (layD (nextHd hd0 F 0) [] (newD m)).1 m (nextHd hd0 F 0) [] 0 ∧ Free (layD (nextHd hd0 F 0) [] (newD m)).1 := by
 have hfree : Free (newD m) := ⟨rfl, by show (-1 : Int) < 0; decide⟩
 obtain ⟨hok, hfr⟩ := layD_free (n := nextHd hd0 F 0) (t := []) hfree
 have hno := nextHd_ok hd0 (n := 0) hF (by decide)
 obtain ⟨h1, h2, h3, h4, h5, h6⟩ := (layD_facts (t := []) (newD_well m) (by omega) hno (by decide)).2.1 hok
 have hpl : (nextHd hd0 F 0).pl = 1 := rfl
 refine ⟨⟨h3, h2, h1, ?_⟩, hfr⟩
 have h82 : cont (layD (nextHd hd0 F 0) [] (newD m)).1 82 = noughtB 64 := by
  rw [h6 82 ⟨by rw [hpl]; decide, .inr (by rw [hpl]; decide)⟩, cont_newD]
 have hno : numL (cont (layD (nextHd hd0 F 0) [] (newD m)).1 82) ≠ (nextHd hd0 F 0).first % 4294967296 := by
  rw [h82]
  show numL (noughtB 64) ≠ F % 4294967296
  have : numL (noughtB 64) = 0 := by decide
  rw [this]
  omega
 obtain ⟨k1, k2⟩ := says_fresh (mn := m - 82) hno
 refine ⟨?_, ⟨[], catOk_nil, by rw [show (nextHd hd0 F 0).long.toNat = 0 from rfl, readT_zero]; rfl, by rw [k1]; rfl⟩, k2⟩
 unfold newestC
 rw [h6 0 ⟨by rw [hpl]; decide, .inl (by rw [hpl]; decide)⟩, cont_newD, unHd_noughts]
 dsimp only
 rw [hpl] at h4
 rw [h4]
 exact unHd_hdB (nextHd hd0 F 0) (nextHd_ok hd0 (n := 0) hF (by decide))

end Go.Proofs.YtnhbfehfipafoaaGreatDoor

/- The newest head on a disk. -/
namespace Go.Proofs.YtnhbfehfipafoaaGreatDoor
open Go.RowKit

theorem readC_any (w : World) (base : Own) (B : Nat) (D : Dsk) (k : Nat) (h : DiskO w base B D) (hd : D.down = false) (hk : k < D.secs.length) (h2 : D.secs.length ≤ 200) :
  Calls Tryz.prog 60 #[.pointer (some ⟨B, 0, none⟩), .int .i64 (k : Int)] w fun e w' => e = .returned (.tuple #[.string (secB (cont D k)), .nilIface]) ∧ Below w.heap.size w w' := by
 have e : cont D k = (D.secs[k]).seen := by
  unfold cont
  rw [List.getD_eq_getElem?_getD, List.getElem?_eq_getElem hk]
  rfl
 rw [e]
 exact read_ok w base B D k _ h hd (List.getElem?_eq_getElem hk) h2

theorem wrap32 (d : Int) (h : 0 ≤ d ∧ d < 4294967296) : IntKind.i32.wrap d = if d < 2147483648 then d else d - 4294967296 := by
 have e : IntKind.i32.wrap d = if (true && decide (d % 4294967296 ≥ 2147483648)) = true then d % 4294967296 - 4294967296 else d % 4294967296 := rfl
 rw [e, Int.emod_eq_of_lt h.1 h.2, Bool.true_and]
 by_cases hd : d < 2147483648
 ·rw [if_pos hd, if_neg (by rw [decide_eq_true_eq]; omega)]
 ·rw [if_neg hd, if_pos (by rw [decide_eq_true_eq]; omega)]

def newK (c : Nat → List UInt8) : Nat → Option Hd
 | 0 => none
 | 1 => unHd 0 (c 0)
 | _ => newestC c

theorem newK_step (c : Nat → List UInt8) (k : Nat) (hk : k < 2) : newK c (k + 1) = match unHd k (c k) with
  | none => newK c k
  | some h => match newK c k with
   | none => some h
   | some a => if newer a h = true then some h else some a := by
 rcases (show k = 0 ∨ k = 1 by omega) with rfl | rfl
 ·show unHd 0 (c 0) = match unHd 0 (c 0) with
   | none => none
   | some h => some h
  cases unHd 0 (c 0) <;> rfl
 ·show newestC c = match unHd 1 (c 1) with
   | none => unHd 0 (c 0)
   | some h => match unHd 0 (c 0) with
    | none => some h
    | some a => if newer a h = true then some h else some a
  unfold newestC
  cases h0 : unHd 0 (c 0) <;> cases h1 : unHd 1 (c 1) <;> rfl

def NewP (o : Option Hd) (w : World) (e : Ending) (w' : World) : Prop := e = .returned (.tuple #[hdV (o.getD hd0), .bool o.isSome, .nilIface]) ∧ Below w.heap.size w w'

set_option linter.unusedSimpArgs false in
set_option maxRecDepth 100000 in
set_option maxHeartbeats 1600000 in
theorem newest_any (w : World) (base : Own) (B : Nat) (D : Dsk) (m : Nat) (h : DiskO w base B D) (hd : D.down = false) (hm : D.secs.length = m) (h2 : 2 ≤ m) (h3 : m ≤ 200) :
  Calls Tryz.prog 46 #[.pointer (some ⟨B, 0, none⟩)] w fun e w' => NewP (newestC (cont D)) w e w' := by
 have hb1 := alloc_below w (.cells #[.int .i64 0, .int .u32 0, .int .u32 0, .int .u32 0] 91)
 have X0 := HdB.new w (.int .i64 0) (.int .u32 0) (.int .u32 0) (.int .u32 0)
 obtain ⟨W1, hW1⟩ : ∃ W1, w.alloc (.cells #[.int .i64 0, .int .u32 0, .int .u32 0, .int .u32 0] 91) = W1 := ⟨_, rfl⟩
 have hs1 : W1.heap.size = w.heap.size + 1 := by rw [← hW1]; simp
 rw [hW1] at hb1 X0
 have hb2 := alloc_below W1 (.cells #[.int .i64 0, .int .u32 0, .int .u32 0, .int .u32 0] 91)
 have X1 := HdB.new W1 (.int .i64 0) (.int .u32 0) (.int .u32 0) (.int .u32 0)
 rw [hs1] at X1
 have HX0 := hide (HdB.later X0 hb2); have HX1 := hide X1
 have HB := hide (hb1.trans (hb2.mono hb1.size))
 have HD := hide h; have HDN := hide hd; have HM := hide hm
 clear hb1 hb2 X0 X1 h hd hm
 go_enter Tryz.func46, Tryz.ntmps46
 go_wp2_with fail
 try rw [hW1]
 clear hW1
 generalize W1.alloc (.cells #[.int .i64 0, .int .u32 0, .int .u32 0, .int .u32 0] 91) = W2 at *
 go_loopw [6, 12] (fun fv ix wr => ∃ (k : Nat) (t : Hd) (f : Bool), k ≤ 2 ∧ ix = .int .i64 k ∧ fv = .bool f ∧ Hid (f = (newK (cont D) k).isSome) ∧ Hid (t = (newK (cont D) k).getD hd0) ∧ Hid (HdB wr (w.heap.size + 1) (.int .i64 ((t).pl : Int)) (.int .u32 (t).age) (.int .u32 (t).first) (.int .u32 (t).long)) ∧ Hid (HdB wr w.heap.size (.int .i64 0) (.int .u32 0) (.int .u32 0) (.int .u32 0)) ∧ Hid (Below w.heap.size w wr)) (fun _ ix _ => 2 - (intOf ix).toNat)
 case atStart => exact ⟨0, hd0, false, by decide, rfl, rfl, rfl, rfl, HX1, HX0, HB⟩
 case round =>
  clear HX0 HX1 HB
  obtain ⟨k, t, f, hk, rfl, rfl, HF, HT, X1, X0, HB⟩ := hrel
  by_cases hkl : k < 2
  ·go_wp2_with fail
   refine (readC_any wr base B D k (HD.out.later HB.out) HDN.out (by rw [HM.out]; omega) (by rw [HM.out]; exact h3)).mono ?_
   rintro e w3 ⟨rfl, hb3⟩
   have X1a := hide (HdB.later X1.out hb3); have X0a := hide (HdB.later X0.out hb3); have HBa := hide (HB.out.trans (hb3.mono HB.out.size))
   clear hb3 X1 X0 HB
   go_wp2_with fail
   refine (hdunp_any w3 (cont D k) (cont_len HD.out (by rw [HM.out]; omega))).mono ?_
   rintro e w4 ⟨a, g, l, b, rfl, hun, hb4⟩
   have HUN := hide (hun k)
   have X1b := HdB.later X1a.out hb4
   have X0b := HdB.later X0a.out hb4
   have HBb := HBa.out.trans (hb4.mono HBa.out.size)
   have hb5 := alloc_below w4 (.cells #[.int .i64 0, .int .u32 0, .int .u32 0, .int .u32 0] 91)
   have X2 := HdB.new w4 (.int .i64 0) (.int .u32 0) (.int .u32 0) (.int .u32 0)
   have hlt1 := heap_lt (show w4.heap[w.heap.size + 1]? = _ from X1b)
   have X1c := HdB.later X1b hb5
   have X0c := HdB.later X0b hb5
   have HBc := HBb.trans (hb5.mono HBb.size)
   clear X1a X0a HBa hun hb4 X1b X0b HBb hb5
   generalize hW5 : w4.alloc (.cells #[.int .i64 0, .int .u32 0, .int .u32 0, .int .u32 0] 91) = W5 at *
   have hs4 : w.heap.size + 1 < w4.heap.size := hlt1
   obtain ⟨B2, hB2⟩ : ∃ B2, w4.heap.size = B2 := ⟨_, rfl⟩
   rw [hB2] at X2 hs4
   obtain ⟨z0, z1, z2, z3, z4, z5, z6, z7⟩ := HdB.cells X2
   have X3 := HdB.wrote X2 (.int .i64 0) (.int .u32 a) (.int .u32 g) (.int .u32 l)
   have hq : ∀ (W : World) (u0 u1 u2 u3 : Value) (C : Nat), C ≠ B2 → HdB W C u0 u1 u2 u3 → ∀ v0 v1 v2 v3 : Value, HdB ((((W.setCell ⟨B2, 0, none⟩ v0).setCell ⟨B2, 1, none⟩ v1).setCell ⟨B2, 2, none⟩ v2).setCell ⟨B2, 3, none⟩ v3) C u0 u1 u2 u3 := fun W u0 u1 u2 u3 C hC h v0 v1 v2 v3 => (((h.aside (p := ⟨B2, 0, none⟩) (fun e => hC e.symm) v0).aside (p := ⟨B2, 1, none⟩) (fun e => hC e.symm) v1).aside (p := ⟨B2, 2, none⟩) (fun e => hC e.symm) v2).aside (p := ⟨B2, 3, none⟩) (fun e => hC e.symm) v3
   have X1d := (hq _ _ _ _ _ _ (by omega) X1c (.int .i64 0) (.int .u32 a) (.int .u32 g) (.int .u32 l)).aside (p := ⟨B2, 0, none⟩) (fun e => by have : B2 = w.heap.size + 1 := e; omega) (.int .i64 (k : Int))
   have X0d := (hq _ _ _ _ _ _ (by omega) X0c (.int .i64 0) (.int .u32 a) (.int .u32 g) (.int .u32 l)).aside (p := ⟨B2, 0, none⟩) (fun e => by have : B2 = w.heap.size := e; omega) (.int .i64 (k : Int))
   have HBd := (below_four HBc (B := B2) (by omega) (.int .i64 0) (.int .u32 a) (.int .u32 g) (.int .u32 l)).setCell (p := ⟨B2, 0, none⟩) (by show w.heap.size ≤ B2; omega) (.int .i64 (k : Int))
   obtain ⟨y0, -, -, -, y4, -⟩ := HdB.cells X3
   have X4 := X3.set0 (.int .i64 (k : Int))
   obtain ⟨x0, x1, x2, x3, -⟩ := HdB.cells X4
   obtain ⟨v0, v1, v2, v3, v4, v5, v6, v7⟩ := HdB.cells X1d
   have X1e := hide (X1d.wrote (.int .i64 (k : Int)) (.int .u32 a) (.int .u32 g) (.int .u32 l))
   have X0e := hide ((((X0d.aside (p := ⟨w.heap.size + 1, 0, none⟩) (fun e => by have : w.heap.size + 1 = w.heap.size := e; omega) (.int .i64 (k : Int))).aside (p := ⟨w.heap.size + 1, 1, none⟩) (fun e => by have : w.heap.size + 1 = w.heap.size := e; omega) (.int .u32 a)).aside (p := ⟨w.heap.size + 1, 2, none⟩) (fun e => by have : w.heap.size + 1 = w.heap.size := e; omega) (.int .u32 g)).aside (p := ⟨w.heap.size + 1, 3, none⟩) (fun e => by have : w.heap.size + 1 = w.heap.size := e; omega) (.int .u32 l))
   have HBe := hide (below_four HBd (B := w.heap.size + 1) (by omega) (.int .i64 (k : Int)) (.int .u32 a) (.int .u32 g) (.int .u32 l))
   have X1D := hide X1d; have X0D := hide X0d; have HBD := hide HBd
   have HST := hide (newK_step (cont D) k hkl)
   rw [HUN.out] at HST
   clear hq X2 X3 X4 X1d X0d HBd X1c X0c HBc
   have HK1 : Hid ((k : Int) + 1 = ((k + 1 : Nat) : Int)) := by show _ = _; omega
   cases b with
   | false =>
    have hst : newK (cont D) (k + 1) = newK (cont D) k := by rw [HST.out]; rfl
    have HS2 := hide hst
    clear hst HST
    go_wp2_with fail
    try rw [hW5, hB2]
    go_roundw
    case rel => exact ⟨k + 1, t, f, by omega, by go_num, rfl, (by show _ = _; rw [HS2.out]; exact HF.out), (by show _ = _; rw [HS2.out]; exact HT.out), X1D, X0D, HBD⟩
    case measure => simp [intOf]; omega
   | true =>
    have hst := HST.out
    rw [if_pos rfl] at hst
    dsimp only at hst
    cases f with
    | false =>
     have hn : newK (cont D) k = none := by
      have h := HF.out
      cases h2 : newK (cont D) k with
      | none => rfl
      | some x => rw [h2] at h; cases h
     rw [hn] at hst
     have HS2 := hide hst
     clear hst HST hn
     go_wp2_with fail
     try rw [hW5, hB2]
     go_roundw
     case rel => exact ⟨k + 1, ⟨k, a, g, l⟩, true, by omega, by go_num, rfl, (by show _ = _; rw [HS2.out]; rfl), (by show _ = _; rw [HS2.out]; rfl), X1e, X0e, HBe⟩
     case measure => simp [intOf]; omega
    | true =>
     have hn : newK (cont D) k = some t := by
      have h := HF.out
      have h3 := HT.out
      cases h2 : newK (cont D) k with
      | none => rw [h2] at h; cases h
      | some x => rw [h2] at h3; rw [h3]; rfl
     rw [hn] at hst
     dsimp only at hst
     unfold newer at hst
     dsimp only at hst
     obtain ⟨d, hd⟩ : ∃ d, (a - t.age) % 4294967296 = d := ⟨_, rfl⟩
     have wu : IntKind.u32.wrap (a - t.age) = d := by rw [← hd]; rfl
     rw [hd] at hst
     by_cases hdd : 0 < d ∧ d < 2147483648
     ·rw [decide_eq_true hdd, if_pos rfl] at hst
      have wi : IntKind.i32.wrap d = d := by rw [wrap32 d (by omega), if_pos (by omega)]
      have g1 : decide (0 < d) = true := decide_eq_true hdd.1
      have HS2 := hide hst
      clear hst HST hn hd hdd
      go_wp2_with fail
      try rw [hW5, hB2]
      go_roundw
      case rel => exact ⟨k + 1, ⟨k, a, g, l⟩, true, by omega, by go_num, rfl, (by show _ = _; rw [HS2.out]; rfl), (by show _ = _; rw [HS2.out]; rfl), X1e, X0e, HBe⟩
      case measure => simp [intOf]; omega
     ·rw [decide_eq_false hdd, if_neg (by decide)] at hst
      obtain ⟨z, hz⟩ : ∃ z, IntKind.i32.wrap d = z := ⟨_, rfl⟩
      have hz0 : z ≤ 0 := by
       rw [← hz, wrap32 d (by omega)]
       split <;> omega
      have g1 : decide (0 < z) = false := decide_eq_false (by omega)
      have HS2 := hide hst
      clear hst HST hn hd hdd hz0
      go_wp2_with fail
      try rw [hW5, hB2]
      go_roundw
      case rel => exact ⟨k + 1, t, true, by omega, by go_num, rfl, (by show _ = _; rw [HS2.out]; rfl), (by show _ = _; rw [HS2.out]; rfl), X1D, X0D, HBD⟩
      case measure => simp [intOf]; omega
  ·obtain rfl : k = 2 := by omega
   have HF2 : Hid (f = (newestC (cont D)).isSome) := HF.out
   have HT2 : Hid (t = (newestC (cont D)).getD hd0) := HT.out
   obtain ⟨c0, c1, c2, c3, -⟩ := HdB.cells X1.out
   obtain ⟨d0, d1, d2, d3, d4, d5, d6, d7⟩ := HdB.cells X0.out
   obtain ⟨e0, e1, e2, e3, -⟩ := HdB.cells (X0.out.wrote (.int .i64 (t.pl : Int)) (.int .u32 t.age) (.int .u32 t.first) (.int .u32 t.long))
   have HBF := hide (below_four HB.out (B := w.heap.size) (Nat.le_refl _) (.int .i64 (t.pl : Int)) (.int .u32 t.age) (.int .u32 t.first) (.int .u32 t.long))
   clear HF HT X1 X0 HB
   go_wp2
   exact bodyPost_ret (v := .tuple #[hdV t, .bool f, .nilIface]) (by simp [results, Tryz.results46, go_sem, e0, e1, e2, e3, hdV]) rfl ⟨by rw [← HF2.out, ← HT2.out], HBF.out⟩

end Go.Proofs.YtnhbfehfipafoaaGreatDoor
