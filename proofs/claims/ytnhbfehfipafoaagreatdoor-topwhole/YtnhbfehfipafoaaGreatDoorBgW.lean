/- A deed is committed. -/
import Derived.Test.YtnhbfehfipafoaaGreatDoorSrN
import Derived.Test.YtnhbfehfipafoaaGreatDoorShelf
import Derived.Test.YtnhbfehfipafoaaGreatDoorTl2
import Derived.Deep.Cut
import Derived.Deep.CutRange
import Derived.Deep.CutBlock

namespace Go.Proofs.YtnhbfehfipafoaaGreatDoor
open Go.RowKit

def comF (l : List Nmd) (os : List OpV) (m : Nat) : Nat := if 12 < os.length then 2 else if (allC l os).1 ≠ 0 then (allC l os).1 else if m - 82 ≤ os.length then 10 else 0

def comE (os : List OpV) (m en : Nat) : Nat := (if m - 82 - en ≤ os.length then 0 else en) + os.length + 1

def CmP (w : World) (base : Own) (S B : Nat) (D : Dsk) (m : Nat) (l : List Nmd) (en : Nat) (os : List OpV) (e : Ending) (w' : World) : Prop :=
 ((comF l os m ≠ 0 ∧ e = .returned (errno (comF l os m : Nat)) ∧ ∃ h, StoreP w' base S B D m h l en) ∨
  (comF l os m = 0 ∧ ∃ D' b, e = .returned (okV b) ∧ DiskO w' base B D' ∧ (b = true → ∃ h', StoreP w' base S B D' m h' (allC l os).2 (comE os m en)) ∧ (b = false → StoZ D' m l (allC l os).2) ∧ (Free D → b = true ∧ Free D'))) ∧ KeptS base w w'

theorem StoZ.left {D : Dsk} {m : Nat} {l : List Nmd} (z : StoZ D m l l) (l2 : List Nmd) : StoZ D m l l2 :=
 ⟨z.well, fun c hc => by
  obtain ⟨h, en, h1⟩ := z.says c hc
  exact ⟨h, en, .inl (h1.elim id id)⟩⟩

def CtB (W : World) (B : Nat) (u : Value) : Prop := W.heap[B]? = some (.cells #[u] 53 (0, 0))

theorem CtB.new (W : World) (u : Value) : CtB (W.alloc (.cells #[u] 53)) W.heap.size u := heap_alloc_new W _

theorem CtB.later {W W' : World} {B : Nat} {u : Value} (h : CtB W B u) (hb : Below W.heap.size W W') : CtB W' B u := (hb.block _ (heap_lt h)).trans h

theorem CtB.cells {W : World} {B : Nat} {u : Value} (h : CtB W B u) : W.cell? ⟨B, 0, none⟩ = some u ∧ W.frozen? ⟨B, 0, none⟩ = false :=
 ⟨by rw [cell_of_row W B 0 _ _ _ h]; rfl, by simp [World.frozen?, show W.heap[B]? = _ from h]⟩

theorem CtB.keptS {W W' : World} {base : Own} {B : Nat} {u : Value} (h : CtB W B u) (hk : KeptS base W W') : CtB W' B u :=
 (hk.block B (heap_lt h) (.inr fun cs t fz hx => by
  rw [show W.heap[B]? = _ from h] at hx
  simp only [Option.some.injEq, Obj.cells.injEq] at hx
  rw [← hx.2.1]
  unfold stoT logT diskT
  decide)).trans h

theorem CtB.keptW {W W' : World} {base : Own} {B : Nat} {u : Value} (h : CtB W B u) (hk : KeptW base W W') : CtB W' B u := h.keptS (KeptS.of_keptW hk)

theorem sto_ne_log {W : World} {S B L C : Nat} {h : Hd} {u lp : Value} {fr many first en : Int} (x : StoB W S B h u lp) (y : LogM W L C fr many first en) : S ≠ L := fun e => by
 subst e
 unfold StoB at x
 unfold LogM at y
 rw [x] at y
 simp at y

theorem packF_of : ∀ {os : List OpV}, (∀ o ∈ os, opF o = 0) → packF os = 0
 | [], _ => rfl
 | o :: t, h => by
  unfold packF
  rw [if_neg (by rw [h o (List.mem_cons_self ..)]; decide)]
  exact packF_of fun x hx => h x (List.mem_cons_of_mem _ hx)

theorem addF_ok {os : List OpV} {r : Nat} (h1 : os.length ≤ 12) (h2 : os.length < r) (h3 : ∀ o ∈ os, opF o = 0) : addF os r = 0 := by
 unfold addF
 rw [if_neg (by omega), if_neg (by omega), packF_of h3]

set_option linter.unusedSimpArgs false in
set_option maxRecDepth 100000 in
set_option maxHeartbeats 3200000 in
theorem commit_any (w : World) (base : Own) (S B : Nat) (D : Dsk) (m : Nat) (h : Hd) (l : List Nmd) (en : Nat) (v : Value) (osC : List OpC) (hp : StoreP w base S B D m h l en) (hm : m ≤ 200) (h86 : 86 ≤ m) (ht : TabP w) (hbase : base.h ≤ w.heap.size)
  (hops : ∀ W, KeptS base w W → OpsN W v osC) (hl20 : ∀ q ∈ osC, q.o.v.length ≤ 20) (hlen : osC.length ≤ 1000000) (os : List OpV) (hos : osC.map (·.o) = os) :
  Calls Tryz.prog 15 #[.pointer (some ⟨S, 0, none⟩), v] w fun e w' => CmP w base S B D m l en os e w' := by
 have HP := hide hp
 obtain ⟨⟨L, o, n, c, qs, hx, hc, hq, hlg, hL, hS⟩, hd, hi⟩ := hp
 have HCO : Hid (CatOk (qs.map (·.x))) := by rw [hq]; exact hi.says.ok
 obtain ⟨vo, vc, rfl, -⟩ := hops w (KeptS.refl _ _)
 obtain ⟨on, hon⟩ : ∃ on, osC.length = on := ⟨_, rfl⟩
 rw [hon] at hops ⊢
 have hosl : os.length = on := by rw [← hos, List.length_map]; exact hon
 have X := hide hx; have HC := hide hc; have HQ := hide hq; have HLG := hide hlg; have HD := hide hd; have HI := hide hi; have HT := hide ht; have HBA := hide hbase; have HLB := hide hL; have HSB := hide hS
 have HOPS := hide hops; have HV := hide hl20; have HOSM := hide hos; have HOL := hide hosl; have HOC : Hid (osC.length ≤ 9223372036854775807) := by show _ ≤ _; omega
 have hon6 : on ≤ 1000000 := by omega
 obtain ⟨c0, c1, c2, c3, c4, c5, c6, -⟩ := hx.cells
 clear hx hc hq hlg hd hi ht hbase hL hS hops hl20 hlen hos hosl hon
 by_cases h12 : 12 < on
 ·have HFIN : Hid (CmP w base S B D m l en os (.returned (errno 2)) w) := by
   have e : comF l os m = 2 := by unfold comF; rw [if_pos (by rw [HOL.out]; exact h12)]
   exact ⟨.inl ⟨by rw [e]; decide, by rw [e]; rfl, h, HP.out⟩, KeptS.refl _ _⟩
  have g1 : decide ((12 : Int) < (on : Int)) = true := decide_eq_true (by omega)
  go_enter Tryz.func15, Tryz.ntmps15
  go_wp2
  go_ret
  exact HFIN.out
 have g1 : decide ((12 : Int) < (on : Int)) = false := decide_eq_false (by omega)
 go_enter Tryz.func15, Tryz.ntmps15
 go_wp2_with fail
 refine (after_any w (.agg #[.slice o n c]) (.slice vo on vc) qs osC ⟨_, rfl, HC.out⟩ HCO.out (HOPS.out w (KeptS.refl _ _)) HV.out HOC.out).mono ?_
 rw [HQ.out, HOSM.out]
 rintro e w1 ⟨hres, hb1⟩
 rcases hres with ⟨hne, rfl⟩ | ⟨h0, u, qn, rfl, hqn, hcn⟩
 ·obtain ⟨rc, hrc⟩ : ∃ rc, (allC l os).1 = rc := ⟨_, rfl⟩
  rw [hrc] at hne ⊢
  have e0 : errV rc = .iface 80 (.int .i64 (rc : Nat)) := if_neg hne
  have hbA := alloc_below w1 (.cells #[.slice none 0 0] 53)
  have hbb := hb1.trans (hbA.mono hb1.size)
  have HFIN : Hid (CmP w base S B D m l en os (.returned (errno (rc : Nat))) (w1.alloc (.cells #[.slice none 0 0] 53))) := by
   have e : comF l os m = rc := by unfold comF; rw [if_neg (by rw [HOL.out]; exact h12), if_pos (by rw [hrc]; exact hne), hrc]
   exact ⟨.inl ⟨by rw [e]; exact hne, by rw [e], h, HP.out.later hbb⟩, KeptS.of_below hbb⟩
  rw [e0]
  clear hrc hb1 hbA hbb e0 hne
  go_wp2
  go_ret
  exact HFIN.out
 ·obtain ⟨no, nn, nc, rfl, -⟩ : ∃ no nn nc, u = .agg #[.slice no nn nc] ∧ True := by
   obtain ⟨u2, rfl, o2, c2, rfl, -⟩ := hcn
   exact ⟨o2, _, c2, rfl, trivial⟩
  obtain ⟨_, eu, hcn⟩ := hcn
  simp only [Value.agg.injEq, Array.mk.injEq, List.cons.injEq, and_true] at eu
  subst eu
  have hal : allC l os = (0, (allC l os).2) := Prod.ext h0 rfl
  obtain ⟨ln, hln⟩ : ∃ ln, (allC l os).2 = ln := ⟨_, rfl⟩
  rw [hln] at hal hqn
  have HALL := hide hal; have HQN := hide hqn
  have hall0 : ∀ q ∈ os, opF q = 0 := allC_opF HI.out.says.ok os h0
  have HOF := hide hall0
  have hbA := alloc_below w1 (.cells #[.slice no nn nc] 53)
  have hbb := hb1.trans (hbA.mono hb1.size)
  have HBB := hide hbb
  have HCN := hide (hcn.below hbA); have XB := hide (CtB.new w1 (.slice no nn nc))
  have X2 := X.out.later hbb; have HD2 := hide (HD.out.later hbb)
  obtain ⟨Bx, hBx⟩ : ∃ Bx, w1.heap.size = Bx := ⟨_, rfl⟩
  obtain ⟨d0, d1, d2, d3, d4, d5, d6, -⟩ := X2.cells
  have XX := hide X2
  clear hb1 hbA hbb hcn h0 hall0 hal hqn hln c0 c1 c2 c3 c4 c5 c6 X2
  go_wp2_with fail
  generalize w1.alloc (.cells #[.slice no nn nc] 53) = w2 at *
  try rw [hBx]
  rw [hBx] at XB
  clear hBx
  refine (logSec_any w2 base B D m HD2.out HI.out.well.len hm (by omega)).mono ?_
  rintro e w3 ⟨rfl, hb3⟩
  have HB3 := hide (HBB.out.trans (hb3.mono HBB.out.size)); have X3 := hide (XX.out.later hb3); have HC3 := hide (HCN.out.below hb3); have XB3 := hide (XB.out.later hb3)
  obtain ⟨mn, hmn⟩ : ∃ mn, m - 82 = mn := ⟨_, rfl⟩
  have hmn2 : mn ≤ 200 := by omega
  rw [hmn]
  clear hb3 HD2 HCN XB XX d0 d1 d2 d3 d4 d5 d6 HBB
  by_cases h10 : mn ≤ on
  ·have HFIN : Hid (CmP w base S B D m l en os (.returned (errno 10)) w3) := by
    have e : comF l os m = 10 := by unfold comF; rw [if_neg (by rw [HOL.out]; exact h12), if_neg (by rw [HALL.out]; exact fun h => h rfl), if_pos (by rw [HOL.out, hmn]; exact h10)]
    exact ⟨.inl ⟨by rw [e]; decide, by rw [e]; rfl, h, HP.out.later HB3.out⟩, KeptS.of_below HB3.out⟩
   have g2 : decide ((mn : Int) ≤ (on : Int)) = true := decide_eq_true (by omega)
   clear hmn
   go_wp2
   go_ret
   exact HFIN.out
  have g2 : decide ((mn : Int) ≤ (on : Int)) = false := decide_eq_false (by omega)
  have HF : Hid (comF l os m = 0) := by show _ = _; unfold comF; rw [if_neg (by rw [HOL.out]; exact h12), if_neg (by rw [HALL.out]; exact fun h => h rfl), if_neg (by rw [HOL.out, hmn]; exact h10)]
  have HMN := hide hmn
  clear hmn
  obtain ⟨d0, d1, d2, d3, d4, d5, d6, -⟩ := X3.out.cells
  have hen := HI.out.says.en_le
  rw [HMN.out] at hen
  have HLG3 := hide (HLG.out.later HB3.out)
  rw [HMN.out] at HLG3
  go_wp2_with fail
  refine (sroom_any w3 S B L h _ _ _ mn en X3.out HLG3.out hen (by omega)).mono ?_
  rintro e w4 ⟨rfl, hb4⟩
  have HB4 := hide (HB3.out.trans (hb4.mono HB3.out.size)); have X4 := hide (X3.out.later hb4); have HC4 := hide (HC3.out.below hb4); have XB4 := hide (XB3.out.later hb4)
  clear hb4 X3 HC3 XB3 HB3 HLG3 d0 d1 d2 d3 d4 d5 d6
  obtain ⟨rm, hrm⟩ : ∃ rm, mn - en = rm := ⟨_, rfl⟩
  rw [hrm]
  by_cases hro : rm ≤ on
  ·have g3 : decide ((rm : Int) ≤ (on : Int)) = true := decide_eq_true (by omega)
   have HENA : Hid (0 + os.length + 1 = comE os m en) := by show _ = _; unfold comE; rw [if_pos (by rw [HMN.out, hrm, HOL.out]; exact hro)]
   clear hrm
   go_wp2_with fail
   refine (checkpoint_any w4 base S B D m h l en (HP.out.later HB4.out) hm h86 (HT.out.below HB4.out) (Nat.le_trans HBA.out HB4.out.size)).mono ?_
   rintro e wc ⟨D1, r1, rfl, hd1, hk1, hok1, hno1, hfr1⟩
   have XB5 := hide (XB4.out.keptS hk1); have HN5 := hide (HC4.out.keepK (keepK_keptS hk1)); have HK5 := hide ((KeptS.of_below (base := base) HB4.out).trans hk1)
   have HSZ5 : Hid (base.h ≤ wc.heap.size) := Nat.le_trans HBA.out (Nat.le_trans HB4.out.size hk1.size)
   clear hk1 X4 HC4 XB4
   cases r1 with
   | false =>
    have hz := hno1 rfl
    have HFIN : Hid (CmP w base S B D m l en os (.returned (errno 9)) wc) := ⟨.inr ⟨HF.out, D1, false, rfl, hd1, (fun h => by cases h), fun _ => (hz.left _), fun hf => absurd (hfr1 hf).1 (by decide)⟩, HK5.out⟩
    clear hz hno1 hok1 hfr1 hd1
    rw [show okV false = errno 9 from rfl]
    go_wp2
    go_ret
    exact HFIN.out
   | true =>
    obtain ⟨h1, hp1⟩ := hok1 rfl
    obtain ⟨⟨L1, o1, n1, k1, q1, hx1, hc1, hq1, hlg1, hL1, -⟩, hdd1, hi1⟩ := hp1
    have hho1 := (newest_ok hi1.says.head).1
    obtain ⟨en1, hen1⟩ : ∃ en1 : Nat, en1 = 0 := ⟨_, rfl⟩
    have HEN : Hid (en1 + os.length + 1 = comE os m en) := by rw [hen1]; exact HENA
    have HLT : Hid (os.length < m - 82 - en1) := by show _ < _; rw [HMN.out, HOL.out, hen1]; omega
    rw [show (((0 : Nat) : Int)) = ((en1 : Nat) : Int) from by rw [hen1]] at hlg1
    rw [← hen1] at hi1
    have X1 := hide hx1; have HLG1 := hide hlg1; have HLB1 := hide hL1; have HD1 := hide hdd1; have HI1 := hide hi1
    have HH1 : Hid (0 ≤ h1.first ∧ h1.first ≤ 8589934592) := by have := hho1.first; exact ⟨by omega, by omega⟩
    have HFR1 : Hid (Free D → Free D1) := fun hf => (hfr1 hf).2
    have XB := XB5; have HN1 := HN5; have HK1 := HK5; have HBW := HSZ5
    have HADD : Hid (addF os (m - 82 - en1) = 0) := addF_ok (by rw [HOL.out]; omega) HLT.out HOF.out
    have HSL1 : Hid (S ≠ L1) := sto_ne_log hx1 hlg1
    clear hx1 hc1 hq1 hlg1 hL1 hdd1 hi1 hho1 hen1 hok1 hno1 hfr1 hd1
    rw [show okV true = .nilIface from rfl]
    obtain ⟨c0, c1, c2, c3, c4, c5, c6, -⟩ := X1.out.cells
    go_wp2_with fail
    refine (logAdd_any wc base B L1 D1 m 0 82 en1 (m - 82) h1.first (.slice vo on vc) osC HD1.out HLG1.out HI1.out.well (by omega) hm (by omega) (by have := HI1.out.says.en_le; omega) HH1.out HBW.out HLB1.out (HOPS.out wc HK1.out)).mono ?_
    rintro e w9 ⟨hadd, hk9⟩
    rw [HOSM.out] at hadd
    have hF0 := HADD.out
    rcases hadd with ⟨hne, -⟩ | ⟨-, rfl, hd9, hl9⟩
    ·exact absurd hF0 hne
    have X9 := hide (X1.out.keptW hk9); have XB9 := hide (XB.out.keptW hk9); have HN9 := hide (HN1.out.keepK (keepK_keptW hk9))
    have HK9 := hide (HK1.out.trans (KeptS.of_keptW hk9))
    obtain ⟨D2, hD2⟩ : ∃ D2, (addD h1.first 82 en1 (m - 82) os D1).1 = D2 := ⟨_, rfl⟩
    obtain ⟨r, hr⟩ : ∃ r, (addD h1.first 82 en1 (m - 82) os D1).2 = r := ⟨_, rfl⟩
    rw [hr] at hl9 ⊢
    rw [hD2] at hd9
    have HFREE : Hid (Free D → r = true ∧ Free D2) := fun hf => by have := addD_free (f := h1.first) (fr := 82) (en := en1) (mn := m - 82) (os := os) (HFR1.out hf); rwa [hr, hD2] at this
    clear hk9 c0 c1 c2 c3 c4 c5 c6
    cases r with
    | false =>
     have hz := HI1.out.add_fell (by omega) HALL.out HLT.out hr
     rw [hD2] at hz
     have HFIN : Hid (CmP w base S B D m l en os (.returned (errno 9)) w9) := ⟨.inr ⟨HF.out, D2, false, rfl, hd9, (fun h => by cases h), fun _ => (by rw [HALL.out]; exact hz), HFREE.out⟩, HK9.out⟩
     clear hd9 hl9 hr hD2 hz
     rw [show okV false = errno 9 from rfl]
     go_wp2
     go_ret
     exact HFIN.out
    | true =>
     have hz := HI1.out.add_done (by omega) HALL.out HLT.out hr
     rw [hD2] at hz
     rw [if_pos rfl] at hl9
     have HST := hide hz; have HLG9 := hide hl9; have HD9 := hide hd9
     obtain ⟨b0, b1, b2, b3, b4, b5, b6, bz⟩ := X9.out.cells
     have z5 := bz 5
     obtain ⟨y0, -⟩ := XB9.out.cells
     have hx5 := X9.out.setNow (.slice no nn nc)
     have hbut : ButB w9.heap.size S w9 (w9.setCell ⟨S, 5, none⟩ (.slice no nn nc)) := (ButB.of (Below.refl _ _)).set 5 _
     have hK := HK9.out.trans (KeptS.of_but hbut X9.out HSB.out)
     have HFIN : Hid (CmP w base S B D m l en os (.returned .nilIface) (w9.setCell ⟨S, 5, none⟩ (.slice no nn nc))) :=
      ⟨.inr ⟨HF.out, D2, true, rfl, HD9.out.set sto_type X9.out 5 _, fun _ => ⟨h1, ⟨⟨L1, no, nn, nc, qn, hx5, HN9.out.keepK (keepK_set X9.out sto_kin 5 _), (by rw [HALL.out]; exact HQN.out), (by rw [← HEN.out]; exact HLG9.out.aside HSL1.out 5 _), HLB1.out, HSB.out⟩, HD9.out.set sto_type X9.out 5 _, (by rw [HALL.out, ← HEN.out]; exact HST.out)⟩⟩, (fun h => by cases h), HFREE.out⟩, hK⟩
     clear hd9 hl9 hr hD2 hz hx5 hbut hK bz
     rw [show okV true = .nilIface from rfl]
     go_wp2
     go_ret
     exact HFIN.out
  ·have g3 : decide ((rm : Int) ≤ (on : Int)) = false := decide_eq_false (by omega)
   obtain ⟨en1, hen1⟩ : ∃ en1 : Nat, en1 = en := ⟨_, rfl⟩
   have HEN : Hid (en1 + os.length + 1 = comE os m en) := by show _ = _; unfold comE; rw [if_neg (by rw [HMN.out, hrm, HOL.out]; exact hro), hen1]
   have HLT : Hid (os.length < m - 82 - en1) := by show _ < _; rw [HMN.out, HOL.out, hen1]; omega
   obtain ⟨h1, hh1⟩ : ∃ h1, h1 = h := ⟨_, rfl⟩
   obtain ⟨L1, hL1⟩ : ∃ L1, L1 = L := ⟨_, rfl⟩
   obtain ⟨D1, hD1⟩ : ∃ D1, D1 = D := ⟨_, rfl⟩
   have X1 := X4; have HLG1 := hide (HLG.out.later HB4.out); have HLB1 := HLB; have HD1 := hide (HD.out.later HB4.out); have HI1 := HI
   rw [← hh1, ← hL1] at X1
   rw [← hh1, ← hL1, ← hen1] at HLG1
   rw [← hL1] at HLB1
   rw [← hh1, ← hen1, ← hD1] at HI1
   rw [← hD1] at HD1
   have HH1 : Hid (0 ≤ h1.first ∧ h1.first ≤ 8589934592) := by have := (newest_ok HI1.out.says.head).1.first; exact ⟨by omega, by omega⟩
   have HFR1 : Hid (Free D → Free D1) := fun hf => by rw [hD1]; exact hf
   have XB := XB4; have HN1 := HC4; have HK1 := hide (KeptS.of_below (base := base) HB4.out); have HBW : Hid (base.h ≤ w4.heap.size) := Nat.le_trans HBA.out HB4.out.size
   have HADD : Hid (addF os (m - 82 - en1) = 0) := addF_ok (by rw [HOL.out]; omega) HLT.out HOF.out
   have HSL1 : Hid (S ≠ L1) := sto_ne_log X1.out HLG1.out
   clear hrm hen1 hh1 hL1 hD1
   have hwc : w4 = w4 := rfl
   generalize hwc : w4 = wc at *
   clear hwc
   obtain ⟨c0, c1, c2, c3, c4, c5, c6, -⟩ := X1.out.cells
   go_wp2_with fail
   refine (logAdd_any wc base B L1 D1 m 0 82 en1 (m - 82) h1.first (.slice vo on vc) osC HD1.out HLG1.out HI1.out.well (by omega) hm (by omega) (by have := HI1.out.says.en_le; omega) HH1.out HBW.out HLB1.out (HOPS.out wc HK1.out)).mono ?_
   rintro e w9 ⟨hadd, hk9⟩
   rw [HOSM.out] at hadd
   have hF0 := HADD.out
   rcases hadd with ⟨hne, -⟩ | ⟨-, rfl, hd9, hl9⟩
   ·exact absurd hF0 hne
   have X9 := hide (X1.out.keptW hk9); have XB9 := hide (XB.out.keptW hk9); have HN9 := hide (HN1.out.keepK (keepK_keptW hk9))
   have HK9 := hide (HK1.out.trans (KeptS.of_keptW hk9))
   obtain ⟨D2, hD2⟩ : ∃ D2, (addD h1.first 82 en1 (m - 82) os D1).1 = D2 := ⟨_, rfl⟩
   obtain ⟨r, hr⟩ : ∃ r, (addD h1.first 82 en1 (m - 82) os D1).2 = r := ⟨_, rfl⟩
   rw [hr] at hl9 ⊢
   rw [hD2] at hd9
   have HFREE : Hid (Free D → r = true ∧ Free D2) := fun hf => by have := addD_free (f := h1.first) (fr := 82) (en := en1) (mn := m - 82) (os := os) (HFR1.out hf); rwa [hr, hD2] at this
   clear hk9 c0 c1 c2 c3 c4 c5 c6
   cases r with
   | false =>
    have hz := HI1.out.add_fell (by omega) HALL.out HLT.out hr
    rw [hD2] at hz
    have HFIN : Hid (CmP w base S B D m l en os (.returned (errno 9)) w9) := ⟨.inr ⟨HF.out, D2, false, rfl, hd9, (fun h => by cases h), fun _ => (by rw [HALL.out]; exact hz), HFREE.out⟩, HK9.out⟩
    clear hd9 hl9 hr hD2 hz
    rw [show okV false = errno 9 from rfl]
    go_wp2
    go_ret
    exact HFIN.out
   | true =>
    have hz := HI1.out.add_done (by omega) HALL.out HLT.out hr
    rw [hD2] at hz
    rw [if_pos rfl] at hl9
    have HST := hide hz; have HLG9 := hide hl9; have HD9 := hide hd9
    obtain ⟨b0, b1, b2, b3, b4, b5, b6, bz⟩ := X9.out.cells
    have z5 := bz 5
    obtain ⟨y0, -⟩ := XB9.out.cells
    have hx5 := X9.out.setNow (.slice no nn nc)
    have hbut : ButB w9.heap.size S w9 (w9.setCell ⟨S, 5, none⟩ (.slice no nn nc)) := (ButB.of (Below.refl _ _)).set 5 _
    have hK := HK9.out.trans (KeptS.of_but hbut X9.out HSB.out)
    have HFIN : Hid (CmP w base S B D m l en os (.returned .nilIface) (w9.setCell ⟨S, 5, none⟩ (.slice no nn nc))) :=
     ⟨.inr ⟨HF.out, D2, true, rfl, HD9.out.set sto_type X9.out 5 _, fun _ => ⟨h1, ⟨⟨L1, no, nn, nc, qn, hx5, HN9.out.keepK (keepK_set X9.out sto_kin 5 _), (by rw [HALL.out]; exact HQN.out), (by rw [← HEN.out]; exact HLG9.out.aside HSL1.out 5 _), HLB1.out, HSB.out⟩, HD9.out.set sto_type X9.out 5 _, (by rw [HALL.out, ← HEN.out]; exact HST.out)⟩⟩, (fun h => by cases h), HFREE.out⟩, hK⟩
    clear hd9 hl9 hr hD2 hz hx5 hbut hK bz
    rw [show okV true = .nilIface from rfl]
    go_wp2
    go_ret
    exact HFIN.out

end Go.Proofs.YtnhbfehfipafoaaGreatDoor

/- The reference: are two lattices the same, two catalogs; where does a name stand? -/
namespace Go.Proofs.YtnhbfehfipafoaaGreatDoor
open Go.RowKit

theorem rows_ne {xs ys : List (List Int)} {k : Nat} (hx : k < xs.length) (hy : k < ys.length) (h : xs[k] ≠ ys[k]) : xs ≠ ys := fun e => by
 subst e; exact h rfl

theorem two_three (w : World) (a0 a1 a2 b0 b1 b2 : Value) (s t : TypeId) : ThreeV ((w.alloc (.cells #[a0, a1, a2] s)).alloc (.cells #[b0, b1, b2] t)) w.heap.size a0 a1 a2 ∧ ThreeV ((w.alloc (.cells #[a0, a1, a2] s)).alloc (.cells #[b0, b1, b2] t)) (w.heap.size + 1) b0 b1 b2 ∧ Below w.heap.size w ((w.alloc (.cells #[a0, a1, a2] s)).alloc (.cells #[b0, b1, b2] t)) := by
 have hb1 := alloc_below w (.cells #[a0, a1, a2] s)
 have hb2 := alloc_below (w.alloc (.cells #[a0, a1, a2] s)) (.cells #[b0, b1, b2] t)
 have e : (w.alloc (.cells #[a0, a1, a2] s)).heap.size = w.heap.size + 1 := by simp
 refine ⟨(ThreeV.new w a0 a1 a2 s).later hb2, ?_, hb1.trans (hb2.mono hb1.size)⟩
 have := ThreeV.new (w.alloc (.cells #[a0, a1, a2] s)) b0 b1 b2 t
 rwa [e] at this

set_option linter.unusedSimpArgs false in
set_option maxRecDepth 100000 in
set_option maxHeartbeats 1600000 in
theorem sameNamed_any (w : World) (p q : Nc) (hp : NcIn w p) (hq : NcIn w q) (hl : p.x.gens.length ≤ 1000) (hg : ∀ g ∈ p.x.gens, g.length ≤ 1000000) (r : Bool) (hr : r = true ↔ p.x = q.x) :
  Calls Tryz.prog 55 #[p.val, q.val] w fun e w' => e = .returned (.bool r) ∧ Below w.heap.size w w' := by
 obtain ⟨⟨nm, n, gs⟩, po, pl, pc⟩ := p
 obtain ⟨⟨mm, m, hs⟩, qo, ql, qc⟩ := q
 have HP : Hid (RowsS w (.slice po pl pc) gs) := hp.1
 have HQ : Hid (RowsS w (.slice qo ql qc) hs) := hq.1
 have HG := hide hg
 have hpl : pl = gs.length := by obtain ⟨_, _, e, -⟩ := id HP.out; simp only [Value.slice.injEq] at e; exact e.2.1
 have hql : ql = hs.length := by obtain ⟨_, _, e, -⟩ := id HQ.out; simp only [Value.slice.injEq] at e; exact e.2.1
 subst hpl hql
 simp only [Nmd.mk.injEq] at hr
 have hl' : gs.length ≤ 1000 := hl
 have hB := toList_beq nm mm
 obtain ⟨x1, x2, hb⟩ := two_three w (.string nm) (.int .i64 n) (.slice po gs.length pc) (.string mm) (.int .i64 m) (.slice qo hs.length qc) 107 107
 have X1 := hide x1; have X2 := hide x2; have HB := hide hb
 obtain ⟨c0, c1, c2, -⟩ := x1
 obtain ⟨d0, d1, d2, -⟩ := x2
 have HR := hide hr
 clear hp hq hg hl hb hr
 show Calls Tryz.prog 55 #[.agg #[.string nm, .int .i64 n, .slice po gs.length pc], .agg #[.string mm, .int .i64 m, .slice qo hs.length qc]] w _
 by_cases h1 : nm = mm
 ·have g1 : (nm.toList == mm.toList) = true := by rw [hB]; exact decide_eq_true h1
  by_cases h2 : n = m
  ·have g2 : (n != m) = false := by rw [bne_eq_false_iff_eq]; exact h2
   by_cases h3 : gs.length = hs.length
   ·have g3 : ((gs.length : Int) != (hs.length : Int)) = false := by rw [bne_eq_false_iff_eq]; omega
    have HL := hide h3
    have HRR : Hid (r = true ↔ gs = hs) := ⟨fun h => (HR.out.1 h).2.2, fun h => HR.out.2 ⟨h1, h2, h⟩⟩
    have H1 := hide h1; have H2 := hide h2
    clear h1 h2 h3 hB HR
    go_enter Tryz.func55, Tryz.ntmps55
    go_wp2_with fail
    generalize ((w.alloc (.cells #[.string nm, .int .i64 n, .slice po gs.length pc] 107)).alloc (.cells #[.string mm, .int .i64 m, .slice qo hs.length qc] 107)) = W0 at *
    clear c0 c1 d0 d1 c2 d2
    go_loopw [5] (fun i wr => ∃ k : Nat, k ≤ gs.length ∧ i = .int .i64 k ∧ Hid (∀ j (h : j < gs.length) (h' : j < hs.length), j < k → gs[j] = hs[j]) ∧ Hid (ThreeV wr w.heap.size (.string nm) (.int .i64 n) (.slice po gs.length pc)) ∧ Hid (ThreeV wr (w.heap.size + 1) (.string mm) (.int .i64 m) (.slice qo hs.length qc)) ∧ Hid (Below w.heap.size w wr)) (fun i _ => gs.length - (intOf i).toNat)
    case atStart => exact ⟨0, Nat.zero_le _, rfl, hide (fun j _ _ hj => absurd hj (by omega)), X1, X2, HB⟩
    case round =>
     clear X1 X2 HB
     obtain ⟨k, hk, rfl, HE, X1, X2, HB⟩ := hrel
     obtain ⟨c0, c1, c2, l1⟩ := X1.out
     obtain ⟨d0, d1, d2, l2⟩ := X2.out
     by_cases hkl : k < gs.length
     ·have hkh : k < hs.length := by have := HL.out; omega
      obtain ⟨b, off, cap, e, hlt, u, cu, hu⟩ := (HP.out.below HB.out).at k hkl
      simp only [Value.slice.injEq, true_and] at e
      obtain ⟨rfl, rfl⟩ := e
      obtain ⟨b', off', cap', e, hlt', v, cv, hv⟩ := (HQ.out.below HB.out).at k hkh
      simp only [Value.slice.injEq, true_and] at e
      obtain ⟨rfl, rfl⟩ := e
      have HU := hide hu; have HV := hide hv
      obtain ⟨uo, uc, rfl⟩ := hu.form
      obtain ⟨vo, vc, rfl⟩ := hv.form
      have hgl := HG.out gs[k] (List.getElem_mem hkl)
      have HNE : Hid (gs[k] ≠ hs[k] → r = false) := fun h => by
       cases hr : r with
       | false => rfl
       | true => exact absurd (HRR.out.1 hr) (rows_ne hkl hkh h)
      have HE' : Hid (gs[k] = hs[k] → ∀ j (h : j < gs.length) (h' : j < hs.length), j < k + 1 → gs[j] = hs[j]) := fun h j h1 h2 hj => by
       by_cases e : j < k
       ·exact HE.out j h1 h2 e
       ·obtain rfl : j = k := by omega
        exact h
      have HGL : Hid (gs[k].length ≤ 1000000) := hgl
      clear hu hv hgl HE
      generalize gs[k] = x at *
      generalize hs[k] = y at *
      go_wp2_with fail
      go_region_held3 (fun w' => w'.cell? ⟨w.heap.size, 2, none⟩ = some (.slice (some ⟨b, off, none⟩) gs.length pc) ∧ w'.cell? ⟨w.heap.size + 1, 2, none⟩ = some (.slice (some ⟨b', off', none⟩) hs.length qc) ∧ w'.cell? ⟨b, off + k, none⟩ = some (.slice uo x.length uc) ∧ w'.cell? ⟨b', off' + k, none⟩ = some (.slice vo y.length vc)) (go_keep)
       (first
        | (go_at_call 74; refine (sameNumbers_any _ _ _ x y (HU.out.below (Below.refl _ _).drew (Nat.le_refl _)) (HV.out.below (Below.refl _ _).drew (Nat.le_refl _)) HGL.out).mono ?_; rintro e w3 ⟨rfl, hb3'⟩; have hb3 : Below wr.heap.size wr w3 := (Below.refl _ _).drew.trans (hb3'.mono (by simp)); have X13 := hide (X1.out.later hb3); have X23 := hide (X2.out.later hb3); have HB3 := hide (HB.out.trans (hb3.mono HB.out.size)); have e1 := (hb3.cell (p := ⟨b, off + k, none⟩) hlt).trans cu; have e2 := (hb3.cell (p := ⟨b', off' + k, none⟩) hlt').trans cv; obtain ⟨-, -, k2, -⟩ := X13.out; obtain ⟨-, -, j2, -⟩ := X23.out; clear hb3 hb3'))
      clear c0 c1 c2 d0 d1 d2 k2 j2 e1 e2 cu cv HU HV HGL X1 X2 HB
      by_cases hxy : x = y
      ·rw [decide_eq_true hxy]
       have HE2 := hide (HE'.out hxy)
       clear hxy
       go_wp2
       go_roundw
       case rel => exact ⟨k + 1, by omega, by go_num, HE2, X13, X23, HB3⟩
       case measure => simp [intOf]; omega
      ·rw [decide_eq_false hxy]
       obtain rfl := HNE.out hxy
       clear hxy
       go_wp2
       go_ret
       exact ⟨rfl, HB3.out⟩
     ·obtain rfl : k = gs.length := by omega
      obtain rfl : true = r := (HRR.out.2 (by
       apply List.ext_getElem HL.out
       intro j h1 h2
       exact HE.out j h1 h2 h1)).symm
      go_wp2
      go_ret
      exact ⟨rfl, HB.out⟩
   ·have g3 : ((gs.length : Int) != (hs.length : Int)) = true := by rw [bne_iff_ne]; omega
    obtain rfl : false = r := by
     cases hr : r with
     | false => rfl
     | true => exact absurd (congrArg List.length (HR.out.1 hr).2.2) h3
    clear h1 h2 h3 hB HR
    go_enter Tryz.func55, Tryz.ntmps55
    go_wp2
    go_ret
    exact ⟨rfl, HB.out⟩
  ·have g2 : (n != m) = true := by rw [bne_iff_ne]; exact h2
   obtain rfl : false = r := by
    cases hr : r with
    | false => rfl
    | true => exact absurd (HR.out.1 hr).2.1 h2
   clear h1 h2 hB HR
   go_enter Tryz.func55, Tryz.ntmps55
   go_wp2
   go_ret
   exact ⟨rfl, HB.out⟩
 ·have g1 : (nm.toList == mm.toList) = false := by rw [hB]; exact decide_eq_false h1
  obtain rfl : false = r := by
   cases hr : r with
   | false => rfl
   | true => exact absurd (HR.out.1 hr).1 h1
  clear h1 hB HR
  go_enter Tryz.func55, Tryz.ntmps55
  go_wp2
  go_ret
  exact ⟨rfl, HB.out⟩

end Go.Proofs.YtnhbfehfipafoaaGreatDoor

/- The reference: are two catalogs the same; where does a name stand? -/
namespace Go.Proofs.YtnhbfehfipafoaaGreatDoor
open Go.RowKit

set_option linter.unusedSimpArgs false in
set_option maxRecDepth 100000 in
set_option maxHeartbeats 1600000 in
theorem sameCatalog_any (w : World) (va vb : Value) (ps qs : List Nc) (ha : CatN w va ps) (hb : CatN w vb qs) (hl : ps.length ≤ 1000) (hg : ∀ p ∈ ps, p.x.gens.length ≤ 1000 ∧ ∀ g ∈ p.x.gens, g.length ≤ 1000000) (r : Bool) (hr : r = true ↔ ps.map (·.x) = qs.map (·.x)) :
  Calls Tryz.prog 20 #[va, vb] w fun e w' => e = .returned (.bool r) ∧ Below w.heap.size w w' := by
 have HA := hide ha; have HB := hide hb; have HG := hide hg
 obtain ⟨ao, acap, rfl, -⟩ := id ha
 obtain ⟨bo, bcap, rfl, -⟩ := id hb
 clear ha hb hg
 by_cases h3 : ps.length = qs.length
 ·have g3 : ((ps.length : Int) != (qs.length : Int)) = false := by rw [bne_eq_false_iff_eq]; omega
  have HL := hide h3; have HR := hide hr
  clear h3 hr
  go_enter Tryz.func20, Tryz.ntmps20
  go_wp2
  go_loopw [5] (fun i wr => ∃ k : Nat, k ≤ ps.length ∧ i = .int .i64 k ∧ Hid (∀ j (h : j < ps.length) (h' : j < qs.length), j < k → ps[j].x = qs[j].x) ∧ Hid (Below w.heap.size w wr)) (fun i _ => ps.length - (intOf i).toNat)
  case atStart => exact ⟨0, Nat.zero_le _, rfl, hide (fun j _ _ hj => absurd hj (by omega)), hide (Below.refl _ _)⟩
  case round =>
   obtain ⟨k, hk, rfl, HE, HBE⟩ := hrel
   by_cases hkl : k < ps.length
   ·have hkh : k < qs.length := by have := HL.out; omega
    obtain ⟨ab, aoff, acap', e⟩ := HA.out.form (by omega)
    simp only [Value.slice.injEq, true_and] at e
    obtain ⟨rfl, rfl⟩ := e
    obtain ⟨bb, boff, bcap', e⟩ := HB.out.form (by omega)
    simp only [Value.slice.injEq, true_and] at e
    obtain ⟨rfl, rfl⟩ := e
    obtain ⟨hlt, c0, c1, c2, hi⟩ := (HA.out.below HBE.out).at k hkl
    obtain ⟨hlt', d0, d1, d2, hi'⟩ := (HB.out.below HBE.out).at k hkh
    have HI := hide hi; have HI' := hide hi'
    obtain ⟨hg1, hg2⟩ := HG.out ps[k] (List.getElem_mem hkl)
    have HG1 := hide hg1; have HG2 := hide hg2
    have HNE : Hid (ps[k].x ≠ qs[k].x → r = false) := fun h => by
     cases hr : r with
     | false => rfl
     | true =>
      have e := HR.out.1 hr
      have : (ps.map (·.x))[k]'(by rw [List.length_map]; exact hkl) = (qs.map (·.x))[k]'(by rw [List.length_map]; exact hkh) := by simp only [e]
      rw [List.getElem_map, List.getElem_map] at this
      exact absurd this h
    have HE' : Hid (ps[k].x = qs[k].x → ∀ j (h : j < ps.length) (h' : j < qs.length), j < k + 1 → ps[j].x = qs[j].x) := fun h j h1 h2 hj => by
     by_cases e : j < k
     ·exact HE.out j h1 h2 e
     ·obtain rfl : j = k := by omega
      exact h
    clear hi hi' hg1 hg2 HE
    generalize ps[k] = p at *
    generalize qs[k] = q at *
    obtain ⟨s, hs⟩ : ∃ s : Bool, (s = true ↔ p.x = q.x) := ⟨@decide (p.x = q.x) (Classical.propDecidable _), @decide_eq_true_iff _ (Classical.propDecidable _)⟩
    have HS := hide hs
    obtain ⟨⟨nm, n, gs⟩, po, pl, pc⟩ := p
    obtain ⟨⟨mm, m, gs'⟩, qo, ql, qc⟩ := q
    dsimp only at c0 c1 c2 d0 d1 d2
    clear hs
    go_wp2_with fail
    go_region_held3 (fun w' => w'.cell? ⟨ab, aoff + k * 3, none⟩ = some (.string nm) ∧ w'.cell? ⟨ab, aoff + k * 3 + 1, none⟩ = some (.int .i64 n) ∧ w'.cell? ⟨ab, aoff + k * 3 + 2, none⟩ = some (.slice po pl pc) ∧ w'.cell? ⟨bb, boff + k * 3, none⟩ = some (.string mm) ∧ w'.cell? ⟨bb, boff + k * 3 + 1, none⟩ = some (.int .i64 m) ∧ w'.cell? ⟨bb, boff + k * 3 + 2, none⟩ = some (.slice qo ql qc)) (go_keep)
     (first
      | (go_at_call 55; refine (sameNamed_any _ ⟨⟨nm, n, gs⟩, po, pl, pc⟩ ⟨⟨mm, m, gs'⟩, qo, ql, qc⟩ (HI.out.below (Below.refl _ _).drew) (HI'.out.below (Below.refl _ _).drew) HG1.out HG2.out s HS.out).mono ?_; rintro e w3 ⟨rfl, hb3'⟩; have hb3 : Below wr.heap.size wr w3 := (Below.refl _ _).drew.trans (hb3'.mono (by simp)); have HB3 := hide (HBE.out.trans (hb3.mono HBE.out.size)); have e0 := (hb3.cell (p := ⟨ab, aoff + k * 3, none⟩) hlt).trans c0; have e1 := (hb3.cell (p := ⟨ab, aoff + k * 3 + 1, none⟩) hlt).trans c1; have e2 := (hb3.cell (p := ⟨ab, aoff + k * 3 + 2, none⟩) hlt).trans c2; have f0 := (hb3.cell (p := ⟨bb, boff + k * 3, none⟩) hlt').trans d0; have f1 := (hb3.cell (p := ⟨bb, boff + k * 3 + 1, none⟩) hlt').trans d1; have f2 := (hb3.cell (p := ⟨bb, boff + k * 3 + 2, none⟩) hlt').trans d2; clear hb3 hb3'))
    clear c0 c1 c2 d0 d1 d2 e0 e1 e2 f0 f1 f2 HI HI' HG1 HG2 HBE
    cases s with
    | true =>
     have HE2 := hide (HE'.out (HS.out.1 rfl))
     go_wp2
     go_roundw
     case rel => exact ⟨k + 1, by omega, by go_num, HE2, HB3⟩
     case measure => simp [intOf]; omega
    | false =>
     obtain rfl := HNE.out (fun h => by have := HS.out.2 h; cases this)
     go_wp2
     go_ret
     exact ⟨rfl, HB3.out⟩
   ·obtain rfl : k = ps.length := by omega
    obtain rfl : true = r := (HR.out.2 (by
     apply List.ext_getElem (by rw [List.length_map, List.length_map]; exact HL.out)
     intro j h1 h2
     rw [List.length_map] at h1 h2
     rw [List.getElem_map, List.getElem_map]
     exact HE.out j h1 h2 h1)).symm
    go_wp2
    go_ret
    exact ⟨rfl, HBE.out⟩
 ·have g3 : ((ps.length : Int) != (qs.length : Int)) = true := by rw [bne_iff_ne]; omega
  obtain rfl : false = r := by
   cases h : r with
   | false => rfl
   | true =>
    have := congrArg List.length (hr.1 h)
    rw [List.length_map, List.length_map] at this
    exact absurd this h3
  clear h3 hr
  go_enter Tryz.func20, Tryz.ntmps20
  go_wp2
  go_ret
  exact ⟨rfl, Below.refl _ _⟩

def atL (cs : List Nmd) (s : ByteArray) : Int := if hasL cs s then (cs.findIdx (fun x => decide (x.name = s)) : Int) else -1

end Go.Proofs.YtnhbfehfipafoaaGreatDoor

/- Lists that grow by one. -/
namespace Go.Proofs.YtnhbfehfipafoaaGreatDoor
open Go.RowKit

theorem BoxT.laterC {W W' : World} {B C : Nat} {u0 u1 u2 : Value} (h : BoxT W B u0 u1 u2) (hb : Below C W W') (hC : B < C) : BoxT W' B u0 u1 u2 :=
 ⟨⟨(hb.cell (p := ⟨B, 0, none⟩) hC).trans h.1.1, (hb.cell (p := ⟨B, 1, none⟩) hC).trans h.1.2.1, (hb.cell (p := ⟨B, 2, none⟩) hC).trans h.1.2.2.1, Nat.lt_of_lt_of_le h.1.2.2.2 hb.size⟩, fun k => (hb.frozen (p := ⟨B, k, none⟩) hC).trans (h.2 k)⟩

structure BackI (W8 wr : World) (ps : List Gc) (m : Nat) (nm : ByteArray) (N : Int) (vo : Option Addr) (vc : Nat) : Prop where
 box : BoxT wr W8.heap.size (.string nm) (.int .i64 N) (.slice vo m vc)
 own : wr.ownsRow (W8.heap.size + 1) 41 1 (.slice vo m vc) m ((ps.reverse.take m).map (·.1))
 below : Below W8.heap.size W8 wr

theorem BackI.start (W8 : World) (ps : List Gc) (nm : ByteArray) (N : Int) (t : TypeId) : BackI W8 (W8.alloc (.cells #[.string nm, .int .i64 N, .slice none 0 0] t)) ps 0 nm N none 0 :=
 ⟨BoxT.new _ _ _ _ _, by rw [List.take_zero]; exact World.ownsRow_nil _ _ _ _, alloc_below _ _⟩

theorem BackI.step {W8 wr W' : World} {ps : List Gc} {u' : Gc} {m : Nat} {nm : ByteArray} {N : Int} {vo : Option Addr} {vc : Nat} (h : BackI W8 wr ps m nm N vo vc) (hm : m < ps.length) {o' : Option Addr} {c' : Nat} {u : Value} (hu : ps.reverse[m]? = some u') (hu1 : u'.1 = u)
  (hown : W'.ownsRow (W8.heap.size + 1) 41 1 (.slice o' (m + 1) c') (m + 1) ((ps.reverse.take m).map (·.1) ++ [u])) (hb : Below (W8.heap.size + 1) wr W') : BackI W8 (W'.setCell ⟨W8.heap.size, 2, none⟩ (.slice o' (m + 1) c')) ps (m + 1) nm N o' c' where
 box := (h.box.laterC hb (Nat.lt_succ_self _)).set2 _
 own := by
  have hl : m < ps.reverse.length := by rw [List.length_reverse]; exact hm
  have e : ps.reverse[m] = u' := by rw [List.getElem?_eq_getElem hl] at hu; exact Option.some.inj hu
  rw [List.take_succ_eq_append_getElem hl, List.map_append, e]
  show World.ownsRow _ _ _ _ _ _ (_ ++ [u'.1])
  rw [hu1]
  exact ownsRow_setCell_below hown (a := ⟨W8.heap.size, 2, none⟩) (Nat.lt_succ_self W8.heap.size) _
 below := (h.below.trans (hb.mono (Nat.le_succ _))).setCell (p := ⟨W8.heap.size, 2, none⟩) (Nat.le_refl _) _

theorem BackI.rows {W8 wr : World} {ps : List Gc} {nm : ByteArray} {N : Int} {vo : Option Addr} {vc : Nat} (h : BackI W8 wr ps ps.length nm N vo vc) (hin : ∀ g ∈ ps, GcIn W8 g) {gs : List (List Int)} (hps : ps.map (·.2) = gs) : NcIn wr ⟨⟨nm, N, gs.reverse⟩, vo, ps.length, vc⟩ := by
 have ho := owns_seq h.own
 have hl : ps.reverse.take ps.length = ps.reverse := List.take_of_length_le (by rw [List.length_reverse]; exact Nat.le_refl _)
 rw [hl] at ho
 have h2 := rowsS_of_seq (ps := ps.reverse) (v := .slice vo ps.length vc) (W := wr) (by rw [List.length_reverse]; exact ho) (fun g hg => (hin g (List.mem_reverse.1 hg)).below h.below (Nat.le_refl _))
 rw [List.map_reverse, hps] at h2
 exact h2 (kinH_owns h.own kinT_G)

theorem BackI.rows' {W8 wr : World} {ps : List Gc} {m : Nat} {nm : ByteArray} {N : Int} {vo : Option Addr} {vc : Nat} (h : BackI W8 wr ps m nm N vo vc) (hm : ps.length = m) (hin : ∀ g ∈ ps, GcIn W8 g) {gs : List (List Int)} (hps : ps.map (·.2) = gs) : NcIn wr ⟨⟨nm, N, gs.reverse⟩, vo, m, vc⟩ := by
 subst hm
 exact h.rows hin hps

end Go.Proofs.YtnhbfehfipafoaaGreatDoor

/- The reference's Apply: lists that grow by one; what it answers. -/
namespace Go.Proofs.YtnhbfehfipafoaaGreatDoor
open Go.RowKit

def RefRes (w : World) (r : Nat × List Nmd) (e : Ending) (w' : World) : Prop :=
 ((r.1 ≠ 0 ∧ e = .returned (.tuple #[.slice none 0 0, .int .i64 (r.1 : Int)])) ∨ (r.1 = 0 ∧ ∃ u qs, e = .returned (.tuple #[u, .int .i64 0]) ∧ qs.map (·.x) = r.2 ∧ CatN w' u qs)) ∧ Below w.heap.size w w'

end Go.Proofs.YtnhbfehfipafoaaGreatDoor

/- The reference's Apply, at its end: the lattice has these generators. -/
namespace Go.Proofs.YtnhbfehfipafoaaGreatDoor
open Go.RowKit

theorem List.set_same {α : Type} {l : List α} {i : Nat} {x : α} (h : l[i]? = some x) : l.set i x = l := by
 obtain ⟨hi, e⟩ := List.getElem?_eq_some_iff.1 h
 rw [← e]; exact List.set_getElem_self hi

end Go.Proofs.YtnhbfehfipafoaaGreatDoor
