/- Operations, one behind the other. -/
import Derived.Test.YtnhbfehfipafoaaGreatDoorSrE
import Derived.Test.YtnhbfehfipafoaaGreatDoorBiE
import Derived.Test.YtnhbfehfipafoaaGreatDoorWaJ
import Derived.Test.YtnhbfehfipafoaaGreatDoorSrH
import Derived.Test.YtnhbfehfipafoaaGreatDoorJoins

namespace Go.Proofs.YtnhbfehfipafoaaGreatDoor
open Go.RowKit

def afterP : Nat → List Nat
 | 3 => [1, 2]
 | 4 => [3]
 | 5 => [0, 4]
 | _ => []

set_option linter.unusedSimpArgs false in
set_option maxRecDepth 100000 in
set_option maxHeartbeats 1600000 in
theorem after_any (w : World) (v vv : Value) (qs0 : List Nc) (os : List OpC) (hc : CatV w v qs0) (hok : CatOk (qs0.map (·.x))) (hops : OpsN w vv os) (hl : ∀ q ∈ os, q.o.v.length ≤ 20) (hl4 : os.length ≤ 9223372036854775807) :
  Calls Tryz.prog 49 #[v, vv] w fun e w' => CatRes w (allC (qs0.map (·.x)) (os.map (·.o))) e w' := by
 obtain ⟨u, rfl, hu⟩ := hc
 obtain ⟨lo, lk, rfl, -, -⟩ := id hu
 obtain ⟨ao, cap, rfl, hcap, -⟩ := id hops
 obtain ⟨ll, hll⟩ : ∃ ll, qs0.length = ll := ⟨_, rfl⟩
 rw [hll] at hu ⊢
 have HOPS := hide hops; have HL := hide hl
 have hb1 := alloc_below w (.cells #[.slice lo ll lk] 53)
 have hb2 := alloc_below (w.alloc (.cells #[.slice lo ll lk] 53)) (.cells #[.slice none 0 0] 53)
 have X2 := hide ((One.new w (.slice lo ll lk) 53).later hb2)
 have hx4 := One.new (w.alloc (.cells #[.slice lo ll lk] 53)) (.slice none 0 0) 53
 have hs1 : (w.alloc (.cells #[.slice lo ll lk] 53)).heap.size = w.heap.size + 1 := by simp
 rw [hs1] at hx4
 have X4 := hide hx4
 have HB := hide (hb1.trans (hb2.mono hb1.size))
 have HC0 := hide (hu.below HB.out)
 have HOK0 := hide hok
 have hr0 : allC (qs0.map (·.x)) ((os.map (·.o)).drop 0) = allC (qs0.map (·.x)) (os.map (·.o)) := by rw [List.drop_zero]
 obtain ⟨r, hrr⟩ : ∃ r, allC (qs0.map (·.x)) (os.map (·.o)) = r := ⟨_, rfl⟩
 rw [hrr] at hr0 ⊢
 have HR0 := hide hr0
 clear hb1 hb2 hx4 hs1 hops hl hcap hu hok hr0 hrr
 go_enter Tryz.func49, Tryz.ntmps49
 go_wp2_with fail
 generalize hW2 : ((w.alloc (.cells #[.slice lo ll lk] 53)).alloc (.cells #[.slice none 0 0] 53)) = W2 at *
 go_loopw [11] (fun i wr => ∃ (k : Nat) (co : Option Addr) (cl ck : Nat) (qs : List Nc), k ≤ os.length ∧ i = .int .i64 k ∧ Hid (One wr w.heap.size (.slice co cl ck)) ∧ Hid (CatN wr (.slice co cl ck) qs) ∧ Hid (CatOk (qs.map (·.x))) ∧ Hid (allC (qs.map (·.x)) ((os.map (·.o)).drop k) = r) ∧ Hid (One wr (w.heap.size + 1) (.slice none 0 0)) ∧ Hid (Below w.heap.size w wr)) (fun i _ => os.length - (intOf i).toNat)
 case atStart => exact ⟨0, lo, ll, lk, qs0, Nat.zero_le _, rfl, X2, HC0, HOK0, HR0, X4, HB⟩
 case round =>
  clear HC0 X2 X4 HB HOK0 HR0 hW2
  obtain ⟨k, co, cl, ck, qs, hk, rfl, X2, HCN, HOK, HRR, X4, HBE⟩ := hrel
  by_cases hkl : k < os.length
  ·obtain ⟨_, _, e, -, hh⟩ := HOPS.out.below HBE.out
   simp only [Value.slice.injEq, true_and] at e
   obtain ⟨rfl, rfl⟩ := e
   obtain ⟨b, off, rfl, hltw, hc⟩ := hh (by omega)
   obtain ⟨a0, a1, a2, a3, a4⟩ := hc k os[k] (List.getElem?_eq_getElem hkl)
   have hv10 := HL.out os[k] (List.getElem_mem hkl)
   have hdr : (os.map (·.o)).drop k = os[k].o :: (os.map (·.o)).drop (k + 1) := by
    rw [List.drop_eq_getElem_cons (by rw [List.length_map]; exact hkl), List.getElem_map]
   have hrr := HRR.out
   rw [hdr] at hrr
   obtain ⟨tl, htl⟩ : ∃ tl, (os.map (·.o)).drop (k + 1) = tl := ⟨_, rfl⟩
   rw [htl] at hrr
   have HTL := hide htl
   clear hh hc hdr htl HRR
   generalize os[k] = q at *
   obtain ⟨⟨kd, nm, nn, vs⟩, vo, vc⟩ := q
   simp only [OpC.row] at a3 a4
   dsimp only at a0 a1 a2 a3 a4 hv10 hrr
   have HRV := hide a4
   clear a4
   obtain ⟨⟨rc, rl⟩, hr⟩ : ∃ r, applyC (qs.map (·.x)) ⟨kd, nm, nn, vs⟩ = r := ⟨_, rfl⟩
   have HR := hide hr
   have HROK : Hid (rc = 0 → ∀ x ∈ rl, NmOk x) := fun h0 => by have := (applyC_ok HOK.out ⟨kd, nm, nn, vs⟩ (by rw [hr]; exact h0)).all; rwa [hr] at this
   have HRC : Hid (rc = 0 → CatOk rl) := fun h0 => by have := applyC_ok HOK.out ⟨kd, nm, nn, vs⟩ (by rw [hr]; exact h0); rwa [hr] at this
   unfold allC at hrr
   rw [hr] at hrr
   have HRR := hide hrr
   clear hr hrr
   go_wp2_with fail

   refine region_inv (by kernel_rfl) (by kernel_rfl) (fun L a' w' => ∃ (c : Nat → Value) (fl : Bool), a' = (⟨#[(.agg #[.slice lo ll lk]), (.slice (some ⟨b, off, none⟩) os.length cap), (.pointer (some ⟨w.heap.size, 0, none⟩)), undef, (.pointer (some ⟨w.heap.size + 1, 0, none⟩)), u5, (.int .i64 (k : Int)), c 9, c 11, (.slice (some ⟨b, off, none⟩) os.length cap), (.int .i64 (os.length : Int)), (.int .i64 (k : Int)), (.bool true), (.int .i64 (k : Int)), c 6, c 0, c 1, c 2, c 3, c 4, c 5, c 7, c 8, u23, u24, u25, u26, u27, u28, undef], []⟩ : Act) ∧ L.getD 10 false = fl ∧ FS (apD 5 afterP) (fun i => List.getD [some (.agg #[.slice co cl ck]), some (.slice (some ⟨b, off, none⟩) os.length cap), some (.int .i64 (k : Int)), some (.pointer (some ⟨b, off + k * 4, none⟩)), some (.agg #[.int .i64 kd, .string nm, .int .i64 nn, .slice vo vs.length vc])] i none) (apS 5 (CatG (rc, rl)) wr.heap.size fl) wr L c w') ⟨fun i => List.getD [u15, u16, u17, u18, u19, u20, u14, u21, u22, u7, undef, u8] i undef, false, rfl, by simp [Array.getD], FS.start _ _ _⟩ ?_ ?_
   ·rintro L a' w' i o ⟨c, fl, rfl, hbf, R⟩ ho hn hdep K hK
    have hi : i < 12 := (Array.getElem?_eq_some_iff.1 ho).1
    have hst := apStays 5 afterP (CatG (rc, rl)) (CatG.later (r := (rc, rl))) wr.heap.size fl
    rcases (by omega : i = 0 ∨ i = 1 ∨ i = 2 ∨ i = 3 ∨ i = 4 ∨ i = 5 ∨ i = 6 ∨ i = 7 ∨ i = 8 ∨ i = 9 ∨ i = 10 ∨ i = 11) with rfl | rfl | rfl | rfl | rfl | rfl | rfl | rfl | rfl | rfl | rfl | rfl
    ·obtain rfl := Option.some.inj ho
     obtain ⟨p0, -, -⟩ := X2.out.later R.below
     have R' := R.made hst hn (fun j hj => absurd hj (by simp [apD, afterP])) (Below.refl _ _) (v := (.agg #[.slice co cl ck])) (fun u h => Option.some.inj h) (apS_p (by decide))
     clear R
     go_simp
     exact hK.out _ _ ⟨_, fl, by simp [upd], by rw [getD_set_ne false (by decide)]; exact hbf, R'⟩
    ·obtain rfl := Option.some.inj ho
     have R' := R.made hst hn (fun j hj => absurd hj (by simp [apD, afterP])) (Below.refl _ _) (v := (.slice (some ⟨b, off, none⟩) os.length cap)) (fun u h => Option.some.inj h) (apS_p (by decide))
     clear R
     go_simp
     exact hK.out _ _ ⟨_, fl, by simp [upd], by rw [getD_set_ne false (by decide)]; exact hbf, R'⟩
    ·obtain rfl := Option.some.inj ho
     have R' := R.made hst hn (fun j hj => absurd hj (by simp [apD, afterP])) (Below.refl _ _) (v := (.int .i64 (k : Int))) (fun u h => Option.some.inj h) (apS_p (by decide))
     clear R
     go_simp
     exact hK.out _ _ ⟨_, fl, by simp [upd], by rw [getD_set_ne false (by decide)]; exact hbf, R'⟩
    ·obtain rfl := Option.some.inj ho
     have e1 : c 1 = (.slice (some ⟨b, off, none⟩) os.length cap) := R.plain 1 _ (hdep ⟨1, .data⟩ (by simp) rfl) rfl
     have e2 : c 2 = (.int .i64 (k : Int)) := R.plain 2 _ (hdep ⟨2, .data⟩ (by simp) rfl) rfl
     have R' := R.made hst hn (fun j hj => by simp [apD, afterP] at hj; rcases hj with rfl | rfl <;> exact hdep ⟨_, .data⟩ (by simp) rfl) (Below.refl _ _) (v := (.pointer (some ⟨b, off + k * 4, none⟩))) (fun u h => Option.some.inj h) (apS_p (by decide))
     clear R
     rw [e1, e2]
     go_simp
     exact hK.out _ _ ⟨_, fl, by simp [upd, e1, e2], by rw [getD_set_ne false (by decide)]; exact hbf, R'⟩
    ·obtain rfl := Option.some.inj ho
     have e3 : c 3 = (.pointer (some ⟨b, off + k * 4, none⟩)) := R.plain 3 _ (hdep ⟨3, .data⟩ (by simp) rfl) rfl
     have q0 := (R.below.cell (p := ⟨b, off + k * 4, none⟩) hltw).trans a0
     have q1 := (R.below.cell (p := ⟨b, off + k * 4 + 1, none⟩) hltw).trans a1
     have q2 := (R.below.cell (p := ⟨b, off + k * 4 + 2, none⟩) hltw).trans a2
     have q3 := (R.below.cell (p := ⟨b, off + k * 4 + 3, none⟩) hltw).trans a3
     have R' := R.made hst hn (fun j hj => by simp [apD, afterP] at hj; subst hj; exact hdep ⟨_, .data⟩ (by simp) rfl) (Below.refl _ _) (v := (.agg #[.int .i64 kd, .string nm, .int .i64 nn, .slice vo vs.length vc])) (fun u h => Option.some.inj h) (apS_p (by decide))
     clear R
     rw [e3]
     go_simp
     exact hK.out _ _ ⟨_, fl, by simp [upd, e3], by rw [getD_set_ne false (by decide)]; exact hbf, R'⟩
    ·obtain rfl := Option.some.inj ho
     have e0 : c 0 = (.agg #[.slice co cl ck]) := R.plain 0 _ (hdep ⟨0, .data⟩ (by simp) rfl) rfl
     have e4 : c 4 = (.agg #[.int .i64 kd, .string nm, .int .i64 nn, .slice vo vs.length vc]) := R.plain 4 _ (hdep ⟨4, .data⟩ (by simp) rfl) rfl
     rw [e0, e4]
     go_simp
     refine (apply_any w' _ qs ⟨kd, nm, nn, vs⟩ vo vc ⟨_, rfl, HCN.out.below R.below⟩ HOK.out (HRV.out.below R.below (Nat.le_refl _)) (by show vs.length ≤ 100; omega)).mono ?_
     rw [HR.out]
     rintro e w2 hres
     obtain ⟨o, l, k', ev, rfl, hg2, hb2⟩ := catG_of hres
     have R' := R.made hst hn (fun j hj => by simp [apD, afterP] at hj; rcases hj with rfl | rfl <;> exact hdep ⟨_, .data⟩ (by simp) rfl) hb2 (v := .tuple #[.agg #[.slice o l k'], ev]) (fun u h => by cases h) (apS_0 ⟨o, l, k', ev, upd_self .., hg2⟩)
     clear R hg2 hb2 hres
     go_wp2_with fail
     exact hK.out _ _ ⟨_, fl, by simp [upd, e0, e4], by rw [getD_set_ne false (by decide)]; exact hbf, R'⟩
    ·obtain rfl := Option.some.inj ho
     have R' := R.made hst hn (fun j hj => by simp [apD, afterP] at hj; subst hj; exact hdep ⟨_, .data⟩ (by simp) rfl) (Below.refl _ _) (v := c 5) (fun u h => by cases h) (apS_1 (q := 5) (show upd c 6 (c 5) 6 = upd c 6 (c 5) 5 by rw [upd_self, upd_ne _ _ (by decide)]))
     clear R
     go_simp
     exact hK.out _ _ ⟨_, fl, by simp [upd], by rw [getD_set_ne false (by decide)]; exact hbf, R'⟩
    ·obtain rfl := Option.some.inj ho
     have t1 := hdep ⟨6, .data⟩ (by simp) rfl
     have e1 : c 6 = c 5 := (R.spec 6 t1).2.1 rfl
     obtain ⟨o, l, k', ev, e0, -⟩ := (R.spec 5 (R.closed 6 t1 5 (by simp [apD]))).1 rfl
     rw [e0] at e1
     have R' := R.made hst hn (fun j hj => by simp [apD, afterP] at hj; subst hj; exact hdep ⟨_, .data⟩ (by simp) rfl) (Below.refl _ _) (v := .agg #[.slice o l k']) (fun u h => by cases h) (apS_2 (q := 5) ⟨.agg #[.slice o l k'], ev, (upd_ne _ _ (by decide)).trans e1, upd_self ..⟩)
     clear R t1 e0
     rw [e1]
     go_simp
     exact hK.out _ _ ⟨_, fl, by simp [upd, e1], by rw [getD_set_ne false (by decide)]; exact hbf, R'⟩
    ·obtain rfl := Option.some.inj ho
     have t1 := hdep ⟨6, .data⟩ (by simp) rfl
     have e1 : c 6 = c 5 := (R.spec 6 t1).2.1 rfl
     obtain ⟨o, l, k', ev, e0, -⟩ := (R.spec 5 (R.closed 6 t1 5 (by simp [apD]))).1 rfl
     rw [e0] at e1
     have R' := R.made hst hn (fun j hj => by simp [apD, afterP] at hj; subst hj; exact hdep ⟨_, .data⟩ (by simp) rfl) (Below.refl _ _) (v := ev) (fun u h => by cases h) (apS_3 (q := 5) ⟨.agg #[.slice o l k'], ev, (upd_ne _ _ (by decide)).trans e1, upd_self ..⟩)
     clear R t1 e0
     rw [e1]
     go_simp
     exact hK.out _ _ ⟨_, fl, by simp [upd, e1], by rw [getD_set_ne false (by decide)]; exact hbf, R'⟩
    ·obtain rfl := Option.some.inj ho
     have m7 := One.new w' (.slice none 0 0) 53
     have R' := R.made hst hn (fun j hj => absurd hj (by simp [apD, afterP])) (alloc_below w' (.cells #[.slice none 0 0] 53)) (v := .pointer (some ⟨w'.heap.size, 0, none⟩)) (fun u h => by cases h) (apS_4 (q := 5) ⟨w'.heap.size, upd_self .., R.below.size, fun _ => m7⟩)
     clear R m7
     go_simp
     exact hK.out _ _ ⟨_, fl, by simp [upd], by rw [getD_set_ne false (by decide)]; exact hbf, R'⟩
    ·obtain rfl := Option.some.inj ho
     have t2 := hdep ⟨7, .data⟩ (by simp) rfl
     have t4 := hdep ⟨9, .data⟩ (by simp) rfl
     have hb0 : fl = false := by
      cases fl with
      | false => rfl
      | true => exact absurd hbf (listed_not hn)
     subst hb0
     have t1 := R.closed 7 t2 6 (by simp [apD])
     have e1 : c 6 = c 5 := (R.spec 6 t1).2.1 rfl
     obtain ⟨o, l, k', ev, e0, hg⟩ := (R.spec 5 (R.closed 6 t1 5 (by simp [apD]))).1 rfl
     obtain ⟨u2, f2, e2, e2'⟩ : ∃ u e, c 6 = .tuple #[u, e] ∧ c 7 = u := (R.spec 7 t2).2.2.1 rfl
     rw [e1, e0] at e2
     simp only [Value.tuple.injEq, Array.mk.injEq, List.cons.injEq, and_true] at e2
     obtain ⟨rfl, rfl⟩ := e2
     obtain ⟨B, e4, hCB, hbx⟩ : ∃ B, c 9 = .pointer (some ⟨B, 0, none⟩) ∧ wr.heap.size ≤ B ∧ (false = false → One w' B (.slice none 0 0)) := (R.spec 9 t4).2.2.2.2.1 rfl
     have hbx := hbx rfl
     have hg' := CatG.put HROK.out hbx (.slice o l k') hg
     have R' := R.put (Sp' := (apS 5 (CatG (rc, rl)) wr.heap.size true)) (v := undef) hn (fun j hj => by simp [apD, afterP] at hj; rcases hj with rfl | rfl <;> exact hdep ⟨_, .data⟩ (by simp) rfl) (R.below.setCell (p := ⟨B, 0, none⟩) hCB (.slice o l k')) (fun u h => by cases h) (fun j hj hl hs => by
      obtain ⟨h0, h1, h2, h3, h4, h5, h6⟩ := hs
      refine ⟨fun e => ?_, fun e => ?_, fun e => ?_, fun e => ?_, fun e => ?_, fun e => absurd e hj, fun e => ?_⟩
      ·exact ⟨o, l, k', ev, (upd_ne _ _ (by decide)).trans e0, hg'⟩
      ·rw [upd_ne _ _ (by decide), upd_ne _ _ (by decide)]; exact h1 e
      ·rw [upd_ne _ _ (by decide), upd_ne _ _ (by decide)]; exact h2 e
      ·rw [upd_ne _ _ (by decide), upd_ne _ _ (by decide)]; exact h3 e
      ·obtain ⟨B', a1, a2, -⟩ := h4 e
       exact ⟨B', (upd_ne _ _ (by decide)).trans a1, a2, fun hf => by cases hf⟩
      ·rw [upd_ne _ _ (by decide), upd_ne _ _ (by decide)]; exact h6 e) (apS_5 (q := 5) ⟨B, .slice o l k', (upd_ne _ _ (by decide)).trans e4, (upd_ne _ _ (by decide)).trans e2', hCB, hbx.write _⟩)
     obtain ⟨z0, z1, -⟩ := hbx
     clear R hg hg' hst e1 e0 t1 t2 t4
     rw [e2', e4]
     go_simp
     exact hK.out _ _ ⟨_, true, by simp [upd, e2', e4], by first | exact listed_new hn | simp [hn], R'⟩
    ·obtain rfl := Option.some.inj ho
     have R' := R.made hst hn (fun j hj => by simp [apD, afterP] at hj; subst hj; exact hdep ⟨_, .data⟩ (by simp) rfl) (Below.refl _ _) (v := c 8) (fun u h => by cases h) (apS_6 (q := 5) (show upd c 11 (c 8) 11 = upd c 11 (c 8) 8 by rw [upd_self, upd_ne _ _ (by decide)]))
     clear R
     go_simp
     exact hK.out _ _ ⟨_, fl, by simp [upd], by rw [getD_set_ne false (by decide)]; exact hbf, R'⟩
   rintro L a' w2 ⟨c, fl, rfl, hbf, R⟩ hall
   obtain rfl : true = fl := (hall 10 (by decide)).symm.trans hbf
   obtain ⟨BD, o, l, k', ev, e4, e6, hCB, hbx, hg⟩ := ap_fin (q := 5) R (fun i hi => hall i hi)
   have e4 : c 9 = .pointer (some ⟨BD, 0, none⟩) := e4
   have e6 : c 11 = ev := e6
   have hb2 := R.below
   clear R hall hbf
   rw [e4, e6]
   have XD := hide hbx
   have X2a := hide (X2.out.later hb2); have X4a := hide (X4.out.later hb2); have HCa := hide (HCN.out.below hb2); have HBa := hide (HBE.out.trans (hb2.mono HBE.out.size))
   have hB5 : w.heap.size + 1 < wr.heap.size := X4.out.2.2
   clear hb2 X2 X4 HCN HBE e4 e6 a0 a1 a2 a3
   rcases hg with ⟨hr0, rfl, rfl, rfl, rfl⟩ | ⟨hr0, rfl, qs2, hq2, hc2⟩
   ·have e0 : errV rc = .iface 80 (.int .i64 (rc : Nat)) := if_neg hr0
    have hz : ¬ ((rc : Nat) : Int) = 0 := by have : rc ≠ 0 := hr0; omega
    have hrr := HRR.out
    rw [if_neg (show ¬ rc = 0 from hr0)] at hrr
    have HFIN : Hid (CatRes w r (.returned (.tuple #[.agg #[.slice none 0 0], .iface 80 (.int .i64 (rc : Nat))])) (w2.setCell ⟨w.heap.size + 1, 0, none⟩ (.slice none 0 0))) :=
     ⟨.inl ⟨by rw [← hrr]; exact hr0, by rw [← hrr, ← e0]⟩, HBa.out.setCell (p := ⟨w.heap.size + 1, 0, none⟩) (by show w.heap.size ≤ w.heap.size + 1; omega) _⟩
    dsimp only
    rw [e0]
    obtain ⟨r0, r1, -⟩ := X4a.out
    clear e0 hr0 HROK HRC HR hrr HRR hbx
    go_wp2
    exact bodyPost_ret (v := .tuple #[.agg #[.slice none 0 0], .iface 80 (.int .i64 (rc : Nat))]) (by simp [results, Tryz.results49, go_sem, r0]) rfl HFIN.out
   ·obtain rfl : rc = 0 := hr0
    have hok2 : CatOk (qs2.map (·.x)) := by rw [hq2]; exact HRC.out rfl
    have hrr := HRR.out
    rw [if_pos rfl] at hrr
    have hq2' : qs2.map (·.x) = rl := hq2
    have HRN : Hid (allC (qs2.map (·.x)) ((os.map (·.o)).drop (k + 1)) = r) := by show _ = _; rw [HTL.out, hq2']; exact hrr
    have X2b := hide (X2a.out.write (.slice o l k'))
    have X4b := hide (X4a.out.other (p := ⟨w.heap.size, 0, none⟩) (by show w.heap.size ≠ w.heap.size + 1; omega) (.slice o l k'))
    have HCb := hide (hc2.setVar (nonE_of_ok hok2.all) X2a.out.1 HCa.out (.slice o l k'))
    have HOKb := hide hok2
    have HBb := hide (HBa.out.setCell (p := ⟨w.heap.size, 0, none⟩) (Nat.le_refl _) (.slice o l k'))
    obtain ⟨y0, y1, -⟩ := X2a.out
    obtain ⟨z0, -, -⟩ := XD.out
    clear hq2 hc2 hok2 HROK HRC HR HCa hrr HRR hq2' hbx
    go_wp2
    go_roundw
    case rel => exact ⟨k + 1, _, _, _, qs2, by omega, by go_num, X2b, HCb, HOKb, HRN, X4b, HBb⟩
    case measure => simp [intOf]; omega
  ·obtain rfl : k = os.length := by omega
   have hrr := HRR.out
   rw [List.drop_eq_nil_of_le (by rw [List.length_map]; exact Nat.le_refl _)] at hrr
   have HFIN : Hid (CatRes w r (.returned (.tuple #[.agg #[.slice co cl ck], .nilIface])) (wr.setCell ⟨w.heap.size + 1, 0, none⟩ (.slice co cl ck))) :=
    ⟨.inr ⟨by rw [← hrr]; rfl, _, qs, rfl, by rw [← hrr]; rfl, _, rfl, HCN.out.setOne (nonE_of_ok HOK.out.all) X4.out.1 _⟩, HBE.out.setCell (p := ⟨w.heap.size + 1, 0, none⟩) (by show w.heap.size ≤ w.heap.size + 1; omega) _⟩
   obtain ⟨c4, -, -⟩ := X2.out
   obtain ⟨r0, r1, -⟩ := X4.out
   clear hrr HRR
   go_wp2
   exact bodyPost_ret (v := .tuple #[.agg #[.slice co cl ck], .nilIface]) (by simp [results, Tryz.results49, go_sem, r0]) rfl HFIN.out

end Go.Proofs.YtnhbfehfipafoaaGreatDoor

/- A text is read back. -/
namespace Go.Proofs.YtnhbfehfipafoaaGreatDoor
open Go.RowKit

set_option linter.unusedSimpArgs false in
set_option maxRecDepth 100000 in
set_option maxHeartbeats 1600000 in
theorem lenB_any (C b : Nat) (l : List UInt8) (w : World) (h : Bld C b l w) (_ : l.length ≤ 1000000) :
  Calls Tryz.prog 84 #[.pointer (some ⟨b, 0, none⟩)] w fun e w' => e = .returned (.int .i64 (l.length : Int)) ∧ w' = w := by
 obtain ⟨h1, h2, p, v, h3, h4, h5⟩ := h
 obtain ⟨o, c, rfl, -⟩ := owns_form h5
 obtain ⟨c0, c1, -⟩ := cell_two h3
 clear h4 h5 h3
 obtain ⟨n, hn⟩ : ∃ n, l.length = n := ⟨_, rfl⟩
 rw [hn] at c1 ⊢
 go_enter Tryz.func84, Tryz.ntmps84
 go_wp2
 go_ret
 exact ⟨rfl, rfl⟩

def RdP (t : List UInt8) (w : World) (e : Ending) (w' : World) : Prop := e = .returned (.tuple #[.string (secB t), .nilIface]) ∧ Below w.heap.size w w'

set_option linter.unusedSimpArgs false in
set_option maxRecDepth 100000 in
set_option maxHeartbeats 1600000 in
theorem readText_any (w : World) (base : Own) (B : Nat) (D : Dsk) (m : Nat) (h : Hd) (hd : DiskO w base B D) (hdn : D.down = false) (hl : D.secs.length = m) (hm : m ≤ 200) (h82 : 82 ≤ m) (ok : h.ok) :
  Calls Tryz.prog 62 #[hdV h, .pointer (some ⟨B, 0, none⟩)] w fun e w' => RdP (readT (cont D) 40 (2 + h.pl * 40) h.long.toNat) w e w' := by
 have hp := ok.pl
 have hlo := ok.long
 obtain ⟨n, hn⟩ : ∃ n : Nat, h.long = (n : Int) := ⟨h.long.toNat, by omega⟩
 have hn2 : n ≤ 2560 := by omega
 have HFR := hide (fun w => hfrom_any w h hp)
 unfold hdV at HFR ⊢
 rw [hn] at HFR ⊢
 rw [Int.toNat_natCast]
 obtain ⟨fr, hfr⟩ : ∃ fr, 2 + h.pl * 40 = fr := ⟨_, rfl⟩
 rw [hfr] at HFR ⊢
 have hfr2 : fr + 40 ≤ m := by omega
 have hfr3 : fr ≤ 160 := by omega
 obtain ⟨t, ht⟩ : ∃ t, readT (cont D) 40 fr n = t := ⟨_, rfl⟩
 rw [ht]
 have hb1 := alloc_below w (.cells #[.int .i64 (h.pl : Int), .int .u32 h.age, .int .u32 h.first, .int .u32 (n : Int)] 91)
 have hb2 := alloc_below (w.alloc (.cells #[.int .i64 (h.pl : Int), .int .u32 h.age, .int .u32 h.first, .int .u32 (n : Int)] 91)) (.cells #[.pointer none, .slice none 0 0] 149)
 have X := hide ((HdB.new w (.int .i64 (h.pl : Int)) (.int .u32 h.age) (.int .u32 h.first) (.int .u32 (n : Int))).later hb2)
 have HBL : Hid (Bld (w.heap.size + 2) (w.heap.size + 1) [] ((w.alloc (.cells #[.int .i64 (h.pl : Int), .int .u32 h.age, .int .u32 h.first, .int .u32 (n : Int)] 91)).alloc (.cells #[.pointer none, .slice none 0 0] 149))) := by
  have h1 := Bld.new (w.alloc (.cells #[.int .i64 (h.pl : Int), .int .u32 h.age, .int .u32 h.first, .int .u32 (n : Int)] 91)) _ (Below.refl _ _)
  have e1 : ((w.alloc (.cells #[.int .i64 (h.pl : Int), .int .u32 h.age, .int .u32 h.first, .int .u32 (n : Int)] 91)).alloc (.cells #[.pointer none, .slice none 0 0] 149)).heap.size = w.heap.size + 2 := by simp
  have e2 : (w.alloc (.cells #[.int .i64 (h.pl : Int), .int .u32 h.age, .int .u32 h.first, .int .u32 (n : Int)] 91)).heap.size = w.heap.size + 1 := by simp
  rw [e1, e2] at h1
  exact h1
 have HB := hide (hb1.trans (hb2.mono hb1.size))
 have HD := hide hd; have HDN := hide hdn; have HL := hide hl; have HT := hide ht; have HF2 := hide hfr2
 have HS : Hid (w.heap.size + 2 ≤ ((w.alloc (.cells #[.int .i64 (h.pl : Int), .int .u32 h.age, .int .u32 h.first, .int .u32 (n : Int)] 91)).alloc (.cells #[.pointer none, .slice none 0 0] 149)).heap.size) := by show _ ≤ _; simp
 clear hb1 hb2 hd hdn hl ht hp hlo hn hfr ok
 go_enter Tryz.func62, Tryz.ntmps62
 go_wp2_with fail
 generalize hW1 : ((w.alloc (.cells #[.int .i64 (h.pl : Int), .int .u32 h.age, .int .u32 h.first, .int .u32 (n : Int)] 91)).alloc (.cells #[.pointer none, .slice none 0 0] 149)) = W1 at *
 obtain ⟨c0, c1, c2, c3, -⟩ := HdB.cells X.out
 have hsz : (w.alloc (.cells #[.int .i64 (h.pl : Int), .int .u32 h.age, .int .u32 h.first, .int .u32 (n : Int)] 91)).heap.size = w.heap.size + 1 := by simp
 go_wp2_with fail
 refine (HFR.out _).mono ?_
 rintro e w2 ⟨rfl, hb2⟩
 have HB2 := hide (HB.out.trans (hb2.mono HB.out.size)); have HBL2 := hide (HBL.out.later hb2)
 clear hb2 c0 c1 c2 c3 HB HBL X
 go_wp2_with fail
 try rw [hsz]
 go_loopw [8] (fun av wr => ∃ (j r : Nat) (l : List UInt8), j ≤ 40 ∧ av = .int .i64 ((fr + j : Nat) : Int) ∧ l.length + r = n ∧ Hid (r ≤ 64 * (40 - j)) ∧ Hid (l ++ readT (cont D) (40 - j) (fr + j) r = t) ∧ Hid (Bld (w.heap.size + 2) (w.heap.size + 1) l wr) ∧ Hid (Below w.heap.size w wr)) (fun av _ => fr + 41 - (intOf av).toNat)
 case atStart => exact ⟨0, n, [], Nat.zero_le _, rfl, by simp, (by show _ ≤ _; omega), by rw [List.nil_append]; exact HT, HBL2, HB2⟩
 case round =>
  clear HBL2 HB2
  obtain ⟨j, r, l, hj, rfl, hlr, HR, HTX, HBK, HBW⟩ := hrel
  have hl2 : l.length ≤ 2560 := by omega
  have HLEN := hide (fun w h => lenB_any (w.heap.size) (w.heap.size + 1) l w h (by omega))
  clear HLEN
  go_wp2_with fail
  refine (lenB_any _ _ l wr HBK.out (by omega)).mono ?_
  rintro e w3 ⟨rfl, rfl⟩
  by_cases hr0 : r = 0
  ·subst hr0
   have htx := HTX.out
   rw [readT_zero, List.append_nil] at htx
   have HTX2 := hide htx
   clear htx HTX
   have hln : l.length = n := by omega
   go_wp2_with fail
   refine (stringS_any _ _ l w3 HBK.out).mono ?_
   rintro e w4 ⟨rfl, hb4⟩
   have HB4 := hide (HBW.out.trans ⟨hb4.os, hb4.tape, hb4.output, hb4.size, fun k hk => hb4.block k (by omega)⟩)
   go_wp2
   go_ret2
   refine ⟨?_, HB4.out⟩
   rw [← HTX2.out]
   rfl
  ·have hj40 : j < 40 := by have := HR.out; omega
   obtain ⟨k, hk⟩ : ∃ k, 40 - j = k + 1 := ⟨39 - j, by omega⟩
   have htx := HTX.out
   rw [hk] at htx
   unfold readT at htx
   rw [if_neg hr0, ← List.append_assoc] at htx
   obtain ⟨q, hq⟩ : ∃ q, min 64 r = q := ⟨_, rfl⟩
   have hlen : (cont D (fr + j)).length = 64 := cont_len HD.out (by rw [HL.out]; have := HF2.out; omega)
   have htk : ((cont D (fr + j)).take r).length = q := by rw [List.length_take, hlen, Nat.min_comm]; exact hq
   have hsx : (secB (cont D (fr + j))).extract 0 q = secB ((cont D (fr + j)).take r) := by
    rw [extract_sec, List.drop_zero, ← hq]
    rw [← hlen, take_min]
   have hsz64 : (secB (cont D (fr + j))).size = 64 := by rw [secB_size]; exact hlen
   obtain ⟨s, hs⟩ : ∃ s, secB (cont D (fr + j)) = s := ⟨_, rfl⟩
   obtain ⟨u, hu⟩ : ∃ u, (cont D (fr + j)).take r = u := ⟨_, rfl⟩
   rw [hu] at htx htk hsx
   rw [hs] at hsx hsz64
   have HRD : Hid (∀ w', Below w.heap.size w w' → Calls Tryz.prog 60 #[.pointer (some ⟨B, 0, none⟩), .int .i64 ((fr + j : Nat) : Int)] w' fun e w'' => e = .returned (.tuple #[.string s, .nilIface]) ∧ Below w'.heap.size w' w'') := fun w' hb => by
    rw [← hs]
    exact readC_any w' base B D (fr + j) (HD.out.later hb) HDN.out (by rw [HL.out]; have := HF2.out; omega) (by rw [HL.out]; exact hm)
   have HTX2 := hide htx
   have HUL : Hid (u.length = q) := htk
   have hus : (secB u).size ≤ 64 := by rw [secB_size, htk]; omega
   have hq1 : q ≤ 64 := by omega
   have hmin : min (64 : Int) ((n : Int) - (l.length : Int)) = (q : Int) := by omega
   have hlt : (decide ((l.length : Int) < (n : Int))) = true := decide_eq_true (by omega)
   have HQ := hide hq
   clear htx HTX hlen htk hs hu hq
   go_wp2_with fail
   refine (HRD.out _ HBW.out).mono ?_
   rintro e w4 ⟨rfl, hb4⟩
   have HBa := hide (HBW.out.trans (hb4.mono HBW.out.size)); have HBKa := hide (HBK.out.later hb4)
   clear hb4 HBW HBK
   go_wp2_with fail
   refine (lenB_any _ _ l w4 HBKa.out (by omega)).mono ?_
   rintro e w5 ⟨rfl, rfl⟩
   go_wp2_with fail
   refine (writeS_any _ _ l (secB u) w5 HBKa.out (by omega)).mono ?_
   rintro e w6 ⟨rfl, hbl, hbb⟩
   have HBb := hide (hbb.below HBa.out (Nat.le_succ _) (by omega)); have HBKb := hide hbl
   clear hbl hbb HBa HBKa
   go_wp2
   go_roundw
   case rel => exact ⟨j + 1, r - 64, l ++ u, by omega, by go_num, (by rw [List.length_append, HUL.out]; have := HQ.out; omega), (by show _ ≤ _; have := HR.out; omega), (by rw [show 40 - (j + 1) = k by omega, show fr + (j + 1) = fr + j + 1 by omega]; exact HTX2), HBKb, HBb⟩
   case measure => simp [intOf]; omega

end Go.Proofs.YtnhbfehfipafoaaGreatDoor
