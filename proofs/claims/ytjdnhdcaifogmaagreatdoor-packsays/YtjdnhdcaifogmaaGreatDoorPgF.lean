/- laid: a catalog behind operations that may be done, and its model. -/
import Derived.Test.YtjdnhdcaifogmaaGreatDoorOpsC
import Derived.Test.YtjdnhdcaifogmaaGreatDoorBhA
import Derived.Test.YtjdnhdcaifogmaaGreatDoorPkE

namespace Go.Proofs.YtjdnhdcaifogmaaGreatDoor
open Go.RowKit

def laidP : Nat → List Nat
 | 3 => [1, 2]
 | 4 => [3]
 | 5 => [0, 4]
 | _ => []

theorem refRes_form {w w' : World} {c : Nat} {l : List Nmd} {e : Ending} (h : RefRes w (c, l) e w') : ∃ (o : Option Addr) (n k : Nat), e = .returned (.tuple #[.slice o n k, .int .i64 (c : Int)]) ∧ Hid (c = 0 → ∃ p2 : List Nc, CatN w' (.slice o n k) p2 ∧ p2.map (·.x) = l) ∧ Below w.heap.size w w' := by
 rcases refRes_ok h with ⟨h1, rfl, hb⟩ | ⟨h1, o, n, k, qs, rfl, h2, h3, hb⟩
 ·exact ⟨none, 0, 0, rfl, fun h0 => absurd h0 h1, hb⟩
 ·obtain rfl : c = 0 := h1
  exact ⟨o, n, k, rfl, fun _ => ⟨qs, h2, h3⟩, hb⟩

def LaidP (w : World) (e : Ending) (w' : World) : Prop :=
 ∃ (co : Option Addr) (cl ck : Nat) (mo : Option Addr) (ml mk : Nat) (qs ps : List Nc), e = .returned (.tuple #[.agg #[.slice co cl ck], .slice mo ml mk]) ∧ CatN w' (.slice co cl ck) qs ∧ CatN w' (.slice mo ml mk) ps ∧ ps.map (·.x) = qs.map (·.x) ∧ CatOk (qs.map (·.x)) ∧ Below w.heap.size w w'

set_option linter.unusedSimpArgs false in
set_option maxRecDepth 100000 in
set_option maxHeartbeats 1600000 in
theorem laid_any (w : World) (v : Value) (os : List OpC) (hops : OpsN w v os) (hl : ∀ q ∈ os, q.o.v.length ≤ 10) (hl4 : os.length ≤ 1000) :
  Calls Tryz.prog 6 #[v] w fun e w' => LaidP w e w' := by
 obtain ⟨ao, cap, rfl, hcap, -⟩ := id hops
 have HOPS := hide hops; have HL := hide hl
 have hb1 := alloc_below w (.cells #[.slice none 0 0] 27)
 have hb2 := alloc_below (w.alloc (.cells #[.slice none 0 0] 27)) (.cells #[.slice none 0 0] 27)
 have X2 := hide ((One.new w (.slice none 0 0) 27).later hb2)
 have hx4 := One.new (w.alloc (.cells #[.slice none 0 0] 27)) (.slice none 0 0) 27
 have hs1 : (w.alloc (.cells #[.slice none 0 0] 27)).heap.size = w.heap.size + 1 := by simp
 rw [hs1] at hx4
 have X4 := hide hx4
 have HB := hide (hb1.trans (hb2.mono hb1.size))
 clear hb1 hb2 hx4 hs1 hops hl hcap
 go_enter Tryz.func6, Tryz.ntmps6
 go_wp2_with fail
 generalize (w.alloc (.cells #[.slice none 0 0] 27)).alloc (.cells #[.slice none 0 0] 27) = W2 at *
 have HC0 := hide (catN_nil W2)
 go_loopw [5, 6] (fun m i wr => ∃ (k : Nat) (mo : Option Addr) (ml mk : Nat) (ps : List Nc) (co : Option Addr) (cl ck : Nat) (qs : List Nc), k ≤ os.length ∧ m = .slice mo ml mk ∧ i = .int .i64 k ∧ Hid (One wr (w.heap.size + 1) (.slice co cl ck)) ∧ Hid (CatN wr (.slice co cl ck) qs) ∧ Hid (CatN wr (.slice mo ml mk) ps) ∧ Hid (ps.map (·.x) = qs.map (·.x)) ∧ Hid (CatOk (qs.map (·.x))) ∧ Hid (One wr w.heap.size (.slice none 0 0)) ∧ Hid (Below w.heap.size w wr)) (fun _ i _ => os.length - (intOf i).toNat)
 case atStart => exact ⟨0, none, 0, 0, [], none, 0, 0, [], Nat.zero_le _, rfl, rfl, X4, HC0, HC0, hide rfl, hide catOk_nil, X2, HB⟩
 case round =>
  clear HC0 X2 X4 HB
  obtain ⟨k, mo, ml, mk, ps, co, cl, ck, qs, hk, rfl, rfl, X4, HCN, HCM, HEQ, HOK, X2, HBE⟩ := hrel
  by_cases hkl : k < os.length
  ·obtain ⟨_, _, e, -, hh⟩ := HOPS.out.below HBE.out
   simp only [Value.slice.injEq, true_and] at e
   obtain ⟨rfl, rfl⟩ := e
   obtain ⟨b, off, rfl, hltw, hc⟩ := hh (by omega)
   obtain ⟨a0, a1, a2, a3, a4⟩ := hc k os[k] (List.getElem?_eq_getElem hkl)
   have hv10 := HL.out os[k] (List.getElem_mem hkl)
   clear hh hc
   generalize os[k] = q at *
   obtain ⟨⟨kd, nm, nn, vs⟩, vo, vc⟩ := q
   simp only [OpC.row] at a3 a4
   dsimp only at a0 a1 a2 a3 a4 hv10
   have HRV := hide a4
   clear a4
   obtain ⟨⟨rc, rl⟩, hr⟩ : ∃ r, applyC (qs.map (·.x)) ⟨kd, nm, nn, vs⟩ = r := ⟨_, rfl⟩
   have HR := hide hr
   have HROK : Hid (rc = 0 → ∀ x ∈ rl, NmOk x) := fun h0 => by have := (applyC_ok HOK.out ⟨kd, nm, nn, vs⟩ (by rw [hr]; exact h0)).all; rwa [hr] at this
   have HRC : Hid (rc = 0 → CatOk rl) := fun h0 => by have := applyC_ok HOK.out ⟨kd, nm, nn, vs⟩ (by rw [hr]; exact h0); rwa [hr] at this
   clear hr
   go_wp2_with fail
   refine (applyR_any wr _ ps ⟨kd, nm, nn, vs⟩ vo vc HCM.out (by rw [HEQ.out]; exact HOK.out) HRV.out (by show vs.length ≤ 100000; omega)).mono ?_
   rintro e w3 hres
   rw [HEQ.out, HR.out] at hres
   obtain ⟨m2, l2, k2, rfl, HM2, hb3⟩ := refRes_form hres
   have X2a := hide (X2.out.later hb3); have X4a := hide (X4.out.later hb3); have HBa := hide (HBE.out.trans (hb3.mono HBE.out.size)); have HCa := hide (HCN.out.below hb3); have HCMa := hide (HCM.out.below hb3)
   have HRVa := hide (HRV.out.below hb3 (Nat.le_refl _))
   have hltw3 := Nat.lt_of_lt_of_le hltw hb3.size
   have b0 := (hb3.cell (p := ⟨b, off + k * 4, none⟩) hltw).trans a0
   have b1 := (hb3.cell (p := ⟨b, off + k * 4 + 1, none⟩) hltw).trans a1
   have b2 := (hb3.cell (p := ⟨b, off + k * 4 + 2, none⟩) hltw).trans a2
   have b3 := (hb3.cell (p := ⟨b, off + k * 4 + 3, none⟩) hltw).trans a3
   clear a0 a1 a2 a3 hltw hb3 X2 X4 HBE HCN HCM HRV hres
   have a0 := b0; clear b0
   have a1 := b1; clear b1
   have a2 := b2; clear b2
   have a3 := b3; clear b3
   have hltw := hltw3; clear hltw3
   have X2 := X2a; clear X2a
   have X4 := X4a; clear X4a
   have HBE := HBa; clear HBa
   have HCN := HCa; clear HCa
   have HCM := HCMa; clear HCMa
   have HRV := HRVa; clear HRVa
   go_wp2_with fail

   refine region_inv (by kernel_rfl) (by kernel_rfl) (fun L a' w' => ∃ (c : Nat → Value) (fl : Bool), a' = (⟨#[(.slice (some ⟨b, off, none⟩) os.length cap), undef, (.pointer (some ⟨w.heap.size, 0, none⟩)), (.slice none 0 0), (.pointer (some ⟨w.heap.size + 1, 0, none⟩)), (.slice mo ml mk), (.int .i64 (k : Int)), (.slice m2 l2 k2), (.int .i64 (rc : Int)), c 9, c 11, (.int .i64 (k : Int)), (.slice (some ⟨b, off, none⟩) os.length cap), (.int .i64 (os.length : Int)), (.bool true), u15, u16, (.tuple #[.slice m2 l2 k2, .int .i64 (rc : Int)]), (.slice mo ml mk), (.slice (some ⟨b, off, none⟩) os.length cap), (.int .i64 (k : Int)), (.pointer (some ⟨b, off + k * 4, none⟩)), (.agg #[.int .i64 kd, .string nm, .int .i64 nn, .slice vo vs.length vc]), (.tuple #[.slice m2 l2 k2, .int .i64 (rc : Int)]), (.slice m2 l2 k2), (.int .i64 (rc : Int)), c 6, c 0, c 1, c 2, c 3, c 4, c 5, c 7, c 8, u35, u36, u37, u38, u39, u40, u41, u42, undef, undef], []⟩ : Act) ∧ L.getD 10 false = fl ∧ FS (apD 5 laidP) (fun i => List.getD [some (.agg #[.slice co cl ck]), some (.slice (some ⟨b, off, none⟩) os.length cap), some (.int .i64 (k : Int)), some (.pointer (some ⟨b, off + k * 4, none⟩)), some (.agg #[.int .i64 kd, .string nm, .int .i64 nn, .slice vo vs.length vc])] i none) (apS 5 (CatG (rc, rl)) w3.heap.size fl) w3 L c w') ⟨fun i => List.getD [u27, u28, u29, u30, u31, u32, u26, u33, u34, u9, undef, u10] i undef, false, rfl, by simp [Array.getD], FS.start _ _ _⟩ ?_ ?_
   ·rintro L a' w' i o ⟨c, fl, rfl, hbf, R⟩ ho hn hdep K hK
    have hi : i < 12 := (Array.getElem?_eq_some_iff.1 ho).1
    have hst := apStays 5 laidP (CatG (rc, rl)) (CatG.later (r := (rc, rl))) w3.heap.size fl
    rcases (by omega : i = 0 ∨ i = 1 ∨ i = 2 ∨ i = 3 ∨ i = 4 ∨ i = 5 ∨ i = 6 ∨ i = 7 ∨ i = 8 ∨ i = 9 ∨ i = 10 ∨ i = 11) with rfl | rfl | rfl | rfl | rfl | rfl | rfl | rfl | rfl | rfl | rfl | rfl
    ·obtain rfl := Option.some.inj ho
     obtain ⟨p0, -, -⟩ := X4.out.later R.below
     have R' := R.made hst hn (fun j hj => absurd hj (by simp [apD, laidP])) (Below.refl _ _) (v := (.agg #[.slice co cl ck])) (fun u h => Option.some.inj h) (apS_p (by decide))
     clear R
     go_simp
     exact hK.out _ _ ⟨_, fl, by simp [upd], by rw [getD_set_ne false (by decide)]; exact hbf, R'⟩
    ·obtain rfl := Option.some.inj ho
     have R' := R.made hst hn (fun j hj => absurd hj (by simp [apD, laidP])) (Below.refl _ _) (v := (.slice (some ⟨b, off, none⟩) os.length cap)) (fun u h => Option.some.inj h) (apS_p (by decide))
     clear R
     go_simp
     exact hK.out _ _ ⟨_, fl, by simp [upd], by rw [getD_set_ne false (by decide)]; exact hbf, R'⟩
    ·obtain rfl := Option.some.inj ho
     have R' := R.made hst hn (fun j hj => absurd hj (by simp [apD, laidP])) (Below.refl _ _) (v := (.int .i64 (k : Int))) (fun u h => Option.some.inj h) (apS_p (by decide))
     clear R
     go_simp
     exact hK.out _ _ ⟨_, fl, by simp [upd], by rw [getD_set_ne false (by decide)]; exact hbf, R'⟩
    ·obtain rfl := Option.some.inj ho
     have e1 : c 1 = (.slice (some ⟨b, off, none⟩) os.length cap) := R.plain 1 _ (hdep ⟨1, .data⟩ (by simp) rfl) rfl
     have e2 : c 2 = (.int .i64 (k : Int)) := R.plain 2 _ (hdep ⟨2, .data⟩ (by simp) rfl) rfl
     have R' := R.made hst hn (fun j hj => by simp [apD, laidP] at hj; rcases hj with rfl | rfl <;> exact hdep ⟨_, .data⟩ (by simp) rfl) (Below.refl _ _) (v := (.pointer (some ⟨b, off + k * 4, none⟩))) (fun u h => Option.some.inj h) (apS_p (by decide))
     clear R
     rw [e1, e2]
     go_simp
     exact hK.out _ _ ⟨_, fl, by simp [upd, e1, e2], by rw [getD_set_ne false (by decide)]; exact hbf, R'⟩
    ·obtain rfl := Option.some.inj ho
     have e3 : c 3 = (.pointer (some ⟨b, off + k * 4, none⟩)) := R.plain 3 _ (hdep ⟨3, .data⟩ (by simp) rfl) rfl
     have q0 := (R.below.cell (p := ⟨b, off + k * 4, none⟩) hltw).trans a0
     have q1 := (R.below.cell (p := ⟨b, off + k * 4 + 1, none⟩) hltw).trans a1
     have q2 := (R.below.cell (p := ⟨b, off + k * 4 + 2, none⟩) hltw).trans a2
     have q3 := (R.below.cell (p := ⟨b, off + k * 4 + 3, none⟩) hltw).trans a3
     have R' := R.made hst hn (fun j hj => by simp [apD, laidP] at hj; subst hj; exact hdep ⟨_, .data⟩ (by simp) rfl) (Below.refl _ _) (v := (.agg #[.int .i64 kd, .string nm, .int .i64 nn, .slice vo vs.length vc])) (fun u h => Option.some.inj h) (apS_p (by decide))
     clear R
     rw [e3]
     go_simp
     exact hK.out _ _ ⟨_, fl, by simp [upd, e3], by rw [getD_set_ne false (by decide)]; exact hbf, R'⟩
    ·obtain rfl := Option.some.inj ho
     have e0 : c 0 = (.agg #[.slice co cl ck]) := R.plain 0 _ (hdep ⟨0, .data⟩ (by simp) rfl) rfl
     have e4 : c 4 = (.agg #[.int .i64 kd, .string nm, .int .i64 nn, .slice vo vs.length vc]) := R.plain 4 _ (hdep ⟨4, .data⟩ (by simp) rfl) rfl
     rw [e0, e4]
     go_simp
     refine (apply_any w' _ qs ⟨kd, nm, nn, vs⟩ vo vc ⟨_, rfl, HCN.out.below R.below⟩ HOK.out (HRV.out.below R.below (Nat.le_refl _)) (by show vs.length ≤ 100; omega)).mono ?_
     rw [HR.out]
     rintro e w2 hres
     obtain ⟨o, l, k', ev, rfl, hg2, hb2⟩ := catG_of hres
     have R' := R.made hst hn (fun j hj => by simp [apD, laidP] at hj; rcases hj with rfl | rfl <;> exact hdep ⟨_, .data⟩ (by simp) rfl) hb2 (v := .tuple #[.agg #[.slice o l k'], ev]) (fun u h => by cases h) (apS_0 ⟨o, l, k', ev, upd_self .., hg2⟩)
     clear R hg2 hb2 hres
     go_wp2_with fail
     exact hK.out _ _ ⟨_, fl, by simp [upd, e0, e4], by rw [getD_set_ne false (by decide)]; exact hbf, R'⟩
    ·obtain rfl := Option.some.inj ho
     have R' := R.made hst hn (fun j hj => by simp [apD, laidP] at hj; subst hj; exact hdep ⟨_, .data⟩ (by simp) rfl) (Below.refl _ _) (v := c 5) (fun u h => by cases h) (apS_1 (q := 5) (show upd c 6 (c 5) 6 = upd c 6 (c 5) 5 by rw [upd_self, upd_ne _ _ (by decide)]))
     clear R
     go_simp
     exact hK.out _ _ ⟨_, fl, by simp [upd], by rw [getD_set_ne false (by decide)]; exact hbf, R'⟩
    ·obtain rfl := Option.some.inj ho
     have t1 := hdep ⟨6, .data⟩ (by simp) rfl
     have e1 : c 6 = c 5 := (R.spec 6 t1).2.1 rfl
     obtain ⟨o, l, k', ev, e0, -⟩ := (R.spec 5 (R.closed 6 t1 5 (by simp [apD]))).1 rfl
     rw [e0] at e1
     have R' := R.made hst hn (fun j hj => by simp [apD, laidP] at hj; subst hj; exact hdep ⟨_, .data⟩ (by simp) rfl) (Below.refl _ _) (v := .agg #[.slice o l k']) (fun u h => by cases h) (apS_2 (q := 5) ⟨.agg #[.slice o l k'], ev, (upd_ne _ _ (by decide)).trans e1, upd_self ..⟩)
     clear R t1 e0
     rw [e1]
     go_simp
     exact hK.out _ _ ⟨_, fl, by simp [upd, e1], by rw [getD_set_ne false (by decide)]; exact hbf, R'⟩
    ·obtain rfl := Option.some.inj ho
     have t1 := hdep ⟨6, .data⟩ (by simp) rfl
     have e1 : c 6 = c 5 := (R.spec 6 t1).2.1 rfl
     obtain ⟨o, l, k', ev, e0, -⟩ := (R.spec 5 (R.closed 6 t1 5 (by simp [apD]))).1 rfl
     rw [e0] at e1
     have R' := R.made hst hn (fun j hj => by simp [apD, laidP] at hj; subst hj; exact hdep ⟨_, .data⟩ (by simp) rfl) (Below.refl _ _) (v := ev) (fun u h => by cases h) (apS_3 (q := 5) ⟨.agg #[.slice o l k'], ev, (upd_ne _ _ (by decide)).trans e1, upd_self ..⟩)
     clear R t1 e0
     rw [e1]
     go_simp
     exact hK.out _ _ ⟨_, fl, by simp [upd, e1], by rw [getD_set_ne false (by decide)]; exact hbf, R'⟩
    ·obtain rfl := Option.some.inj ho
     have m7 := One.new w' (.slice none 0 0) 27
     have R' := R.made hst hn (fun j hj => absurd hj (by simp [apD, laidP])) (alloc_below w' (.cells #[.slice none 0 0] 27)) (v := .pointer (some ⟨w'.heap.size, 0, none⟩)) (fun u h => by cases h) (apS_4 (q := 5) ⟨w'.heap.size, upd_self .., R.below.size, fun _ => m7⟩)
     clear R m7
     go_simp
     exact hK.out _ _ ⟨_, fl, by simp [upd], by rw [getD_set_ne false (by decide)]; exact hbf, R'⟩
    ·obtain rfl := Option.some.inj ho
     have t2 := hdep ⟨7, .data⟩ (by simp) rfl
     have t4 := hdep ⟨9, .data⟩ (by simp) rfl
     have hb0 : fl = false := by
      cases fl with
      | false => rfl
      | true => exact absurd hbf (listed_not hn)
     subst hb0
     have t1 := R.closed 7 t2 6 (by simp [apD])
     have e1 : c 6 = c 5 := (R.spec 6 t1).2.1 rfl
     obtain ⟨o, l, k', ev, e0, hg⟩ := (R.spec 5 (R.closed 6 t1 5 (by simp [apD]))).1 rfl
     obtain ⟨u2, f2, e2, e2'⟩ : ∃ u e, c 6 = .tuple #[u, e] ∧ c 7 = u := (R.spec 7 t2).2.2.1 rfl
     rw [e1, e0] at e2
     simp only [Value.tuple.injEq, Array.mk.injEq, List.cons.injEq, and_true] at e2
     obtain ⟨rfl, rfl⟩ := e2
     obtain ⟨B, e4, hCB, hbx⟩ : ∃ B, c 9 = .pointer (some ⟨B, 0, none⟩) ∧ w3.heap.size ≤ B ∧ (false = false → One w' B (.slice none 0 0)) := (R.spec 9 t4).2.2.2.2.1 rfl
     have hbx := hbx rfl
     have hg' := CatG.put HROK.out hbx (.slice o l k') hg
     have R' := R.put (Sp' := (apS 5 (CatG (rc, rl)) w3.heap.size true)) (v := undef) hn (fun j hj => by simp [apD, laidP] at hj; rcases hj with rfl | rfl <;> exact hdep ⟨_, .data⟩ (by simp) rfl) (R.below.setCell (p := ⟨B, 0, none⟩) hCB (.slice o l k')) (fun u h => by cases h) (fun j hj hl hs => by
      obtain ⟨h0, h1, h2, h3, h4, h5, h6⟩ := hs
      refine ⟨fun e => ?_, fun e => ?_, fun e => ?_, fun e => ?_, fun e => ?_, fun e => absurd e hj, fun e => ?_⟩
      ·exact ⟨o, l, k', ev, (upd_ne _ _ (by decide)).trans e0, hg'⟩
      ·rw [upd_ne _ _ (by decide), upd_ne _ _ (by decide)]; exact h1 e
      ·rw [upd_ne _ _ (by decide), upd_ne _ _ (by decide)]; exact h2 e
      ·rw [upd_ne _ _ (by decide), upd_ne _ _ (by decide)]; exact h3 e
      ·obtain ⟨B', a1, a2, -⟩ := h4 e
       exact ⟨B', (upd_ne _ _ (by decide)).trans a1, a2, fun hf => by cases hf⟩
      ·rw [upd_ne _ _ (by decide), upd_ne _ _ (by decide)]; exact h6 e) (apS_5 (q := 5) ⟨B, .slice o l k', (upd_ne _ _ (by decide)).trans e4, (upd_ne _ _ (by decide)).trans e2', hCB, hbx.write _⟩)
     obtain ⟨z0, z1, -⟩ := hbx
     clear R hg hg' hst e1 e0 t1 t2 t4
     rw [e2', e4]
     go_simp
     exact hK.out _ _ ⟨_, true, by simp [upd, e2', e4], by first | exact listed_new hn | simp [hn], R'⟩
    ·obtain rfl := Option.some.inj ho
     have R' := R.made hst hn (fun j hj => by simp [apD, laidP] at hj; subst hj; exact hdep ⟨_, .data⟩ (by simp) rfl) (Below.refl _ _) (v := c 8) (fun u h => by cases h) (apS_6 (q := 5) (show upd c 11 (c 8) 11 = upd c 11 (c 8) 8 by rw [upd_self, upd_ne _ _ (by decide)]))
     clear R
     go_simp
     exact hK.out _ _ ⟨_, fl, by simp [upd], by rw [getD_set_ne false (by decide)]; exact hbf, R'⟩
   rintro L a' w2 ⟨c, fl, rfl, hbf, R⟩ hall
   obtain rfl : true = fl := (hall 10 (by decide)).symm.trans hbf
   obtain ⟨BD, o, l, k', ev, e4, e6, hCB, hbx, hg⟩ := ap_fin (q := 5) R (fun i hi => hall i hi)
   have e4 : c 9 = .pointer (some ⟨BD, 0, none⟩) := e4
   have e6 : c 11 = ev := e6
   have hb2 := R.below
   clear R hall hbf
   rw [e4, e6]
   have XD := hide hbx
   have X2a := hide (X2.out.later hb2); have X4a := hide (X4.out.later hb2); have HCa := hide (HCN.out.below hb2); have HCMa := hide (HCM.out.below hb2); have HBa := hide (HBE.out.trans (hb2.mono HBE.out.size))
   have HM2a : Hid (rc = 0 → ∃ p2 : List Nc, CatN w2 (.slice m2 l2 k2) p2 ∧ p2.map (·.x) = rl) := fun h0 => by obtain ⟨p2, h1, h2⟩ := HM2.out h0; exact ⟨p2, h1.below hb2, h2⟩
   have hB5 : w.heap.size + 1 < w3.heap.size := X4.out.2.2
   clear hb2 X2 X4 HCN HCM HBE HM2 e4 e6 a0 a1 a2 a3 hbx
   rcases hg with ⟨hr0, rfl, rfl, rfl, rfl⟩ | ⟨hr0, rfl, qs2, hq2, hc2⟩
   ·have e0 : errV rc = .iface 71 (.int .i64 (rc : Nat)) := if_neg hr0
    have hz : ¬ ((rc : Nat) : Int) = 0 := by have : rc ≠ 0 := hr0; omega
    dsimp only
    rw [e0]
    clear e0 hr0 HROK HRC HR HM2a
    go_wp2
    go_roundw
    case rel => exact ⟨k + 1, mo, ml, mk, ps, _, _, _, qs, by omega, rfl, by go_num, X4a, HCa, HCMa, HEQ, HOK, X2a, HBa⟩
    case measure => simp [intOf]; omega
   ·obtain rfl : rc = 0 := hr0
    have hok2 : CatOk (qs2.map (·.x)) := by rw [hq2]; exact HRC.out rfl
    obtain ⟨p2, hp2, hq3⟩ := HM2a.out rfl
    have X4b := hide (X4a.out.write (.slice o l k'))
    have X2b := hide (X2a.out.other (p := ⟨w.heap.size + 1, 0, none⟩) (by show w.heap.size + 1 ≠ w.heap.size; omega) (.slice o l k'))
    have HCb := hide (hc2.setVar (nonE_of_ok hok2.all) X4a.out.1 HCa.out (.slice o l k'))
    have HCMb := hide (hp2.setVar (nonE_of_ok (by rw [hq3]; exact HROK.out rfl)) X4a.out.1 HCa.out (.slice o l k'))
    have HEQb : Hid (p2.map (·.x) = qs2.map (·.x)) := by show _ = _; rw [hq3, hq2]
    have HOKb := hide hok2
    have HBb := hide (HBa.out.setCell (p := ⟨w.heap.size + 1, 0, none⟩) (by show w.heap.size ≤ w.heap.size + 1; omega) (.slice o l k'))
    obtain ⟨y0, y1, -⟩ := X4a.out
    obtain ⟨z0, -, -⟩ := XD.out
    clear hq2 hc2 hok2 hp2 hq3 HROK HRC HR HCa HM2a
    go_wp2
    go_roundw
    case rel => exact ⟨k + 1, m2, l2, k2, p2, _, _, _, qs2, by omega, rfl, by go_num, X4b, HCb, HCMb, HEQb, HOKb, X2b, HBb⟩
    case measure => simp [intOf]; omega
  ·obtain rfl : k = os.length := by omega
   have HFIN : Hid (LaidP w (.returned (.tuple #[.agg #[.slice co cl ck], .slice mo ml mk])) (wr.setCell ⟨w.heap.size, 0, none⟩ (.slice co cl ck))) :=
    ⟨co, cl, ck, mo, ml, mk, qs, ps, rfl, HCN.out.setOne (nonE_of_ok HOK.out.all) X2.out.1 _, HCM.out.setOne (nonE_of_ok (by rw [HEQ.out]; exact HOK.out.all)) X2.out.1 _, HEQ.out, HOK.out, HBE.out.setCell (p := ⟨w.heap.size, 0, none⟩) (Nat.le_refl _) _⟩
   obtain ⟨c4, -, -⟩ := X4.out
   obtain ⟨r0, r1, -⟩ := X2.out
   go_wp2
   exact bodyPost_ret (v := .tuple #[.agg #[.slice co cl ck], .slice mo ml mk]) (by simp [results, Tryz.results6, go_sem, r0]) rfl HFIN.out

end Go.Proofs.YtjdnhdcaifogmaaGreatDoor

/- A catalog's text tells the catalog. -/
namespace Go.Proofs.YtjdnhdcaifogmaaGreatDoor
open Go.RowKit

theorem itoS_inj {a b : Int} (h : itoS a = itoS b) : a = b := by
 have h1 : Lib.itoa a = Lib.itoa b := by
  have := congrArg (fun s : ByteArray => s.data.toList) h
  simpa [itoS] using this
 have h2 := congrArg Lib.atoi h1
 rw [atoi_itoa, atoi_itoa] at h2
 exact Option.some.inj h2

theorem map_itoS_inj : ∀ (a b : List Int), a.map itoS = b.map itoS → a = b
 | [], [], _ => rfl
 | [], _ :: _, h => by cases h
 | _ :: _, [], h => by cases h
 | a :: x, b :: y, h => by
  rw [List.map_cons, List.map_cons, List.cons.injEq] at h
  rw [itoS_inj h.1, map_itoS_inj x y h.2]

theorem numT_inj {a b : List Int} (ha : 0 < a.length ∧ a.length ≤ 4) (hb : 0 < b.length ∧ b.length ≤ 4) (h : numT a = numT b) : a = b := by
 have h1 := split_numT a ha.1 ha.2
 have h2 := split_numT b hb.1 hb.2
 rw [h, h2] at h1
 exact map_itoS_inj _ _ h1.symm

theorem tailT_inj : ∀ (a b : List (List Int)), (∀ g ∈ a, 0 < g.length ∧ g.length ≤ 4) → (∀ g ∈ b, 0 < g.length ∧ g.length ≤ 4) → tailT a = tailT b → a.isEmpty = b.isEmpty → a = b
 | [], [], _, _, _, _ => rfl
 | [], _ :: _, _, _, _, h => by cases h
 | _ :: _, [], _, _, _, h => by cases h
 | g :: t, g' :: t', ha, hb, h, _ => by
  have h1 := tail_cut g t
  have h2 := tail_cut g' t'
  rw [h, h2] at h1
  simp only [Prod.mk.injEq] at h1
  obtain ⟨e1, e2, e3⟩ := h1
  have e4 : t.isEmpty = t'.isEmpty := by
   cases ht : t.isEmpty <;> cases ht' : t'.isEmpty <;> simp_all
  rw [numT_inj (hb g' (by simp)) (ha g (by simp)) e1, tailT_inj t t' (fun x hx => ha x (List.mem_cons_of_mem _ hx)) (fun x hx => hb x (List.mem_cons_of_mem _ hx)) e2.symm e4]

theorem lineT_inj {x y : Nmd} (hx : NmOk x) (hy : NmOk y) (h : headT x ++ x.gens.flatMap genT = headT y ++ y.gens.flatMap genT) : x = y := by
 have h1 := line_cut hx
 have h2 := line_cut hy
 rw [h, h2] at h1
 simp only [Prod.mk.injEq] at h1
 obtain ⟨e1, e2, e3⟩ := h1
 have k1 := head_cut hx
 have k2 := head_cut hy
 rw [← e1, k2] at k1
 simp only [Prod.mk.injEq, and_true] at k1
 obtain ⟨f1, f2⟩ := k1
 have g1 : x.name = y.name := ByteArray.ext (Array.toList_inj.1 f1.symm)
 have g2 : x.n = y.n := by
  have := congrArg Lib.atoi f2
  rw [atoi_itoa, atoi_itoa] at this
  exact (Option.some.inj this).symm
 have hg : ∀ z, NmOk z → ∀ g ∈ z.gens, 0 < g.length ∧ g.length ≤ 4 := fun z hz g hgm => by
  have h3 := (genF_ok.1 (hz.gens g hgm)).1
  have h4 := hz.n
  constructor <;> omega
 have g3 : x.gens = y.gens := by
  refine tailT_inj _ _ (hg x hx) (hg y hy) e2.symm ?_
  cases ha : x.gens.isEmpty <;> cases hb : y.gens.isEmpty <;> simp_all
 obtain ⟨a, b, c⟩ := x
 obtain ⟨a', b', c'⟩ := y
 dsimp only at g1 g2 g3
 rw [g1, g2, g3]

theorem textC_inj : ∀ (a b : List Nmd), (∀ x ∈ a, NmOk x) → (∀ x ∈ b, NmOk x) → textC a = textC b → a = b
 | [], [], _, _, _ => rfl
 | [], y :: t, _, _, h => absurd h.symm (textC_ne t)
 | x :: t, [], _, _, h => absurd h (textC_ne t)
 | x :: t, y :: u, ha, hb, h => by
  have h1 := text_cut t (ha x (by simp))
  have h2 := text_cut u (hb y (by simp))
  rw [h, h2] at h1
  simp only [Prod.mk.injEq, and_true] at h1
  rw [lineT_inj (ha x (by simp)) (hb y (by simp)) h1.1.symm, textC_inj t u (fun x hx => ha x (List.mem_cons_of_mem _ hx)) (fun x hx => hb x (List.mem_cons_of_mem _ hx)) h1.2.symm]

theorem bytesP_inj {a b : List UInt8} (h : bytesP a = bytesP b) : a = b := by
 have := congrArg (fun s : ByteArray => s.data.toList) h
 simpa [bytesP] using this

def ParseP (w : World) (s : ByteArray) (e : Ending) (w' : World) : Prop :=
 ∃ (o : Option Addr) (n k : Nat) (qs : List Nc) (f : Nat), e = .returned (.tuple #[.agg #[.slice o n k], errV f]) ∧ CatN w' (.slice o n k) qs ∧ CatOk (qs.map (·.x)) ∧ ((f = 5 ∧ qs = [] ∧ ∀ cs, CatOk cs → s ≠ bytesP (textC cs)) ∨ (f = 0 ∧ s = bytesP (textC (qs.map (·.x))))) ∧ Below w.heap.size w w'

theorem parseP_any (w : World) (s : ByteArray) (ht : TabP w) (hm : MaxL w) (he : ErrSet w) (hsz : s.size ≤ 1000000) : Calls Tryz.prog 9 #[.string s] w fun e w' => ParseP w s e w' := by
 by_cases h : ∃ cs, CatOk cs ∧ s = bytesP (textC cs)
 ·obtain ⟨cs, h1, h2⟩ := h
  refine (parse_ok w s cs h1 ht hm h2).mono ?_
  rintro e w' hres
  obtain ⟨o, n, k, qs, rfl, hc, hq, hb⟩ := catRes_ok hres
  exact ⟨o, n, k, qs, 0, rfl, hc, by rw [hq]; exact h1, .inr ⟨rfl, by rw [hq]; exact h2⟩, hb⟩
 ·have hno : ∀ cs, CatOk cs → s ≠ bytesP (textC cs) := fun cs h1 h2 => h ⟨cs, h1, h2⟩
  refine (parseBadP w s hno ht hm he hsz).mono ?_
  rintro e w' ⟨rfl, hb⟩
  exact ⟨none, 0, 0, [], 5, rfl, catN_nil _, catOk_nil, .inl ⟨rfl, rfl, hno⟩, hb⟩

end Go.Proofs.YtjdnhdcaifogmaaGreatDoor
