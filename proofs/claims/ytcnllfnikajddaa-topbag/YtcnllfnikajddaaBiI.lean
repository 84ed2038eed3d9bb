/- TopBag: its second loop. -/
import Derived.Test.YtcnllfnikajddaaBiF
import Derived.Test.YtcnllfnikajddaaBiH
import Derived.Test.YtcnllfnikajddaaMats
import Derived.Test.YtcnllfnikajddaaBiL
import Derived.Test.YtcnllfnikajddaaUpP
import Derived.Deep.Cut
import Derived.Deep.CutRange
import Derived.Deep.CutBlock
namespace Go.Proofs.Ytcnllfnikajddaa
open Go.RowKit

def bagQ : Nat → List Nat
 | 3 => [1, 2]
 | 4 => [3]
 | 5 => [4]
 | 7 => [5, 6]
 | 8 => [0, 7]
 | _ => []

set_option linter.unusedSimpArgs false in
set_option maxRecDepth 100000 in
set_option maxHeartbeats 3200000 in
theorem topBag_B (w W : World) (vo : Option Addr) (vc B5 : Nat) (vs : List Int) (hbe : Below w.heap.size w W) (hv : RowS w (.slice vo vs.length vc) vs) (hv10 : vs.length ≤ 10) (co : Option Addr) (cl ck : Nat) (qs : List Nc) (hx : One W B5 (.slice co cl ck)) (hcn : CatN W (.slice co cl ck) qs) (hok : CatOk (qs.map (·.x))) {sl0 sl2 sl3 sl4 sl6 sl7 sl8 sl9 sl10 sl11 sl12 sl13 sl14 sl15 sl16 sl17 sl18 sl19 sl20 sl21 sl22 sl23 sl24 sl25 sl26 sl27 sl28 sl29 sl30 sl31 sl32 sl33 sl34 sl35 sl36 sl37 sl38 sl39 sl40 sl41 sl42 sl43 sl44 sl45 sl46 sl47 sl48 sl49 sl50 sl51 sl52 sl53 sl54 sl55 sl56 sl57 sl58 sl59 sl60 sl61 sl62 sl63 sl64 sl65 sl66 sl67 sl68 sl69 sl70 sl71 sl72 sl73 sl74 sl75 sl76 sl77 sl78 sl79 sl80 sl81 sl82 sl83 sl84 sl85 sl86 sl87 sl88 sl89 sl90 sl91 sl92 sl93 sl94 sl95 sl96 sl97 sl98 sl99 sl100 sl101 sl102 sl103 sl104 sl105 sl106 sl107 sl108 sl109 sl110 sl111 sl112 sl113 sl114 sl115 sl116 sl117 sl118 sl119 sl120 sl121 sl122 sl123 sl124 sl125 sl126 sl127 sl128 sl129 sl130 sl131 sl132 sl133 sl134 sl135 sl136 sl137 sl138 sl139 sl140 sl141 sl142 sl143 sl144 sl145 sl146 sl147 sl148 sl149 sl150 sl151 sl152 sl153 sl154 sl155 sl156 sl157 sl158 sl159 sl160 sl161 sl162 sl163 sl164 sl165 sl166 sl167 sl168 sl169 sl170 sl171 sl172 sl173 sl174 sl175 sl176 sl177 sl178 sl179 sl180 sl181 sl182 sl183 sl184 sl185 sl186 sl187 sl188 sl189 sl190 sl191 sl192 sl193 sl194 : Value} :
  (Code.tail (Code.tail (Code.tail (Code.tail (Code.tail (Code.tail (Code.tail ((Try.f3.body).getD .skip)))))))).wp Try.prog (bodyPost Try.prog Try.f3 (fun e w' => e = .returned (.bool true) ∧ Below w.heap.size w w')) ⟨#[sl0, (.slice vo vs.length vc), sl2, sl3, sl4, (.pointer (some ⟨B5, 0, none⟩)), sl6, sl7, sl8, sl9, sl10, sl11, sl12, sl13, sl14, sl15, sl16, sl17, sl18, sl19, sl20, sl21, sl22, sl23, sl24, sl25, sl26, sl27, sl28, sl29, sl30, sl31, sl32, sl33, sl34, sl35, sl36, sl37, sl38, sl39, sl40, sl41, sl42, sl43, sl44, sl45, sl46, sl47, sl48, sl49, sl50, sl51, sl52, sl53, sl54, sl55, sl56, sl57, sl58, sl59, sl60, sl61, sl62, sl63, sl64, sl65, sl66, sl67, sl68, sl69, sl70, sl71, sl72, sl73, sl74, sl75, sl76, sl77, sl78, sl79, sl80, sl81, sl82, sl83, sl84, sl85, sl86, sl87, sl88, sl89, sl90, sl91, sl92, sl93, sl94, sl95, sl96, sl97, sl98, sl99, sl100, sl101, sl102, sl103, sl104, sl105, sl106, sl107, sl108, sl109, sl110, sl111, sl112, sl113, sl114, sl115, sl116, sl117, sl118, sl119, sl120, sl121, sl122, sl123, sl124, sl125, sl126, sl127, sl128, sl129, sl130, sl131, sl132, sl133, sl134, sl135, sl136, sl137, sl138, sl139, sl140, sl141, sl142, sl143, sl144, sl145, sl146, sl147, sl148, sl149, sl150, sl151, sl152, sl153, sl154, sl155, sl156, sl157, sl158, sl159, sl160, sl161, sl162, sl163, sl164, sl165, sl166, sl167, sl168, sl169, sl170, sl171, sl172, sl173, sl174, sl175, sl176, sl177, sl178, sl179, sl180, sl181, sl182, sl183, sl184, sl185, sl186, sl187, sl188, sl189, sl190, sl191, sl192, sl193, sl194], []⟩ W := by
 simp only [Code.tail, Try.f3, Option.getD_some]
 have HV := hide hv; have HBE0 := hide hbe; have HX := hide hx; have HC0 := hide hcn; have HOK := hide hok
 have hq8 : qs.length ≤ 8 := by have := hok.few; rwa [List.length_map] at this
 obtain ⟨p0, p1, -⟩ := hx
 clear hv hbe hcn hok
 go_wp2_with fail
 refine (lattices_any2 W _ qs ⟨_, rfl, HC0.out⟩ (by omega) HOK.out.all).mono ?_
 rintro e w1 ⟨u, rs, rfl, hcr, hrs, hb1⟩
 have hrl : rs.length = qs.length := by have := congrArg List.length hrs; simpa using this
 have HRS := hide hrs; have HCR := hide hcr
 have X1 := hide (HX.out.later hb1); have HC1 := hide (HC0.out.below hb1); have HB1 := hide (HBE0.out.trans (hb1.mono HBE0.out.size))
 have hr8 : rs.length ≤ 8 := by omega
 obtain ⟨ro, rcap, rfl, -⟩ := id hcr
 clear hcr hrs hb1 HX HC0 HBE0 p0 p1 hrl
 go_wp2_with fail
 go_loopw [11] (fun i wr => ∃ k : Nat, k ≤ rs.length ∧ i = .int .i64 k ∧ Hid (One wr B5 (.slice co cl ck)) ∧ Hid (CatN wr (.slice ro rs.length rcap) rs) ∧ Hid (CatN wr (.slice co cl ck) qs) ∧ Hid (Below w.heap.size w wr)) (fun i _ => rs.length - (intOf i).toNat)
 case atStart => exact ⟨0, Nat.zero_le _, rfl, X1, HCR, HC1, HB1⟩
 case round =>
  clear X1 HCR HC1 HB1
  obtain ⟨k, hk, rfl, X5, HCR, HCN, HBE⟩ := hrel
  by_cases hkl : k < rs.length
  ·obtain ⟨b, off, cap', e⟩ := HCR.out.form (by omega)
   simp only [Value.slice.injEq, true_and] at e
   obtain ⟨rfl, rfl⟩ := e
   obtain ⟨hltw, d0, d1, d2, hin⟩ := HCR.out.at k hkl
   have HIN := hide hin
   obtain ⟨Q, hQ⟩ : ∃ Q, rs[k] = Q := ⟨_, rfl⟩
   rw [hQ] at d0 d1 d2 HIN
   obtain ⟨⟨nm, n, gens⟩, go, gl, gc⟩ := Q
   dsimp only at d0 d1 d2
   have HQ := hide hQ
   obtain ⟨r, hr⟩ : ∃ r, applyC (qs.map (·.x)) ⟨3, nm, 0, vs⟩ = r := ⟨_, rfl⟩
   have HR := hide hr
   have HROK : Hid (r.1 = 0 → ∀ x ∈ r.2, NmOk x) := fun h0 => by rw [← hr] at h0 ⊢; exact (applyC_ok HOK.out _ h0).all
   clear hr hQ hin
   go_wp2_with fail
   refine region_inv (by kernel_rfl) (by kernel_rfl) (fun L a' w' => ∃ (c : Nat → Value) (fl : Bool), a' = (⟨#[sl0, (.slice vo vs.length vc), sl2, sl3, u4, (.pointer (some ⟨B5, 0, none⟩)), sl6, sl7, sl8, sl9, (.slice (some ⟨b, off, none⟩) rs.length rcap), (.int .i64 (k : Int)), c 12, c 14, u14, u15, u16, u17, u18, u19, u20, u21, u22, u23, sl24, sl25, sl26, sl27, sl28, sl29, sl30, sl31, sl32, sl33, sl34, sl35, sl36, sl37, sl38, sl39, sl40, sl41, sl42, sl43, sl44, sl45, sl46, sl47, sl48, sl49, sl50, sl51, sl52, sl53, sl54, sl55, sl56, sl57, sl58, sl59, sl60, sl61, sl62, sl63, sl64, (.agg #[.slice co cl ck]), (.slice (some ⟨b, off, none⟩) rs.length rcap), (.int .i64 (k : Int)), (.slice (some ⟨b, off, none⟩) rs.length rcap), (.int .i64 (rs.length : Int)), (.bool true), u71, u72, c 9, c 0, c 1, c 2, c 3, c 4, c 5, c 6, c 7, c 8, c 10, c 11, u85, u86, u87, u88, u89, u90, u91, u92, u93, u94, u95, u96, u97, u98, u99, u100, u101, u102, u103, u104, u105, u106, u107, u108, u109, u110, u111, u112, u113, u114, u115, u116, u117, u118, u119, u120, u121, u122, u123, u124, u125, u126, u127, u128, u129, u130, u131, u132, u133, u134, u135, u136, u137, u138, u139, u140, u141, u142, u143, u144, u145, u146, u147, u148, u149, u150, u151, u152, u153, u154, u155, u156, u157, u158, u159, u160, u161, u162, u163, u164, u165, u166, u167, u168, u169, u170, u171, u172, u173, u174, u175, u176, u177, u178, u179, u180, u181, u182, u183, u184, u185, u186, u187, u188, u189, u190, u191, u192, u193, u194], []⟩ : Act) ∧ L.getD 13 false = fl ∧ FS (apD 8 bagQ) (fun i => List.getD [some (.agg #[.slice co cl ck]), some (.slice (some ⟨b, off, none⟩) rs.length rcap), some (.int .i64 (k : Int)), some (.pointer (some ⟨b, off + k * 3, none⟩)), some (.pointer (some ⟨b, off + k * 3, none⟩)), some (.string nm), some (.slice vo vs.length vc), some (.agg #[.int .i64 3, .string nm, .int .i64 0, (.slice vo vs.length vc)])] i none) (apS 8 (CatG r) wr.heap.size fl) wr L c w') ⟨fun i => List.getD [u74, u75, u76, u77, u78, u79, u80, u81, u82, u73, u83, u84, u12, undef, u13] i undef, false, rfl, by simp [Array.getD], FS.start _ _ _⟩ ?_ ?_
   ·rintro L a' w' i o ⟨c, fl, rfl, hbf, R⟩ ho hn hdep K hK
    have hi : i < 15 := (Array.getElem?_eq_some_iff.1 ho).1
    have hst := apStays 8 bagQ (CatG r) (CatG.later (r := r)) wr.heap.size fl
    rcases (by omega : i = 0 ∨ i = 1 ∨ i = 2 ∨ i = 3 ∨ i = 4 ∨ i = 5 ∨ i = 6 ∨ i = 7 ∨ i = 8 ∨ i = 9 ∨ i = 10 ∨ i = 11 ∨ i = 12 ∨ i = 13 ∨ i = 14) with rfl | rfl | rfl | rfl | rfl | rfl | rfl | rfl | rfl | rfl | rfl | rfl | rfl | rfl | rfl
    ·obtain rfl := Option.some.inj ho
     obtain ⟨p0, -, -⟩ := X5.out.later R.below
     have R' := R.made hst hn (fun j hj => absurd hj (by simp [apD, bagQ])) (Below.refl _ _) (v := (.agg #[.slice co cl ck])) (fun u h => Option.some.inj h) (apS_p (by decide))
     clear R
     go_simp
     exact hK.out _ _ ⟨_, fl, by simp [upd], by rw [getD_set_ne false (by decide)]; exact hbf, R'⟩
    ·obtain rfl := Option.some.inj ho
     have R' := R.made hst hn (fun j hj => absurd hj (by simp [apD, bagQ])) (Below.refl _ _) (v := (.slice (some ⟨b, off, none⟩) rs.length rcap)) (fun u h => Option.some.inj h) (apS_p (by decide))
     clear R
     go_simp
     exact hK.out _ _ ⟨_, fl, by simp [upd], by rw [getD_set_ne false (by decide)]; exact hbf, R'⟩
    ·obtain rfl := Option.some.inj ho
     have R' := R.made hst hn (fun j hj => absurd hj (by simp [apD, bagQ])) (Below.refl _ _) (v := (.int .i64 (k : Int))) (fun u h => Option.some.inj h) (apS_p (by decide))
     clear R
     go_simp
     exact hK.out _ _ ⟨_, fl, by simp [upd], by rw [getD_set_ne false (by decide)]; exact hbf, R'⟩
    ·obtain rfl := Option.some.inj ho
     have e1 : c 1 = (.slice (some ⟨b, off, none⟩) rs.length rcap) := R.plain 1 _ (hdep ⟨1, .data⟩ (by simp) rfl) rfl
     have e2 : c 2 = (.int .i64 (k : Int)) := R.plain 2 _ (hdep ⟨2, .data⟩ (by simp) rfl) rfl
     have R' := R.made hst hn (fun j hj => by simp [apD, bagQ] at hj; rcases hj with rfl | rfl <;> exact hdep ⟨_, .data⟩ (by simp) rfl) (Below.refl _ _) (v := (.pointer (some ⟨b, off + k * 3, none⟩))) (fun u h => Option.some.inj h) (apS_p (by decide))
     clear R
     rw [e1, e2]
     go_simp
     exact hK.out _ _ ⟨_, fl, by simp [upd, e1, e2], by rw [getD_set_ne false (by decide)]; exact hbf, R'⟩
    ·obtain rfl := Option.some.inj ho
     have e3 : c 3 = (.pointer (some ⟨b, off + k * 3, none⟩)) := R.plain 3 _ (hdep ⟨3, .data⟩ (by simp) rfl) rfl
     have R' := R.made hst hn (fun j hj => by simp [apD, bagQ] at hj; subst hj; exact hdep ⟨_, .data⟩ (by simp) rfl) (Below.refl _ _) (v := (.pointer (some ⟨b, off + k * 3, none⟩))) (fun u h => Option.some.inj h) (apS_p (by decide))
     clear R
     rw [e3]
     go_simp
     exact hK.out _ _ ⟨_, fl, by simp [upd, e3], by rw [getD_set_ne false (by decide)]; exact hbf, R'⟩
    ·obtain rfl := Option.some.inj ho
     have e4 : c 4 = (.pointer (some ⟨b, off + k * 3, none⟩)) := R.plain 4 _ (hdep ⟨4, .data⟩ (by simp) rfl) rfl
     have q0 := (R.below.cell (p := ⟨b, off + k * 3, none⟩) hltw).trans d0
     have R' := R.made hst hn (fun j hj => by simp [apD, bagQ] at hj; subst hj; exact hdep ⟨_, .data⟩ (by simp) rfl) (Below.refl _ _) (v := (.string nm)) (fun u h => Option.some.inj h) (apS_p (by decide))
     clear R
     rw [e4]
     go_simp
     exact hK.out _ _ ⟨_, fl, by simp [upd, e4], by rw [getD_set_ne false (by decide)]; exact hbf, R'⟩
    ·obtain rfl := Option.some.inj ho
     have R' := R.made hst hn (fun j hj => absurd hj (by simp [apD, bagQ])) (Below.refl _ _) (v := (.slice vo vs.length vc)) (fun u h => Option.some.inj h) (apS_p (by decide))
     clear R
     go_simp
     exact hK.out _ _ ⟨_, fl, by simp [upd], by rw [getD_set_ne false (by decide)]; exact hbf, R'⟩
    ·obtain rfl := Option.some.inj ho
     have e5 : c 5 = (.string nm) := R.plain 5 _ (hdep ⟨5, .data⟩ (by simp) rfl) rfl
     have e6 : c 6 = (.slice vo vs.length vc) := R.plain 6 _ (hdep ⟨6, .data⟩ (by simp) rfl) rfl
     have R' := R.made hst hn (fun j hj => by simp [apD, bagQ] at hj; rcases hj with rfl | rfl <;> exact hdep ⟨_, .data⟩ (by simp) rfl) (Below.refl _ _) (v := (.agg #[.int .i64 3, .string nm, .int .i64 0, (.slice vo vs.length vc)])) (fun u h => Option.some.inj h) (apS_p (by decide))
     clear R
     rw [e5, e6]
     go_simp
     exact hK.out _ _ ⟨_, fl, by simp [upd, e5, e6], by rw [getD_set_ne false (by decide)]; exact hbf, R'⟩
    ·obtain rfl := Option.some.inj ho
     have e0 : c 0 = (.agg #[.slice co cl ck]) := R.plain 0 _ (hdep ⟨0, .data⟩ (by simp) rfl) rfl
     have e7 : c 7 = (.agg #[.int .i64 3, .string nm, .int .i64 0, (.slice vo vs.length vc)]) := R.plain 7 _ (hdep ⟨7, .data⟩ (by simp) rfl) rfl
     rw [e0, e7]
     go_simp
     refine (apply_any w' _ qs ⟨3, nm, 0, vs⟩ vo vc ⟨_, rfl, HCN.out.below R.below⟩ HOK.out (HV.out.below (HBE.out.trans (R.below.mono HBE.out.size)) (Nat.le_refl _)) (by show vs.length ≤ 100; omega)).mono ?_
     rw [HR.out]
     rintro e w2 hres
     obtain ⟨o, l, k', ev, rfl, hg2, hb2⟩ := catG_of hres
     have R' := R.made hst hn (fun j hj => by simp [apD, bagQ] at hj; rcases hj with rfl | rfl <;> exact hdep ⟨_, .data⟩ (by simp) rfl) hb2 (v := .tuple #[.agg #[.slice o l k'], ev]) (fun u h => by cases h) (apS_0 ⟨o, l, k', ev, upd_self .., hg2⟩)
     clear R hg2 hb2 hres
     go_wp2_with fail
     exact hK.out _ _ ⟨_, fl, by simp [upd, e0, e7], by rw [getD_set_ne false (by decide)]; exact hbf, R'⟩
    ·obtain rfl := Option.some.inj ho
     have R' := R.made hst hn (fun j hj => by simp [apD, bagQ] at hj; subst hj; exact hdep ⟨_, .data⟩ (by simp) rfl) (Below.refl _ _) (v := c 8) (fun u h => by cases h) (apS_1 (q := 8) (show upd c 9 (c 8) 9 = upd c 9 (c 8) 8 by rw [upd_self, upd_ne _ _ (by decide)]))
     clear R
     go_simp
     exact hK.out _ _ ⟨_, fl, by simp [upd], by rw [getD_set_ne false (by decide)]; exact hbf, R'⟩
    ·obtain rfl := Option.some.inj ho
     have t1 := hdep ⟨9, .data⟩ (by simp) rfl
     have e1 : c 9 = c 8 := (R.spec 9 t1).2.1 rfl
     obtain ⟨o, l, k', ev, e0, -⟩ := (R.spec 8 (R.closed 9 t1 8 (by simp [apD]))).1 rfl
     rw [e0] at e1
     have R' := R.made hst hn (fun j hj => by simp [apD, bagQ] at hj; subst hj; exact hdep ⟨_, .data⟩ (by simp) rfl) (Below.refl _ _) (v := .agg #[.slice o l k']) (fun u h => by cases h) (apS_2 (q := 8) ⟨.agg #[.slice o l k'], ev, (upd_ne _ _ (by decide)).trans e1, upd_self ..⟩)
     clear R t1 e0
     rw [e1]
     go_simp
     exact hK.out _ _ ⟨_, fl, by simp [upd, e1], by rw [getD_set_ne false (by decide)]; exact hbf, R'⟩
    ·obtain rfl := Option.some.inj ho
     have t1 := hdep ⟨9, .data⟩ (by simp) rfl
     have e1 : c 9 = c 8 := (R.spec 9 t1).2.1 rfl
     obtain ⟨o, l, k', ev, e0, -⟩ := (R.spec 8 (R.closed 9 t1 8 (by simp [apD]))).1 rfl
     rw [e0] at e1
     have R' := R.made hst hn (fun j hj => by simp [apD, bagQ] at hj; subst hj; exact hdep ⟨_, .data⟩ (by simp) rfl) (Below.refl _ _) (v := ev) (fun u h => by cases h) (apS_3 (q := 8) ⟨.agg #[.slice o l k'], ev, (upd_ne _ _ (by decide)).trans e1, upd_self ..⟩)
     clear R t1 e0
     rw [e1]
     go_simp
     exact hK.out _ _ ⟨_, fl, by simp [upd, e1], by rw [getD_set_ne false (by decide)]; exact hbf, R'⟩
    ·obtain rfl := Option.some.inj ho
     have m7 := One.new w' (.slice none 0 0) 26
     have R' := R.made hst hn (fun j hj => absurd hj (by simp [apD, bagQ])) (alloc_below w' (.cells #[.slice none 0 0] 26)) (v := .pointer (some ⟨w'.heap.size, 0, none⟩)) (fun u h => by cases h) (apS_4 (q := 8) ⟨w'.heap.size, upd_self .., R.below.size, fun _ => m7⟩)
     clear R m7
     go_simp
     exact hK.out _ _ ⟨_, fl, by simp [upd], by rw [getD_set_ne false (by decide)]; exact hbf, R'⟩
    ·obtain rfl := Option.some.inj ho
     have t2 := hdep ⟨10, .data⟩ (by simp) rfl
     have t4 := hdep ⟨12, .data⟩ (by simp) rfl
     have hb0 : fl = false := by
      cases fl with
      | false => rfl
      | true => exact absurd hbf (listed_not hn)
     subst hb0
     have t1 := R.closed 10 t2 9 (by simp [apD])
     have e1 : c 9 = c 8 := (R.spec 9 t1).2.1 rfl
     obtain ⟨o, l, k', ev, e0, hg⟩ := (R.spec 8 (R.closed 9 t1 8 (by simp [apD]))).1 rfl
     obtain ⟨u2, f2, e2, e2'⟩ : ∃ u e, c 9 = .tuple #[u, e] ∧ c 10 = u := (R.spec 10 t2).2.2.1 rfl
     rw [e1, e0] at e2
     simp only [Value.tuple.injEq, Array.mk.injEq, List.cons.injEq, and_true] at e2
     obtain ⟨rfl, rfl⟩ := e2
     obtain ⟨B, e4, hCB, hbx⟩ : ∃ B, c 12 = .pointer (some ⟨B, 0, none⟩) ∧ wr.heap.size ≤ B ∧ (false = false → One w' B (.slice none 0 0)) := (R.spec 12 t4).2.2.2.2.1 rfl
     have hbx := hbx rfl
     have hg' := CatG.put HROK.out hbx (.slice o l k') hg
     have R' := R.put (Sp' := (apS 8 (CatG r) wr.heap.size true)) (v := undef) hn (fun j hj => by simp [apD, bagQ] at hj; rcases hj with rfl | rfl <;> exact hdep ⟨_, .data⟩ (by simp) rfl) (R.below.setCell (p := ⟨B, 0, none⟩) hCB (.slice o l k')) (fun u h => by cases h) (fun j hj hl hs => by
      obtain ⟨h0, h1, h2, h3, h4, h5, h6⟩ := hs
      refine ⟨fun e => ?_, fun e => ?_, fun e => ?_, fun e => ?_, fun e => ?_, fun e => absurd e hj, fun e => ?_⟩
      ·exact ⟨o, l, k', ev, (upd_ne _ _ (by decide)).trans e0, hg'⟩
      ·rw [upd_ne _ _ (by decide), upd_ne _ _ (by decide)]; exact h1 e
      ·rw [upd_ne _ _ (by decide), upd_ne _ _ (by decide)]; exact h2 e
      ·rw [upd_ne _ _ (by decide), upd_ne _ _ (by decide)]; exact h3 e
      ·obtain ⟨B', a1, a2, -⟩ := h4 e
       exact ⟨B', (upd_ne _ _ (by decide)).trans a1, a2, fun hf => by cases hf⟩
      ·rw [upd_ne _ _ (by decide), upd_ne _ _ (by decide)]; exact h6 e) (apS_5 (q := 8) ⟨B, .slice o l k', (upd_ne _ _ (by decide)).trans e4, (upd_ne _ _ (by decide)).trans e2', hCB, hbx.write _⟩)
     obtain ⟨z0, z1, -⟩ := hbx
     clear R hg hg' hst e1 e0 t1 t2 t4
     rw [e2', e4]
     go_simp
     exact hK.out _ _ ⟨_, true, by simp [upd, e2', e4], by first | exact listed_new hn | simp [hn], R'⟩
    ·obtain rfl := Option.some.inj ho
     have R' := R.made hst hn (fun j hj => by simp [apD, bagQ] at hj; subst hj; exact hdep ⟨_, .data⟩ (by simp) rfl) (Below.refl _ _) (v := c 11) (fun u h => by cases h) (apS_6 (q := 8) (show upd c 14 (c 11) 14 = upd c 14 (c 11) 11 by rw [upd_self, upd_ne _ _ (by decide)]))
     clear R
     go_simp
     exact hK.out _ _ ⟨_, fl, by simp [upd], by rw [getD_set_ne false (by decide)]; exact hbf, R'⟩
   rintro L a' w2 ⟨zc, fl, rfl, hbf, R⟩ hall
   obtain rfl : true = fl := (hall 13 (by decide)).symm.trans hbf
   obtain ⟨BD, o, l, k', ev, e4, e6, hCB, hbx, hg⟩ := ap_fin (q := 8) R (fun i hi => hall i hi)
   have e4 : zc 12 = .pointer (some ⟨BD, 0, none⟩) := e4
   have e6 : zc 14 = ev := e6
   have hb2 := R.below
   clear R hall hbf
   rw [e4, e6]
   have XD := hide hbx
   have X5a := hide (X5.out.later hb2); have HCRa := hide (HCR.out.below hb2); have HCa := hide (HCN.out.below hb2); have HBa := hide (HBE.out.trans (hb2.mono HBE.out.size))
   have HINa := hide (HIN.out.below hb2)
   have hltw2 : b < w2.heap.size := Nat.lt_of_lt_of_le hltw hb2.size
   have d0 := (hb2.cell (p := ⟨b, off + k * 3, none⟩) hltw).trans d0; have d1 := (hb2.cell (p := ⟨b, off + k * 3 + 1, none⟩) hltw).trans d1; have d2 := (hb2.cell (p := ⟨b, off + k * 3 + 2, none⟩) hltw).trans d2
   have hBD : wr.heap.size ≤ BD := hCB
   clear hb2 X5 HCR HCN HBE HIN e4 e6 hbx hltw hCB
   rcases hg with ⟨hr0, rfl, rfl, rfl, rfl⟩ | ⟨hr0, rfl, qs2, hq2, hc2⟩
   ·have e0 : errV r.1 = .iface 49 (.int .i64 (r.1 : Nat)) := if_neg hr0
    rw [e0]
    clear e0 hr0 HROK HR HINa
    go_wp2
    go_roundw
    case rel => exact ⟨k + 1, by omega, by go_num, X5a, HCRa, HCa, HBa⟩
    case measure => simp [intOf]; omega
   have HC2 := hide hc2
   have HQ2 := hide hq2
   have HOK2 : Hid (CatOk (qs2.map (·.x))) := by show CatOk _; rw [hq2, ← HR.out]; exact applyC_ok HOK.out _ (by rw [HR.out]; exact hr0)
   have HR0 := hide hr0
   obtain ⟨r2, hr2⟩ : ∃ r2, applyC (qs2.map (·.x)) ⟨4, nm, 0, vs⟩ = r2 := ⟨_, rfl⟩
   have HR2 := hide hr2
   have HROK2 : Hid (r2.1 = 0 → ∀ x ∈ r2.2, NmOk x) := fun h0 => by rw [← hr2] at h0 ⊢; exact (applyC_ok HOK2.out _ h0).all
   obtain ⟨gs, hperm, hap, hhas, hpl⟩ := round_facts (cs := rs.map (·.x)) (by rw [HRS.out]; exact HOK.out) (k := k) (by rw [List.length_map]; exact hkl) (s := nm) (by rw [List.getElem_map, HQ.out]) vs (by rw [HRS.out, HR.out]; exact hr0)
   simp only [List.getElem_map, HQ.out, withG] at hperm hap hhas hpl
   have HPERM : Hid (gs.Perm gens) := hperm
   have HHAS : Hid (hasL ((rs.map (·.x)).set k ⟨nm, n, gs⟩) nm = true) := hhas
   have HPL : Hid (placeL ((rs.map (·.x)).set k ⟨nm, n, gs⟩) nm = k) := hpl
   have HR2X : Hid (r2 = (0, (rs.map (·.x)).set k ⟨nm, n, gs⟩)) := by show r2 = _; rw [← hr2, hq2, ← HR.out, ← HRS.out]; exact hap
   clear hc2 hq2 hr0 hr2 HROK hperm hap hhas hpl
   go_wp2_with fail
   refine region_inv (by kernel_rfl) (by kernel_rfl) (fun L a' w' => ∃ (c : Nat → Value) (fl : Bool), a' = (⟨#[sl0, (.slice vo vs.length vc), sl2, sl3, u4, (.pointer (some ⟨B5, 0, none⟩)), sl6, sl7, sl8, sl9, (.slice (some ⟨b, off, none⟩) rs.length rcap), (.int .i64 (k : Int)), (.pointer (some ⟨BD, 0, none⟩)), c 14, c 12, u15, u16, u17, u18, u19, u20, u21, u22, u23, sl24, sl25, sl26, sl27, sl28, sl29, sl30, sl31, sl32, sl33, sl34, sl35, sl36, sl37, sl38, sl39, sl40, sl41, sl42, sl43, sl44, sl45, sl46, sl47, sl48, sl49, sl50, sl51, sl52, sl53, sl54, sl55, sl56, sl57, sl58, sl59, sl60, sl61, sl62, sl63, sl64, (.agg #[.slice co cl ck]), (.slice (some ⟨b, off, none⟩) rs.length rcap), (.int .i64 (k : Int)), (.slice (some ⟨b, off, none⟩) rs.length rcap), (.int .i64 (rs.length : Int)), (.bool true), u71, u72, zc 9, zc 0, zc 1, zc 2, zc 3, zc 4, zc 5, zc 6, zc 7, zc 8, zc 10, zc 11, .nilIface, (.bool false), c 9, c 0, c 1, c 2, c 3, c 4, c 5, c 6, c 7, c 8, c 10, c 11, u99, u100, u101, u102, u103, u104, u105, u106, u107, u108, u109, u110, u111, u112, u113, u114, u115, u116, u117, u118, u119, u120, u121, u122, u123, u124, u125, u126, u127, u128, u129, u130, u131, u132, u133, u134, u135, u136, u137, u138, u139, u140, u141, u142, u143, u144, u145, u146, u147, u148, u149, u150, u151, u152, u153, u154, u155, u156, u157, u158, u159, u160, u161, u162, u163, u164, u165, u166, u167, u168, u169, u170, u171, u172, u173, u174, u175, u176, u177, u178, u179, u180, u181, u182, u183, u184, u185, u186, u187, u188, u189, u190, u191, u192, u193, u194], []⟩ : Act) ∧ L.getD 13 false = fl ∧ FS (apD 8 bagQ) (fun i => List.getD [some (.agg #[.slice o l k']), some (.slice (some ⟨b, off, none⟩) rs.length rcap), some (.int .i64 (k : Int)), some (.pointer (some ⟨b, off + k * 3, none⟩)), some (.pointer (some ⟨b, off + k * 3, none⟩)), some (.string nm), some (.slice vo vs.length vc), some (.agg #[.int .i64 4, .string nm, .int .i64 0, (.slice vo vs.length vc)])] i none) (apS 8 (CatG r2) w2.heap.size fl) w2 L c w') ⟨fun i => List.getD [u88, u89, u90, u91, u92, u93, u94, u95, u96, u87, u97, u98, u14, undef, .nilIface] i undef, false, rfl, by simp [Array.getD], FS.start _ _ _⟩ ?_ ?_
   ·rintro L a' w' i o ⟨c, fl, rfl, hbf, R⟩ ho hn hdep K hK
    have hi : i < 15 := (Array.getElem?_eq_some_iff.1 ho).1
    have hst := apStays 8 bagQ (CatG r2) (CatG.later (r := r2)) w2.heap.size fl
    rcases (by omega : i = 0 ∨ i = 1 ∨ i = 2 ∨ i = 3 ∨ i = 4 ∨ i = 5 ∨ i = 6 ∨ i = 7 ∨ i = 8 ∨ i = 9 ∨ i = 10 ∨ i = 11 ∨ i = 12 ∨ i = 13 ∨ i = 14) with rfl | rfl | rfl | rfl | rfl | rfl | rfl | rfl | rfl | rfl | rfl | rfl | rfl | rfl | rfl
    ·obtain rfl := Option.some.inj ho
     obtain ⟨p0, -, -⟩ := XD.out.later R.below
     have R' := R.made hst hn (fun j hj => absurd hj (by simp [apD, bagQ])) (Below.refl _ _) (v := (.agg #[.slice o l k'])) (fun u h => Option.some.inj h) (apS_p (by decide))
     clear R
     go_simp
     exact hK.out _ _ ⟨_, fl, by simp [upd], by rw [getD_set_ne false (by decide)]; exact hbf, R'⟩
    ·obtain rfl := Option.some.inj ho
     have R' := R.made hst hn (fun j hj => absurd hj (by simp [apD, bagQ])) (Below.refl _ _) (v := (.slice (some ⟨b, off, none⟩) rs.length rcap)) (fun u h => Option.some.inj h) (apS_p (by decide))
     clear R
     go_simp
     exact hK.out _ _ ⟨_, fl, by simp [upd], by rw [getD_set_ne false (by decide)]; exact hbf, R'⟩
    ·obtain rfl := Option.some.inj ho
     have R' := R.made hst hn (fun j hj => absurd hj (by simp [apD, bagQ])) (Below.refl _ _) (v := (.int .i64 (k : Int))) (fun u h => Option.some.inj h) (apS_p (by decide))
     clear R
     go_simp
     exact hK.out _ _ ⟨_, fl, by simp [upd], by rw [getD_set_ne false (by decide)]; exact hbf, R'⟩
    ·obtain rfl := Option.some.inj ho
     have e1 : c 1 = (.slice (some ⟨b, off, none⟩) rs.length rcap) := R.plain 1 _ (hdep ⟨1, .data⟩ (by simp) rfl) rfl
     have e2 : c 2 = (.int .i64 (k : Int)) := R.plain 2 _ (hdep ⟨2, .data⟩ (by simp) rfl) rfl
     have R' := R.made hst hn (fun j hj => by simp [apD, bagQ] at hj; rcases hj with rfl | rfl <;> exact hdep ⟨_, .data⟩ (by simp) rfl) (Below.refl _ _) (v := (.pointer (some ⟨b, off + k * 3, none⟩))) (fun u h => Option.some.inj h) (apS_p (by decide))
     clear R
     rw [e1, e2]
     go_simp
     exact hK.out _ _ ⟨_, fl, by simp [upd, e1, e2], by rw [getD_set_ne false (by decide)]; exact hbf, R'⟩
    ·obtain rfl := Option.some.inj ho
     have e3 : c 3 = (.pointer (some ⟨b, off + k * 3, none⟩)) := R.plain 3 _ (hdep ⟨3, .data⟩ (by simp) rfl) rfl
     have R' := R.made hst hn (fun j hj => by simp [apD, bagQ] at hj; subst hj; exact hdep ⟨_, .data⟩ (by simp) rfl) (Below.refl _ _) (v := (.pointer (some ⟨b, off + k * 3, none⟩))) (fun u h => Option.some.inj h) (apS_p (by decide))
     clear R
     rw [e3]
     go_simp
     exact hK.out _ _ ⟨_, fl, by simp [upd, e3], by rw [getD_set_ne false (by decide)]; exact hbf, R'⟩
    ·obtain rfl := Option.some.inj ho
     have e4 : c 4 = (.pointer (some ⟨b, off + k * 3, none⟩)) := R.plain 4 _ (hdep ⟨4, .data⟩ (by simp) rfl) rfl
     have q0 := (R.below.cell (p := ⟨b, off + k * 3, none⟩) hltw2).trans d0
     have R' := R.made hst hn (fun j hj => by simp [apD, bagQ] at hj; subst hj; exact hdep ⟨_, .data⟩ (by simp) rfl) (Below.refl _ _) (v := (.string nm)) (fun u h => Option.some.inj h) (apS_p (by decide))
     clear R
     rw [e4]
     go_simp
     exact hK.out _ _ ⟨_, fl, by simp [upd, e4], by rw [getD_set_ne false (by decide)]; exact hbf, R'⟩
    ·obtain rfl := Option.some.inj ho
     have R' := R.made hst hn (fun j hj => absurd hj (by simp [apD, bagQ])) (Below.refl _ _) (v := (.slice vo vs.length vc)) (fun u h => Option.some.inj h) (apS_p (by decide))
     clear R
     go_simp
     exact hK.out _ _ ⟨_, fl, by simp [upd], by rw [getD_set_ne false (by decide)]; exact hbf, R'⟩
    ·obtain rfl := Option.some.inj ho
     have e5 : c 5 = (.string nm) := R.plain 5 _ (hdep ⟨5, .data⟩ (by simp) rfl) rfl
     have e6 : c 6 = (.slice vo vs.length vc) := R.plain 6 _ (hdep ⟨6, .data⟩ (by simp) rfl) rfl
     have R' := R.made hst hn (fun j hj => by simp [apD, bagQ] at hj; rcases hj with rfl | rfl <;> exact hdep ⟨_, .data⟩ (by simp) rfl) (Below.refl _ _) (v := (.agg #[.int .i64 4, .string nm, .int .i64 0, (.slice vo vs.length vc)])) (fun u h => Option.some.inj h) (apS_p (by decide))
     clear R
     rw [e5, e6]
     go_simp
     exact hK.out _ _ ⟨_, fl, by simp [upd, e5, e6], by rw [getD_set_ne false (by decide)]; exact hbf, R'⟩
    ·obtain rfl := Option.some.inj ho
     have e0 : c 0 = (.agg #[.slice o l k']) := R.plain 0 _ (hdep ⟨0, .data⟩ (by simp) rfl) rfl
     have e7 : c 7 = (.agg #[.int .i64 4, .string nm, .int .i64 0, (.slice vo vs.length vc)]) := R.plain 7 _ (hdep ⟨7, .data⟩ (by simp) rfl) rfl
     rw [e0, e7]
     go_simp
     refine (apply_any w' _ qs2 ⟨4, nm, 0, vs⟩ vo vc ⟨_, rfl, HC2.out.below R.below⟩ HOK2.out (HV.out.below (HBa.out.trans (R.below.mono HBa.out.size)) (Nat.le_refl _)) (by show vs.length ≤ 100; omega)).mono ?_
     rw [HR2.out]
     rintro e w2 hres
     obtain ⟨o, l, k', ev, rfl, hg2, hb2⟩ := catG_of hres
     have R' := R.made hst hn (fun j hj => by simp [apD, bagQ] at hj; rcases hj with rfl | rfl <;> exact hdep ⟨_, .data⟩ (by simp) rfl) hb2 (v := .tuple #[.agg #[.slice o l k'], ev]) (fun u h => by cases h) (apS_0 ⟨o, l, k', ev, upd_self .., hg2⟩)
     clear R hg2 hb2 hres
     go_wp2_with fail
     exact hK.out _ _ ⟨_, fl, by simp [upd, e0, e7], by rw [getD_set_ne false (by decide)]; exact hbf, R'⟩
    ·obtain rfl := Option.some.inj ho
     have R' := R.made hst hn (fun j hj => by simp [apD, bagQ] at hj; subst hj; exact hdep ⟨_, .data⟩ (by simp) rfl) (Below.refl _ _) (v := c 8) (fun u h => by cases h) (apS_1 (q := 8) (show upd c 9 (c 8) 9 = upd c 9 (c 8) 8 by rw [upd_self, upd_ne _ _ (by decide)]))
     clear R
     go_simp
     exact hK.out _ _ ⟨_, fl, by simp [upd], by rw [getD_set_ne false (by decide)]; exact hbf, R'⟩
    ·obtain rfl := Option.some.inj ho
     have t1 := hdep ⟨9, .data⟩ (by simp) rfl
     have e1 : c 9 = c 8 := (R.spec 9 t1).2.1 rfl
     obtain ⟨o, l, k', ev, e0, -⟩ := (R.spec 8 (R.closed 9 t1 8 (by simp [apD]))).1 rfl
     rw [e0] at e1
     have R' := R.made hst hn (fun j hj => by simp [apD, bagQ] at hj; subst hj; exact hdep ⟨_, .data⟩ (by simp) rfl) (Below.refl _ _) (v := .agg #[.slice o l k']) (fun u h => by cases h) (apS_2 (q := 8) ⟨.agg #[.slice o l k'], ev, (upd_ne _ _ (by decide)).trans e1, upd_self ..⟩)
     clear R t1 e0
     rw [e1]
     go_simp
     exact hK.out _ _ ⟨_, fl, by simp [upd, e1], by rw [getD_set_ne false (by decide)]; exact hbf, R'⟩
    ·obtain rfl := Option.some.inj ho
     have t1 := hdep ⟨9, .data⟩ (by simp) rfl
     have e1 : c 9 = c 8 := (R.spec 9 t1).2.1 rfl
     obtain ⟨o, l, k', ev, e0, -⟩ := (R.spec 8 (R.closed 9 t1 8 (by simp [apD]))).1 rfl
     rw [e0] at e1
     have R' := R.made hst hn (fun j hj => by simp [apD, bagQ] at hj; subst hj; exact hdep ⟨_, .data⟩ (by simp) rfl) (Below.refl _ _) (v := ev) (fun u h => by cases h) (apS_3 (q := 8) ⟨.agg #[.slice o l k'], ev, (upd_ne _ _ (by decide)).trans e1, upd_self ..⟩)
     clear R t1 e0
     rw [e1]
     go_simp
     exact hK.out _ _ ⟨_, fl, by simp [upd, e1], by rw [getD_set_ne false (by decide)]; exact hbf, R'⟩
    ·obtain rfl := Option.some.inj ho
     have m7 := One.new w' (.slice none 0 0) 26
     have R' := R.made hst hn (fun j hj => absurd hj (by simp [apD, bagQ])) (alloc_below w' (.cells #[.slice none 0 0] 26)) (v := .pointer (some ⟨w'.heap.size, 0, none⟩)) (fun u h => by cases h) (apS_4 (q := 8) ⟨w'.heap.size, upd_self .., R.below.size, fun _ => m7⟩)
     clear R m7
     go_simp
     exact hK.out _ _ ⟨_, fl, by simp [upd], by rw [getD_set_ne false (by decide)]; exact hbf, R'⟩
    ·obtain rfl := Option.some.inj ho
     have t2 := hdep ⟨10, .data⟩ (by simp) rfl
     have t4 := hdep ⟨12, .data⟩ (by simp) rfl
     have hb0 : fl = false := by
      cases fl with
      | false => rfl
      | true => exact absurd hbf (listed_not hn)
     subst hb0
     have t1 := R.closed 10 t2 9 (by simp [apD])
     have e1 : c 9 = c 8 := (R.spec 9 t1).2.1 rfl
     obtain ⟨o, l, k', ev, e0, hg⟩ := (R.spec 8 (R.closed 9 t1 8 (by simp [apD]))).1 rfl
     obtain ⟨u2, f2, e2, e2'⟩ : ∃ u e, c 9 = .tuple #[u, e] ∧ c 10 = u := (R.spec 10 t2).2.2.1 rfl
     rw [e1, e0] at e2
     simp only [Value.tuple.injEq, Array.mk.injEq, List.cons.injEq, and_true] at e2
     obtain ⟨rfl, rfl⟩ := e2
     obtain ⟨B, e4, hCB, hbx⟩ : ∃ B, c 12 = .pointer (some ⟨B, 0, none⟩) ∧ w2.heap.size ≤ B ∧ (false = false → One w' B (.slice none 0 0)) := (R.spec 12 t4).2.2.2.2.1 rfl
     have hbx := hbx rfl
     have hg' := CatG.put HROK2.out hbx (.slice o l k') hg
     have R' := R.put (Sp' := (apS 8 (CatG r2) w2.heap.size true)) (v := undef) hn (fun j hj => by simp [apD, bagQ] at hj; rcases hj with rfl | rfl <;> exact hdep ⟨_, .data⟩ (by simp) rfl) (R.below.setCell (p := ⟨B, 0, none⟩) hCB (.slice o l k')) (fun u h => by cases h) (fun j hj hl hs => by
      obtain ⟨h0, h1, h2, h3, h4, h5, h6⟩ := hs
      refine ⟨fun e => ?_, fun e => ?_, fun e => ?_, fun e => ?_, fun e => ?_, fun e => absurd e hj, fun e => ?_⟩
      ·exact ⟨o, l, k', ev, (upd_ne _ _ (by decide)).trans e0, hg'⟩
      ·rw [upd_ne _ _ (by decide), upd_ne _ _ (by decide)]; exact h1 e
      ·rw [upd_ne _ _ (by decide), upd_ne _ _ (by decide)]; exact h2 e
      ·rw [upd_ne _ _ (by decide), upd_ne _ _ (by decide)]; exact h3 e
      ·obtain ⟨B', a1, a2, -⟩ := h4 e
       exact ⟨B', (upd_ne _ _ (by decide)).trans a1, a2, fun hf => by cases hf⟩
      ·rw [upd_ne _ _ (by decide), upd_ne _ _ (by decide)]; exact h6 e) (apS_5 (q := 8) ⟨B, .slice o l k', (upd_ne _ _ (by decide)).trans e4, (upd_ne _ _ (by decide)).trans e2', hCB, hbx.write _⟩)
     obtain ⟨z0, z1, -⟩ := hbx
     clear R hg hg' hst e1 e0 t1 t2 t4
     rw [e2', e4]
     go_simp
     exact hK.out _ _ ⟨_, true, by simp [upd, e2', e4], by first | exact listed_new hn | simp [hn], R'⟩
    ·obtain rfl := Option.some.inj ho
     have R' := R.made hst hn (fun j hj => by simp [apD, bagQ] at hj; subst hj; exact hdep ⟨_, .data⟩ (by simp) rfl) (Below.refl _ _) (v := c 11) (fun u h => by cases h) (apS_6 (q := 8) (show upd c 14 (c 11) 14 = upd c 14 (c 11) 11 by rw [upd_self, upd_ne _ _ (by decide)]))
     clear R
     go_simp
     exact hK.out _ _ ⟨_, fl, by simp [upd], by rw [getD_set_ne false (by decide)]; exact hbf, R'⟩
   rintro L a' w3 ⟨yc, fl, rfl, hbf, R⟩ hall
   obtain rfl : true = fl := (hall 13 (by decide)).symm.trans hbf
   obtain ⟨BE, o, l, k', ev, e4, e6, hCB, hbx, hg⟩ := ap_fin (q := 8) R (fun i hi => hall i hi)
   have e4 : yc 12 = .pointer (some ⟨BE, 0, none⟩) := e4
   have e6 : yc 14 = ev := e6
   have hb2 := R.below
   clear R hall hbf
   rw [e4, e6]
   rcases hg with ⟨hno, -⟩ | ⟨-, rfl, qs3, hq3, hc3⟩
   ·exact absurd (by rw [HR2X.out]) hno
   have XE := hide hbx
   have X5b := hide (X5a.out.later hb2); have HCRb := hide (HCRa.out.below hb2); have HCb := hide (HCa.out.below hb2); have HBb := hide (HBa.out.trans (hb2.mono HBa.out.size))
   have HINb := hide (HINa.out.below hb2)
   have hltw3 : b < w3.heap.size := Nat.lt_of_lt_of_le hltw2 hb2.size
   have d0 := (hb2.cell (p := ⟨b, off + k * 3, none⟩) hltw2).trans d0; have d1 := (hb2.cell (p := ⟨b, off + k * 3 + 1, none⟩) hltw2).trans d1; have d2 := (hb2.cell (p := ⟨b, off + k * 3 + 2, none⟩) hltw2).trans d2
   have hq3' : qs3.map (·.x) = (rs.map (·.x)).set k ⟨nm, n, gs⟩ := by rw [hq3, HR2X.out]
   have HC3 := hide hc3
   have HOK3 : Hid (CatOk (qs3.map (·.x))) := by show CatOk _; rw [hq3, ← HR2.out]; exact applyC_ok HOK2.out _ (by rw [HR2.out, HR2X.out])
   have HAS : Hid (hasL (qs3.map (·.x)) nm = true) := by show _ = true; rw [hq3']; exact HHAS.out
   have HFX : Hid (∀ (hP : placeL (qs3.map (·.x)) nm < (qs3.map (·.x)).length) (q : Nc), q.x = (qs3.map (·.x))[placeL (qs3.map (·.x)) nm] → q.x = ⟨nm, n, gs⟩) := fun hP q e => by
    rw [e]
    simp only [hq3', HPL.out, List.getElem_set_self]
   clear hb2 X5a HCRa HCa HBa HINa e4 e6 hbx hltw2 hc3 hq3 hq3' HROK2 HR2 HR2X HOK2 HQ2 HR HR0 XD HC2 hCB HHAS HPL
   go_wp2_with fail
   refine region_inv (by kernel_rfl) (by kernel_rfl) (fun L a' w' => ∃ (c : Nat → Value) (fl : Bool), a' = (⟨#[sl0, (.slice vo vs.length vc), sl2, sl3, u4, (.pointer (some ⟨B5, 0, none⟩)), sl6, sl7, sl8, sl9, (.slice (some ⟨b, off, none⟩) rs.length rcap), (.int .i64 (k : Int)), (.pointer (some ⟨BD, 0, none⟩)), .nilIface, (.pointer (some ⟨BE, 0, none⟩)), c 10, c 12, u17, u18, u19, u20, u21, u22, u23, sl24, sl25, sl26, sl27, sl28, sl29, sl30, sl31, sl32, sl33, sl34, sl35, sl36, sl37, sl38, sl39, sl40, sl41, sl42, sl43, sl44, sl45, sl46, sl47, sl48, sl49, sl50, sl51, sl52, sl53, sl54, sl55, sl56, sl57, sl58, sl59, sl60, sl61, sl62, sl63, sl64, (.agg #[.slice co cl ck]), (.slice (some ⟨b, off, none⟩) rs.length rcap), (.int .i64 (k : Int)), (.slice (some ⟨b, off, none⟩) rs.length rcap), (.int .i64 (rs.length : Int)), (.bool true), u71, u72, zc 9, zc 0, zc 1, zc 2, zc 3, zc 4, zc 5, zc 6, zc 7, zc 8, zc 10, zc 11, .nilIface, (.bool false), yc 9, yc 0, yc 1, yc 2, yc 3, yc 4, yc 5, yc 6, yc 7, yc 8, yc 10, yc 11, .nilIface, (.bool false), c 7, c 0, c 1, c 2, c 3, c 4, c 5, c 6, c 8, c 9, u111, u112, u113, u114, u115, u116, u117, u118, u119, u120, u121, u122, u123, u124, u125, u126, u127, u128, u129, u130, u131, u132, u133, u134, u135, u136, u137, u138, u139, u140, u141, u142, u143, u144, u145, u146, u147, u148, u149, u150, u151, u152, u153, u154, u155, u156, u157, u158, u159, u160, u161, u162, u163, u164, u165, u166, u167, u168, u169, u170, u171, u172, u173, u174, u175, u176, u177, u178, u179, u180, u181, u182, u183, u184, u185, u186, u187, u188, u189, u190, u191, u192, u193, u194], []⟩ : Act) ∧ L.getD 11 false = fl ∧ FS fiD (fun i => List.getD [some (.agg #[.slice o l k']), some (.slice (some ⟨b, off, none⟩) rs.length rcap), some (.int .i64 (k : Int)), some (.pointer (some ⟨b, off + k * 3, none⟩)), some (.pointer (some ⟨b, off + k * 3, none⟩)), some (.string nm)] i none) (fiS (⟨nm, n, gs⟩ : Nmd) w3.heap.size fl) w3 L c w' ∧ fiJ (⟨nm, n, gs⟩ : Nmd) L c w') ⟨fun i => List.getD [u102, u103, u104, u105, u106, u107, u108, u101, u109, u110, u15, undef, u16] i undef, false, rfl, by simp [Array.getD], FS.start _ _ _, fun h _ => by simp [Array.getD] at h⟩ ?_ ?_
   ·rintro L a' w' i o ⟨c, fl, rfl, hbf, R, J⟩ ho hn hdep K hK
    have hi : i < 13 := (Array.getElem?_eq_some_iff.1 ho).1
    have hst := fiStays (⟨nm, n, gs⟩ : Nmd) w3.heap.size fl
    rcases (by omega : i = 0 ∨ i = 1 ∨ i = 2 ∨ i = 3 ∨ i = 4 ∨ i = 5 ∨ i = 6 ∨ i = 7 ∨ i = 8 ∨ i = 9 ∨ i = 10 ∨ i = 11 ∨ i = 12) with rfl | rfl | rfl | rfl | rfl | rfl | rfl | rfl | rfl | rfl | rfl | rfl | rfl
    ·obtain rfl := Option.some.inj ho
     obtain ⟨p0, -, -⟩ := XE.out.later R.below
     have R' := R.made hst hn (fun j hj => absurd hj (by simp [fiD])) (Below.refl _ _) (v := (.agg #[.slice o l k'])) (fun u h => Option.some.inj h) (fiS_p (by decide))
     have J' := J.other (Below.refl _ _) 0 (by decide) (by decide) (.agg #[.slice o l k'])
     clear R J
     go_simp
     exact hK.out _ _ ⟨_, fl, by simp [upd], by rw [getD_set_ne false (by decide)]; exact hbf, R', J'⟩
    ·obtain rfl := Option.some.inj ho
     have R' := R.made hst hn (fun j hj => absurd hj (by simp [fiD])) (Below.refl _ _) (v := (.slice (some ⟨b, off, none⟩) rs.length rcap)) (fun u h => Option.some.inj h) (fiS_p (by decide))
     have J' := J.other (Below.refl _ _) 1 (by decide) (by decide) (.slice (some ⟨b, off, none⟩) rs.length rcap)
     clear R J
     go_simp
     exact hK.out _ _ ⟨_, fl, by simp [upd], by rw [getD_set_ne false (by decide)]; exact hbf, R', J'⟩
    ·obtain rfl := Option.some.inj ho
     have R' := R.made hst hn (fun j hj => absurd hj (by simp [fiD])) (Below.refl _ _) (v := (.int .i64 (k : Int))) (fun u h => Option.some.inj h) (fiS_p (by decide))
     have J' := J.other (Below.refl _ _) 2 (by decide) (by decide) (.int .i64 (k : Int))
     clear R J
     go_simp
     exact hK.out _ _ ⟨_, fl, by simp [upd], by rw [getD_set_ne false (by decide)]; exact hbf, R', J'⟩
    ·obtain rfl := Option.some.inj ho
     have e1 : c 1 = (.slice (some ⟨b, off, none⟩) rs.length rcap) := R.plain 1 _ (hdep ⟨1, .data⟩ (by simp) rfl) rfl
     have e2 : c 2 = (.int .i64 (k : Int)) := R.plain 2 _ (hdep ⟨2, .data⟩ (by simp) rfl) rfl
     have R' := R.made hst hn (fun j hj => by simp [fiD] at hj; rcases hj with rfl | rfl <;> exact hdep ⟨_, .data⟩ (by simp) rfl) (Below.refl _ _) (v := (.pointer (some ⟨b, off + k * 3, none⟩))) (fun u h => Option.some.inj h) (fiS_p (by decide))
     have J' := J.other (Below.refl _ _) 3 (by decide) (by decide) (.pointer (some ⟨b, off + k * 3, none⟩))
     clear R J
     rw [e1, e2]
     go_simp
     exact hK.out _ _ ⟨_, fl, by simp [upd, e1, e2], by rw [getD_set_ne false (by decide)]; exact hbf, R', J'⟩
    ·obtain rfl := Option.some.inj ho
     have e3 : c 3 = (.pointer (some ⟨b, off + k * 3, none⟩)) := R.plain 3 _ (hdep ⟨3, .data⟩ (by simp) rfl) rfl
     have R' := R.made hst hn (fun j hj => by simp [fiD] at hj; subst hj; exact hdep ⟨_, .data⟩ (by simp) rfl) (Below.refl _ _) (v := (.pointer (some ⟨b, off + k * 3, none⟩))) (fun u h => Option.some.inj h) (fiS_p (by decide))
     have J' := J.other (Below.refl _ _) 4 (by decide) (by decide) (.pointer (some ⟨b, off + k * 3, none⟩))
     clear R J
     rw [e3]
     go_simp
     exact hK.out _ _ ⟨_, fl, by simp [upd, e3], by rw [getD_set_ne false (by decide)]; exact hbf, R', J'⟩
    ·obtain rfl := Option.some.inj ho
     have e4 : c 4 = (.pointer (some ⟨b, off + k * 3, none⟩)) := R.plain 4 _ (hdep ⟨4, .data⟩ (by simp) rfl) rfl
     have q0 := (R.below.cell (p := ⟨b, off + k * 3, none⟩) hltw3).trans d0
     have R' := R.made hst hn (fun j hj => by simp [fiD] at hj; subst hj; exact hdep ⟨_, .data⟩ (by simp) rfl) (Below.refl _ _) (v := (.string nm)) (fun u h => Option.some.inj h) (fiS_p (by decide))
     have J' := J.other (Below.refl _ _) 5 (by decide) (by decide) (.string nm)
     clear R J
     rw [e4]
     go_simp
     exact hK.out _ _ ⟨_, fl, by simp [upd, e4], by rw [getD_set_ne false (by decide)]; exact hbf, R', J'⟩
    ·obtain rfl := Option.some.inj ho
     have e0 : c 0 = (.agg #[.slice o l k']) := R.plain 0 _ (hdep ⟨0, .data⟩ (by simp) rfl) rfl
     have e5 : c 5 = (.string nm) := R.plain 5 _ (hdep ⟨5, .data⟩ (by simp) rfl) rfl
     rw [e0, e5]
     go_simp
     refine (find_any w' _ qs3 nm ⟨_, rfl, HC3.out.below R.below⟩ HOK3.out).mono ?_
     rintro e w2 hres
     obtain ⟨⟨hno, -⟩ | ⟨hP, q, hyes, rfl, hqx, hfr⟩, hb2⟩ := hres
     ·exact absurd hno (by rw [HAS.out]; decide)
     have hqX := HFX.out hP q hqx
     have R' := R.made hst hn (fun j hj => by simp [fiD] at hj; rcases hj with rfl | rfl <;> exact hdep ⟨_, .data⟩ (by simp) rfl) hb2 (v := .tuple #[q.val, .nilIface]) (fun u h => by cases h) (fiS_0 ⟨q, upd_self .., hqX, fun _ => ⟨_, hfr⟩⟩)
     have J' := fiJ.call R q hqX hfr
     clear R J hfr hb2 hqx hqX hyes
     go_wp2_with fail
     exact hK.out _ _ ⟨_, fl, by simp [upd, e0, e5], by rw [getD_set_ne false (by decide)]; exact hbf, R', J'⟩
    ·obtain rfl := Option.some.inj ho
     have R' := R.made hst hn (fun j hj => by simp [fiD] at hj; subst hj; exact hdep ⟨_, .data⟩ (by simp) rfl) (Below.refl _ _) (v := c 6) (fun u h => by cases h) (fiS_1 (show upd c 7 (c 6) 7 = upd c 7 (c 6) 6 by rw [upd_self, upd_ne _ _ (by decide)]))
     have J' := J.other (Below.refl _ _) 7 (by decide) (by decide) (c 6)
     clear R J
     go_simp
     exact hK.out _ _ ⟨_, fl, by simp [upd], by rw [getD_set_ne false (by decide)]; exact hbf, R', J'⟩
    ·obtain rfl := Option.some.inj ho
     have t1 := hdep ⟨7, .data⟩ (by simp) rfl
     have e1 : c 7 = c 6 := (R.spec 7 t1).2.1 rfl
     obtain ⟨q, e0, -, -⟩ := (R.spec 6 (R.closed 7 t1 6 (by simp [fiD]))).1 rfl
     rw [e0] at e1
     have R' := R.made hst hn (fun j hj => by simp [fiD] at hj; subst hj; exact hdep ⟨_, .data⟩ (by simp) rfl) (Below.refl _ _) (v := q.val) (fun u h => by cases h) (fiS_2 ⟨q.val, .nilIface, (upd_ne _ _ (by decide)).trans e1, upd_self ..⟩)
     have J' := J.other (Below.refl _ _) 8 (by decide) (by decide) q.val
     clear R J t1 e0
     rw [e1]
     go_simp
     exact hK.out _ _ ⟨_, fl, by simp [upd, e1], by rw [getD_set_ne false (by decide)]; exact hbf, R', J'⟩
    ·obtain rfl := Option.some.inj ho
     have t1 := hdep ⟨7, .data⟩ (by simp) rfl
     have e1 : c 7 = c 6 := (R.spec 7 t1).2.1 rfl
     obtain ⟨q, e0, -, -⟩ := (R.spec 6 (R.closed 7 t1 6 (by simp [fiD]))).1 rfl
     rw [e0] at e1
     have R' := R.made hst hn (fun j hj => by simp [fiD] at hj; subst hj; exact hdep ⟨_, .data⟩ (by simp) rfl) (Below.refl _ _) (v := .nilIface) (fun u h => by cases h) (fiS_3 ⟨q.val, .nilIface, (upd_ne _ _ (by decide)).trans e1, upd_self ..⟩)
     have J' := J.other (Below.refl _ _) 9 (by decide) (by decide) .nilIface
     clear R J t1 e0
     rw [e1]
     go_simp
     exact hK.out _ _ ⟨_, fl, by simp [upd, e1], by rw [getD_set_ne false (by decide)]; exact hbf, R', J'⟩
    ·obtain rfl := Option.some.inj ho
     have m7 := BoxT.new w' (.string ⟨#[]⟩) (.int .i64 0) (.slice none 0 0) 37
     have hbA := alloc_below w' (.cells #[.string ⟨#[]⟩, .int .i64 0, .slice none 0 0] 37)
     have hsz : w'.heap.size < (w'.alloc (.cells #[.string ⟨#[]⟩, .int .i64 0, .slice none 0 0] 37)).heap.size := m7.1.2.2.2
     have J' : fiJ (⟨nm, n, gs⟩ : Nmd) (L.setIfInBounds 10 true) (upd c 10 (.pointer (some ⟨w'.heap.size, 0, none⟩))) (w'.alloc (.cells #[.string ⟨#[]⟩, .int .i64 0, .slice none 0 0] 37)) := by
      cases fl with
      | false => exact fiJ.var R hbA
      | true => exact fun l6 _ => absurd (R.closed 11 (hbf) 10 (by simp [fiD])) (listed_not hn)
     have R' := R.made hst hn (fun j hj => absurd hj (by simp [fiD])) hbA (v := .pointer (some ⟨w'.heap.size, 0, none⟩)) (fun u h => by cases h) (fiS_4 ⟨w'.heap.size, upd_self .., R.below.size, hsz, fun _ => m7⟩)
     clear R J m7 hbA hsz
     go_simp
     exact hK.out _ _ ⟨_, fl, by simp [upd], by rw [getD_set_ne false (by decide)]; exact hbf, R', J'⟩
    ·obtain rfl := Option.some.inj ho
     have t2 := hdep ⟨8, .data⟩ (by simp) rfl
     have t4 := hdep ⟨10, .data⟩ (by simp) rfl
     have hb0 : fl = false := by
      cases fl with
      | false => rfl
      | true => exact absurd hbf (listed_not hn)
     subst hb0
     have t1 := R.closed 8 t2 7 (by simp [fiD])
     have e1 : c 7 = c 6 := (R.spec 7 t1).2.1 rfl
     obtain ⟨q, B, e0, e4, hqX, haw⟩ := J (R.closed 7 t1 6 (by simp [fiD])) t4
     obtain ⟨u2, f2, e2, e2'⟩ : ∃ u e, c 7 = .tuple #[u, e] ∧ c 8 = u := (R.spec 8 t2).2.2.1 rfl
     rw [e1, e0] at e2
     simp only [Value.tuple.injEq, Array.mk.injEq, List.cons.injEq, and_true] at e2
     obtain ⟨rfl, rfl⟩ := e2
     obtain ⟨B', e4', hCB, hBs, hbx⟩ : ∃ B, c 10 = .pointer (some ⟨B, 0, none⟩) ∧ w3.heap.size ≤ B ∧ B < w'.heap.size ∧ (false = false → BoxT w' B (.string ⟨#[]⟩) (.int .i64 0) (.slice none 0 0)) := (R.spec 10 t4).2.2.2.2.1 rfl
     rw [e4] at e4'
     simp only [Value.pointer.injEq, Option.some.injEq, Addr.mk.injEq, and_true] at e4'
     subst e4'
     have hbx := hbx rfl
     have hbf' := hbx.fill (.string q.x.name) (.int .i64 q.x.n) (.slice q.o q.l q.c)
     have haw' := ((haw.set (p := ⟨B, 0, none⟩) rfl (.string q.x.name)).set (p := ⟨B, 1, none⟩) rfl (.int .i64 q.x.n)).set (p := ⟨B, 2, none⟩) rfl (.slice q.o q.l q.c)
     have hbb := ((R.below.setCell (p := ⟨B, 0, none⟩) hCB (.string q.x.name)).setCell (p := ⟨B, 1, none⟩) hCB (.int .i64 q.x.n)).setCell (p := ⟨B, 2, none⟩) hCB (.slice q.o q.l q.c)
     have R' := R.put (Sp' := (fiS (⟨nm, n, gs⟩ : Nmd) w3.heap.size true)) (v := undef) hn (fun j hj => by simp [fiD] at hj; rcases hj with rfl | rfl <;> exact hdep ⟨_, .data⟩ (by simp) rfl) hbb (fun u h => by cases h) (fun j hj hl hs => by
      obtain ⟨h0, h1, h2, h3, h4, h5, h6⟩ := hs
      refine ⟨fun e => ?_, fun e => ?_, fun e => ?_, fun e => ?_, fun e => ?_, fun e => absurd e hj, fun e => ?_⟩
      ·exact ⟨q, (upd_ne _ _ (by decide)).trans e0, hqX, fun hf => by cases hf⟩
      ·rw [upd_ne _ _ (by decide), upd_ne _ _ (by decide)]; exact h1 e
      ·rw [upd_ne _ _ (by decide), upd_ne _ _ (by decide)]; exact h2 e
      ·rw [upd_ne _ _ (by decide), upd_ne _ _ (by decide)]; exact h3 e
      ·exact ⟨B, (upd_ne _ _ (by decide)).trans e4, hCB, by simpa using hBs, fun hf => by cases hf⟩
      ·rw [upd_ne _ _ (by decide), upd_ne _ _ (by decide)]; exact h6 e) (fiS_5 ⟨B, _, _, _, (upd_ne _ _ (by decide)).trans e4, (upd_ne _ _ (by decide)).trans e2', hCB, hbf'⟩)
     have J' : fiJ (⟨nm, n, gs⟩ : Nmd) (L.setIfInBounds 11 true) (upd c 11 undef) _ := fun _ _ => ⟨q, B, (upd_ne _ _ (by decide)).trans e0, (upd_ne _ _ (by decide)).trans e4, hqX, haw'⟩
     obtain ⟨⟨a0, a1, a2, -⟩, hfz⟩ := hbx
     have f0 := hfz 0; have f1 := hfz 1; have f2 := hfz 2
     clear R J hst e1 e0 t1 t2 t4 haw haw' hbb hbf' hfz hqX hBs hCB
     rw [e2', e4]
     simp only [Nc.val]
     go_simp
     exact hK.out _ _ ⟨_, true, by simp [upd, e2', e4, Nc.val], by first | exact listed_new hn | simp [hn], R', J'⟩
    ·obtain rfl := Option.some.inj ho
     have R' := R.made hst hn (fun j hj => by simp [fiD] at hj; subst hj; exact hdep ⟨_, .data⟩ (by simp) rfl) (Below.refl _ _) (v := c 9) (fun u h => by cases h) (fiS_6 (show upd c 12 (c 9) 12 = upd c 12 (c 9) 9 by rw [upd_self, upd_ne _ _ (by decide)]))
     have J' := J.other (Below.refl _ _) 12 (by decide) (by decide) (c 9)
     clear R J
     go_simp
     exact hK.out _ _ ⟨_, fl, by simp [upd], by rw [getD_set_ne false (by decide)]; exact hbf, R', J'⟩
   rintro L a' w4 ⟨xc, fl, rfl, hbf, R, J⟩ hall
   obtain rfl : true = fl := (hall 11 (by decide)).symm.trans hbf
   obtain ⟨BX, qx, e4, e6, hCB, hqx, hbx, hnc⟩ := fi_fin R J (fun i hi => hall i hi)
   have hb2 := R.below
   clear R J hall hbf
   rw [e4, e6]
   obtain ⟨⟨nm2, n2, gens2⟩, go2, gl2, gc2⟩ := qx
   have hq1 : nm2 = nm := congrArg Nmd.name hqx
   have hq2 : n2 = n := congrArg Nmd.n hqx
   have hq3 : gens2 = gs := congrArg Nmd.gens hqx
   clear hqx
   obtain rfl : nm = nm2 := hq1.symm
   obtain rfl : n = n2 := hq2.symm
   obtain rfl : gs = gens2 := hq3.symm
   clear hq1 hq2 hq3
   dsimp only at hbx
   have hgl : gl = gens.length := NcIn.len HINb.out
   have hgl2 : gl2 = gs.length := NcIn.len hnc
   rw [HPERM.out.length_eq, ← hgl] at hgl2
   obtain rfl : gl = gl2 := hgl2.symm
   have HNO : Hid (NmOk ⟨nm, n, gens⟩) := HOK.out.all _ (by rw [← HRS.out]; exact List.mem_map.2 ⟨rs[k], List.getElem_mem hkl, by rw [HQ.out]⟩)
   have HNO2 : Hid (NmOk ⟨nm, n, gs⟩) := withG_ok HNO.out HPERM.out
   have HNO3 : Hid (NmOk ⟨nm, n, gs.reverse⟩) := withG_ok HNO.out ((List.reverse_perm gs).trans HPERM.out)
   have hg10 : gl ≤ 10 := by rw [hgl]; exact HNO.out.few
   have XX := hide hbx; have HXIN : Hid (NcIn w4 ⟨⟨nm, n, gs⟩, go2, gl, gc2⟩) := hnc
   have D := hide (NcAt.later (W := w3) (b := b) (i := off + k * 3) ⟨hltw3, d0, d1, d2⟩ hb2)
   have HGL := hide hgl
   have X5 := hide (X5b.out.later hb2); have HCR := hide (HCRb.out.below hb2); have HC := hide (HCb.out.below hb2); have HIN := hide (HINb.out.below hb2); have HB := hide (HBb.out.trans (hb2.mono HBb.out.size))
   clear hb2 X5b HCRb HCb HBb HINb e4 e6 hbx hltw3 d0 d1 d2 HC3 HOK3 HAS HFX XE hnc hgl hgl2 hCB
   obtain ⟨-, d0, d1, d2⟩ := D.out
   go_wp2_with fail
   clear d0 d1 d2
   refine (bbasis_any w4 ⟨⟨nm, n, gens⟩, go, gl, gc⟩ HIN.out HNO.out.sizes.1 HNO.out.sizes.2).mono ?_
   rintro e w5 ⟨⟨hbad, -⟩ | ⟨N5, u5x, hs1, -, hn5, hN1, hN4, rfl, hl5, ha5⟩, hb5⟩
   ·exact absurd (nmF_ok.2 HNO.out) hbad
   obtain ⟨N, hNN⟩ : ∃ N, N5 = N := ⟨_, rfl⟩
   subst hNN
   have hn5 : n = (N5 : Int) := hn5
   subst hn5
   generalize N5 = N at *
   obtain ⟨⟨ux, rfl, ⟨uo, uc, rfl, -, -⟩⟩, hf5⟩ := id hl5
   have L1 := hide hl5; have HA1 := hide ha5; have HF1 := hide hf5; have HN1 := hide hN1; have HN4 := hide hN4
   clear hl5 ha5 hf5 hN1 hN4
   have X5' := hide (X5.out.later hb5)
   clear X5
   have X5 := X5'
   clear X5'
   have HCR' := hide (HCR.out.below hb5)
   clear HCR
   have HCR := HCR'
   clear HCR'
   have HC' := hide (HC.out.below hb5)
   clear HC
   have HC := HC'
   clear HC'
   have XX' := hide (XX.out.later hb5)
   clear XX
   have XX := XX'
   clear XX'
   have HXIN' := hide (HXIN.out.below hb5)
   clear HXIN
   have HXIN := HXIN'
   clear HXIN'
   have D' := hide (D.out.later hb5)
   clear D
   have D := D'
   clear D'
   have HB' := hide (HB.out.trans (hb5.mono HB.out.size))
   clear HB
   have HB := HB'
   clear HB'
   clear hb5 HIN
   have hNw := below_new w5 (.cells #[.int .i64 (N : Int), .slice uo hs1.length uc] 43)
   have X17 := hide (BoxL.new w5 (.int .i64 (N : Int)) (.slice uo hs1.length uc) 43)
   have X5' := hide (X5.out.later hNw)
   clear X5
   have X5 := X5'
   clear X5'
   have HCR' := hide (HCR.out.below hNw)
   clear HCR
   have HCR := HCR'
   clear HCR'
   have HC' := hide (HC.out.below hNw)
   clear HC
   have HC := HC'
   clear HC'
   have XX' := hide (XX.out.later hNw)
   clear XX
   have XX := XX'
   clear XX'
   have HXIN' := hide (HXIN.out.below hNw)
   clear HXIN
   have HXIN := HXIN'
   clear HXIN'
   have D' := hide (D.out.later hNw)
   clear D
   have D := D'
   clear D'
   have L1' := hide (L1.out.below hNw)
   clear L1
   have L1 := L1'
   clear L1'
   have HB' := hide (HB.out.trans (hNw.mono HB.out.size))
   clear HB
   have HB := HB'
   clear HB'
   clear hNw
   obtain ⟨⟨x0, x1, x2, -⟩, -⟩ := XX.out
   go_wp2_with fail
   clear x0 x1 x2
   generalize w5.alloc (.cells #[.int .i64 (N : Int), .slice uo hs1.length uc] 43) = W5 at *
   generalize w5.heap.size = B17 at *
   refine (bbasis_any W5 ⟨⟨nm, (N : Int), gs⟩, go2, gl, gc2⟩ HXIN.out HNO2.out.sizes.1 HNO2.out.sizes.2).mono ?_
   rintro e w6 ⟨⟨hbad, -⟩ | ⟨N6, u6x, hs2, -, hn6, hN1, hN4, rfl, hl6, ha6⟩, hb6⟩
   ·exact absurd (nmF_ok.2 HNO2.out) hbad
   have hn6 : (N : Int) = (N6 : Int) := hn6
   obtain rfl : N = N6 := by omega
   obtain ⟨⟨uy, rfl, ⟨yo, yk, rfl, -, -⟩⟩, hf6⟩ := id hl6
   obtain rfl : hs1 = hs2 := form_perm HF1.out hf6 HA1.out ha6 (fun v => HPERM.out.mem_iff.symm)
   have L2 := hide hl6
   clear hl6 ha6 hf6 hN1 hN4 hn6
   have X5' := hide (X5.out.later hb6)
   clear X5
   have X5 := X5'
   clear X5'
   have HCR' := hide (HCR.out.below hb6)
   clear HCR
   have HCR := HCR'
   clear HCR'
   have HC' := hide (HC.out.below hb6)
   clear HC
   have HC := HC'
   clear HC'
   have XX' := hide (XX.out.later hb6)
   clear XX
   have XX := XX'
   clear XX'
   have HXIN' := hide (HXIN.out.below hb6)
   clear HXIN
   have HXIN := HXIN'
   clear HXIN'
   have D' := hide (D.out.later hb6)
   clear D
   have D := D'
   clear D'
   have L1' := hide (L1.out.below hb6)
   clear L1
   have L1 := L1'
   clear L1'
   have X17' := hide (X17.out.later hb6)
   clear X17
   have X17 := X17'
   clear X17'
   have HB' := hide (HB.out.trans (hb6.mono HB.out.size))
   clear HB
   have HB := HB'
   clear HB'
   clear hb6
   have hNw := below_new w6 (.cells #[.int .i64 (N : Int), .slice yo hs1.length yk] 43)
   have X19 := hide (BoxL.new w6 (.int .i64 (N : Int)) (.slice yo hs1.length yk) 43)
   have X5' := hide (X5.out.later hNw)
   clear X5
   have X5 := X5'
   clear X5'
   have HCR' := hide (HCR.out.below hNw)
   clear HCR
   have HCR := HCR'
   clear HCR'
   have HC' := hide (HC.out.below hNw)
   clear HC
   have HC := HC'
   clear HC'
   have XX' := hide (XX.out.later hNw)
   clear XX
   have XX := XX'
   clear XX'
   have HXIN' := hide (HXIN.out.below hNw)
   clear HXIN
   have HXIN := HXIN'
   clear HXIN'
   have D' := hide (D.out.later hNw)
   clear D
   have D := D'
   clear D'
   have L1' := hide (L1.out.below hNw)
   clear L1
   have L1 := L1'
   clear L1'
   have X17' := hide (X17.out.later hNw)
   clear X17
   have X17 := X17'
   clear X17'
   have L2' := hide (L2.out.below hNw)
   clear L2
   have L2 := L2'
   clear L2'
   have HB' := hide (HB.out.trans (hNw.mono HB.out.size))
   clear HB
   have HB := HB'
   clear HB'
   clear hNw
   go_wp2_with fail
   generalize w6.alloc (.cells #[.int .i64 (N : Int), .slice yo hs1.length yk] 43) = W6 at *
   generalize w6.heap.size = B19 at *
   obtain ⟨⟨y0, y1, -, -⟩, -⟩ := X17.out
   obtain ⟨⟨z0, z1, -, -⟩, -⟩ := X19.out
   obtain ⟨⟨-, -, x2, -⟩, -⟩ := XX.out
   obtain ⟨-, -, -, d2⟩ := D.out
   go_region_held3 (fun w' => w'.cell? ⟨B17, 0, none⟩ = some (.int .i64 (N : Int)) ∧ w'.cell? ⟨B17, 1, none⟩ = some (.slice uo hs1.length uc) ∧ w'.cell? ⟨B19, 0, none⟩ = some (.int .i64 (N : Int)) ∧ w'.cell? ⟨B19, 1, none⟩ = some (.slice yo hs1.length yk) ∧ w'.cell? ⟨BX, 2, none⟩ = some (.slice go2 gl gc2) ∧ w'.cell? ⟨b, off + k * 3 + 2, none⟩ = some (.slice go gl gc)) (go_keep)
    (first | (go_at_call 9; refine (alikeB_any _ _ _ N (N * 2 + 2) (N * 2 + 2) hs1 hs1 (L1.out.below (Below.refl _ _).drew) (L2.out.below (Below.refl _ _).drew) (by have := HN4.out; omega)).mono ?_; rintro e w8 ⟨rfl, hb8'⟩; rw [decide_eq_true (rfl : hs1 = hs1)]; have hb8 : Below W6.heap.size W6 w8 := (Below.refl _ _).drew.trans (hb8'.mono (by simp)); clear hb8'; obtain ⟨⟨j0, j1, -, -⟩, -⟩ := X17.out.later hb8; obtain ⟨⟨j2, j3, -, -⟩, -⟩ := X19.out.later hb8; obtain ⟨⟨-, -, j4, -⟩, -⟩ := XX.out.later hb8; obtain ⟨-, -, -, j5⟩ := D.out.later hb8))
   clear y0 y1 z0 z1 x2 d2 j0 j1 j2 j3 j4 j5 L2 X19
   have X5' := hide (X5.out.later hb8)
   clear X5
   have X5 := X5'
   clear X5'
   have HCR' := hide (HCR.out.below hb8)
   clear HCR
   have HCR := HCR'
   clear HCR'
   have HC' := hide (HC.out.below hb8)
   clear HC
   have HC := HC'
   clear HC'
   have XX' := hide (XX.out.later hb8)
   clear XX
   have XX := XX'
   clear XX'
   have HXIN' := hide (HXIN.out.below hb8)
   clear HXIN
   have HXIN := HXIN'
   clear HXIN'
   have D' := hide (D.out.later hb8)
   clear D
   have D := D'
   clear D'
   have L1' := hide (L1.out.below hb8)
   clear L1
   have L1 := L1'
   clear L1'
   have X17' := hide (X17.out.later hb8)
   clear X17
   have X17 := X17'
   clear X17'
   have HB' := hide (HB.out.trans (hb8.mono HB.out.size))
   clear HB
   have HB := HB'
   clear HB'
   clear hb8
   obtain ⟨ps, hps, hsq, hgi⟩ := rowsS_seq HXIN.out
   have hps : ps.map (·.2) = gs := hps
   have hpl : ps.length = gl := by have h1 := congrArg List.length hps; have h2 := HPERM.out.length_eq; have h3 := HGL.out; rw [List.length_map] at h1; omega
   rw [hpl] at hsq
   have HPL := hide hpl; have HSQ := hide hsq; have HGI := hide hgi; have HPS := hide hps
   clear hpl hsq hgi hps HXIN
   have hn1 := alloc_below w8 (.cells #[.string ⟨#[]⟩, .int .i64 0, .slice none 0 0] 37); have hn2 := alloc_below w8 (.cells #[.string nm, .int .i64 0, .slice none 0 0] 37); have hn3 := alloc_below w8 (.cells #[.string nm, .int .i64 (N : Int), .slice none 0 0] 37)
   obtain ⟨-, d0, -, -⟩ := D.out.later hn1
   obtain ⟨-, -, d1, -⟩ := D.out.later hn2
   obtain ⟨⟨-, -, x2, -⟩, -⟩ := XX.out.later hn3
   clear hn1 hn2 hn3 D
   go_wp2_with fail
   clear d0 d1 x2
   have HK0 := hide (BackI.start w8 ps nm (N : Int) 37)
   go_loopw [22] (fun x wr => ∃ (m : Nat) (zo : Option Addr) (zc : Nat), m ≤ gl ∧ x = .int .i64 ((gl : Int) - 1 - m) ∧ Hid (BackI w8 wr ps m nm (N : Int) zo zc)) (fun x _ => (intOf x + 1).toNat)
   case atStart => exact ⟨0, none, 0, Nat.zero_le _, by simp, HK0⟩
   case round =>
    clear HK0
    obtain ⟨m, zo, zc, hm, rfl, HBK⟩ := hrel
    by_cases hml : m < gl
    ·obtain ⟨j, hj⟩ : ∃ j : Nat, (gl : Int) - 1 - m = (j : Int) := ⟨gl - 1 - m, by omega⟩
     have HJ := hide hj
     have hjl : j < gl := by omega
     rw [hj]
     clear hj
     obtain ⟨xo', xc', e, -, hh⟩ := HSQ.out
     simp only [Value.slice.injEq, true_and] at e
     obtain ⟨rfl, rfl⟩ := e
     obtain ⟨gb, goff, rfl, hlt, hc⟩ := hh (by omega)
     have HPJ : Hid (j < ps.length) := by have h1 := HPL.out; show _ < _; omega
     obtain ⟨pj, hpj⟩ : ∃ pj, ps[j]? = some pj := ⟨_, List.getElem?_eq_getElem HPJ.out⟩
     have cu8 := hc j pj.1 (by rw [List.getElem?_map, hpj]; rfl)
     obtain ⟨ro, rc, hpe⟩ := RowS.form (HGI.out _ (List.mem_of_getElem? hpj))
     obtain ⟨lj, hlj⟩ : ∃ l, pj.2.length = l := ⟨_, rfl⟩
     rw [hlj] at hpe
     rw [hpe] at cu8
     have HPE := hide hpe
     have HREV : Hid (ps.reverse[m]? = some pj) := by have h1 := HPL.out; have h2 := HJ.out; show _ = _; rw [List.getElem?_reverse (by omega), show ps.length - 1 - m = j by omega]; exact hpj
     have cu := (HBK.out.below.cell (p := ⟨gb, goff + j, none⟩) hlt).trans cu8
     obtain ⟨⟨-, -, x2, hxl⟩, -⟩ := XX.out.later HBK.out.below
     obtain ⟨⟨-, -, kb2, kbl⟩, kfz⟩ := HBK.out.box
     have kf2 := kfz 2
     have hglt : gb < wr.heap.size := Nat.lt_of_lt_of_le hlt HBK.out.below.size
     have hXlt : BX < w8.heap.size := XX.out.1.2.2.2
     obtain ⟨o', c', W', hr4, hw4, hb4⟩ := gens_snoc wr.drew (w8.heap.size + 1) (by show w8.heap.size + 1 ≤ wr.heap.size; omega) (.slice zo m zc) m _ (ownsRow_later HBK.out.own (Below.refl wr.heap.size wr).drew) ro lj rc (by omega)
     have hbA := alloc_below wr.drew (.cells #[.slice ro lj rc] 23)
     have f0 := (hbA.cell (p := ⟨w8.heap.size, 2, none⟩) kbl).trans kb2; have f1 := (hbA.cell (p := ⟨BX, 2, none⟩) hxl).trans x2; have f2 := (hbA.cell (p := ⟨gb, goff + j, none⟩) hglt).trans cu
     have g0 := (hb4.cell (p := ⟨w8.heap.size, 2, none⟩) (Nat.lt_succ_self w8.heap.size)).trans kb2; have g1 := (hb4.cell (p := ⟨BX, 2, none⟩) (Nat.lt_succ_of_lt hXlt)).trans x2; have g2 := (hb4.cell (p := ⟨gb, goff + j, none⟩) (Nat.lt_succ_of_lt hlt)).trans cu
     have g3 := (hb4.frozen (p := ⟨w8.heap.size, 2, none⟩) (Nat.lt_succ_self w8.heap.size)).trans kf2
     have HR4 := hide hr4
     have HSTEP := hide (HBK.out.step (by have := HPJ.out; have h1 := HPL.out; omega) HREV.out HPE.out hw4 ((Below.refl _ _).drew.trans hb4))
     clear hr4 hw4 hb4 hbA hh hc hpe hpj HREV HPE hlj cu8 kfz
     go_wp2_with fail
     refine up_start (A := fun j => decide (j = 1 ∨ j = 3 ∨ j = 5 ∨ j = 6 ∨ j = 7 ∨ j = 8)) (S := (fun w' => w'.cell? ⟨w8.heap.size, 2, none⟩ = some (.slice zo m zc) ∧ w'.cell? ⟨BX, 2, none⟩ = some (.slice (some ⟨gb, goff, none⟩) gl gc2) ∧ w'.cell? ⟨gb, goff + j, none⟩ = some (.slice ro lj rc))) (by kernel_rfl) (by exact ⟨kb2, x2, cu⟩) (fun hHeld => ?_)
     refine up_pure (v := ?_) 0 172 rfl rfl (by kernel_rfl) (by kernel_rfl) (by kernel_rfl) (by kernel_rfl) (fun _ _ _ h => h) (by rfl) ?_ ?_
     rotate_left
     ·(intro w; go_simp; with_reducible rfl)
     simp only [Act.put, List.setIfInBounds_toArray, List.set_cons_zero, List.set_cons_succ]
     refine up_pure (v := ?_) 2 174 rfl rfl (by kernel_rfl) (by kernel_rfl) (by kernel_rfl) (by kernel_rfl) (fun _ _ _ h => h) (by rfl) ?_ ?_
     rotate_left
     ·(intro w; go_simp; with_reducible rfl)
     simp only [Act.put, List.setIfInBounds_toArray, List.set_cons_zero, List.set_cons_succ]
     refine up_pure (v := ?_) 4 176 rfl rfl (by kernel_rfl) (by kernel_rfl) (by kernel_rfl) (by kernel_rfl) (fun _ _ _ h => h) (by rfl) ?_ ?_
     rotate_left
     ·(intro w; go_simp; with_reducible rfl)
     simp only [Act.put, List.setIfInBounds_toArray, List.set_cons_zero, List.set_cons_succ]
     refine up_run (v := ?_) 1 173 [8, 9, 10] rfl rfl (by kernel_rfl) (by kernel_rfl) (by kernel_rfl) (by kernel_rfl) (fun _ _ _ h => h) (by rfl) ?_ (by assumption) ?_
     rotate_left
     ·(intro w hSw; (try dsimp only at hSw); obtain ⟨hS1, hS2, hS3⟩ := hSw; go_simp; with_reducible rfl)
     simp only [Act.put, List.setIfInBounds_toArray, List.set_cons_zero, List.set_cons_succ]
     refine up_run (v := ?_) 3 175 [5, 6, 7, 8, 9, 10] rfl rfl (by kernel_rfl) (by kernel_rfl) (by kernel_rfl) (by kernel_rfl) (fun _ _ _ h => h) (by rfl) ?_ (by assumption) ?_
     rotate_left
     ·(intro w hSw; (try dsimp only at hSw); obtain ⟨hS1, hS2, hS3⟩ := hSw; go_simp; with_reducible rfl)
     simp only [Act.put, List.setIfInBounds_toArray, List.set_cons_zero, List.set_cons_succ]
     refine up_run (v := ?_) 5 177 [6, 7, 8, 9, 10] rfl rfl (by kernel_rfl) (by kernel_rfl) (by kernel_rfl) (by kernel_rfl) (fun _ _ _ h => h) (by rfl) ?_ (by assumption) ?_
     rotate_left
     ·(intro w hSw; (try dsimp only at hSw); obtain ⟨hS1, hS2, hS3⟩ := hSw; go_simp; with_reducible rfl)
     simp only [Act.put, List.setIfInBounds_toArray, List.set_cons_zero, List.set_cons_succ]
     refine up_run (v := ?_) 6 178 [7, 8, 9, 10] rfl rfl (by kernel_rfl) (by kernel_rfl) (by kernel_rfl) (by kernel_rfl) (fun _ _ _ h => h) (by rfl) ?_ (by assumption) ?_
     rotate_left
     ·(intro w hSw; (try dsimp only at hSw); obtain ⟨hS1, hS2, hS3⟩ := hSw; go_simp; with_reducible rfl)
     simp only [Act.put, List.setIfInBounds_toArray, List.set_cons_zero, List.set_cons_succ]
     refine up_one 7 (by kernel_rfl) rfl (fun K hK => ?_)
     go_simp
     refine hK.out _ _ (fun _ => ⟨f0, f1, f2⟩) ?_
     clear hK K
     try simp only [Act.put, List.setIfInBounds_toArray, List.set_cons_zero, List.set_cons_succ]
     refine up_one 8 (by kernel_rfl) rfl (fun K hK => ?_)
     refine step_append_run rfl (.tmp 173) (.tmp 179) 35 35 rfl _ _ rfl rfl _ _ HR4.out ?_
     refine hK.out _ _ (fun _ => ⟨g0, g1, g2⟩) ?_
     clear hK K
     try simp only [Act.put, List.setIfInBounds_toArray, List.set_cons_zero, List.set_cons_succ]
     refine up_pure (v := ?_) 9 181 rfl rfl (by kernel_rfl) (by kernel_rfl) (by kernel_rfl) (by kernel_rfl) (fun _ _ _ h => h) (by rfl) ?_ ?_
     rotate_left
     ·(intro w; go_simp; with_reducible rfl)
     simp only [Act.put, List.setIfInBounds_toArray, List.set_cons_zero, List.set_cons_succ]
     refine up_one 10 (by kernel_rfl) rfl (fun K hK => ?_)
     go_simp
     refine hK.out _ _ (fun h => absurd h (by decide)) ?_
     clear hK K
     try simp only [Act.put, List.setIfInBounds_toArray, List.set_cons_zero, List.set_cons_succ]
     refine up_done (by kernel_rfl) ?_
     go_wp2
     go_roundw
     case rel => exact ⟨m + 1, _, _, by omega, by have := HJ.out; go_num, HSTEP⟩
     case measure => simp [intOf]
    ·obtain rfl : m = gl := by omega
     have hz : (m : Int) - 1 - m = -1 := by omega
     rw [hz]
     have X21 := hide HBK.out.box
     have HBI := hide (HBK.out.rows' HPL.out HGI.out HPS.out)
     have hbL := HBK.out.below
     clear HBK HSQ HGI HPS HPL hml hz
     have X5' := hide (X5.out.later hbL)
     clear X5
     have X5 := X5'
     clear X5'
     have HCR' := hide (HCR.out.below hbL)
     clear HCR
     have HCR := HCR'
     clear HCR'
     have HC' := hide (HC.out.below hbL)
     clear HC
     have HC := HC'
     clear HC'
     have L1' := hide (L1.out.below hbL)
     clear L1
     have L1 := L1'
     clear L1'
     have X17' := hide (X17.out.later hbL)
     clear X17
     have X17 := X17'
     clear X17'
     have HB' := hide (HB.out.trans (hbL.mono HB.out.size))
     clear HB
     have HB := HB'
     clear HB'
     clear hbL XX
     obtain ⟨⟨b0, b1, b2, -⟩, -⟩ := X21.out
     go_wp2_with fail
     clear b0 b1 b2
     refine (bbasis_any wr ⟨⟨nm, (N : Int), gs.reverse⟩, zo, m, zc⟩ HBI.out HNO3.out.sizes.1 HNO3.out.sizes.2).mono ?_
     rintro e w9 ⟨⟨hbad, -⟩ | ⟨N9, u9x, hs3, -, hn9, hN1, hN4, rfl, hl9, ha9⟩, hb9⟩
     ·exact absurd (nmF_ok.2 HNO3.out) hbad
     have hn9 : (N : Int) = (N9 : Int) := hn9
     obtain rfl : N = N9 := by omega
     obtain ⟨⟨uz, rfl, ⟨zo3, zk3, rfl, -, -⟩⟩, hf9⟩ := id hl9
     obtain rfl : hs1 = hs3 := form_perm HF1.out hf9 HA1.out ha9 (fun v => by rw [List.mem_reverse]; exact HPERM.out.mem_iff.symm)
     have L3 := hide hl9
     clear hl9 ha9 hf9 hN1 hN4 hn9 HBI X21
     have X5' := hide (X5.out.later hb9)
     clear X5
     have X5 := X5'
     clear X5'
     have HCR' := hide (HCR.out.below hb9)
     clear HCR
     have HCR := HCR'
     clear HCR'
     have HC' := hide (HC.out.below hb9)
     clear HC
     have HC := HC'
     clear HC'
     have L1' := hide (L1.out.below hb9)
     clear L1
     have L1 := L1'
     clear L1'
     have X17' := hide (X17.out.later hb9)
     clear X17
     have X17 := X17'
     clear X17'
     have HB' := hide (HB.out.trans (hb9.mono HB.out.size))
     clear HB
     have HB := HB'
     clear HB'
     clear hb9
     have hNw := below_new w9 (.cells #[.int .i64 (N : Int), .slice zo3 hs1.length zk3] 43)
     have X23 := hide (BoxL.new w9 (.int .i64 (N : Int)) (.slice zo3 hs1.length zk3) 43)
     have X5' := hide (X5.out.later hNw)
     clear X5
     have X5 := X5'
     clear X5'
     have HCR' := hide (HCR.out.below hNw)
     clear HCR
     have HCR := HCR'
     clear HCR'
     have HC' := hide (HC.out.below hNw)
     clear HC
     have HC := HC'
     clear HC'
     have L1' := hide (L1.out.below hNw)
     clear L1
     have L1 := L1'
     clear L1'
     have X17' := hide (X17.out.later hNw)
     clear X17
     have X17 := X17'
     clear X17'
     have L3' := hide (L3.out.below hNw)
     clear L3
     have L3 := L3'
     clear L3'
     have HB' := hide (HB.out.trans (hNw.mono HB.out.size))
     clear HB
     have HB := HB'
     clear HB'
     clear hNw
     obtain ⟨⟨y0, y1, -, -⟩, -⟩ := X17.out
     obtain ⟨⟨z0, z1, -, -⟩, -⟩ := X23.out
     go_wp2_with fail
     clear y0 y1 z0 z1
     refine (alikeB_any _ _ _ N (N * 2 + 2) (N * 2 + 2) hs1 hs1 L1.out L3.out (by have := HN4.out; omega)).mono ?_
     rintro e w10 ⟨rfl, hb10⟩
     rw [decide_eq_true (rfl : hs1 = hs1)]
     have X5' := hide (X5.out.later hb10)
     clear X5
     have X5 := X5'
     clear X5'
     have HCR' := hide (HCR.out.below hb10)
     clear HCR
     have HCR := HCR'
     clear HCR'
     have HC' := hide (HC.out.below hb10)
     clear HC
     have HC := HC'
     clear HC'
     have HB' := hide (HB.out.trans (hb10.mono HB.out.size))
     clear HB
     have HB := HB'
     clear HB'
     clear hb10 X17 X23 L1 L3
     go_wp2
     go_roundw
     case rel => exact ⟨k + 1, by omega, by go_num, X5, HCR, HC, HB⟩
     case measure => simp [intOf]; omega
  ·obtain rfl : k = rs.length := by omega
   go_wp2
   go_ret
   exact ⟨rfl, HBE.out⟩

end Go.Proofs.Ytcnllfnikajddaa
