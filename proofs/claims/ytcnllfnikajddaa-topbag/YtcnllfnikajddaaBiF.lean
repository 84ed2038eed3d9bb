/- TopBag: the operations are applied one by one. -/
import Derived.Test.YtcnllfnikajddaaGKA
import Derived.Test.YtcnllfnikajddaaTl2
import Derived.Deep.Cut
import Derived.Deep.CutRange
import Derived.Deep.CutBlock
namespace Go.Proofs.Ytcnllfnikajddaa
open Go.RowKit

def bagP : Nat → List Nat
 | 3 => [1, 2]
 | 4 => [3]
 | 5 => [0, 4]
 | _ => []

set_option linter.unusedSimpArgs false in
set_option maxRecDepth 100000 in
set_option maxHeartbeats 3200000 in
theorem topBag_A (w W : World) (ao : Option Addr) (xv : Value) (cap B5 : Nat) (os : List OpC) (hbe : Below w.heap.size w W) (hops : OpsN w (.slice ao os.length cap) os) (hl : ∀ q ∈ os, q.o.v.length ≤ 10) (hl4 : os.length ≤ 1000) (h5 : w.heap.size ≤ B5) (hx : One W B5 (.slice none 0 0))
  (hB : ∀ (W' : World) (co : Option Addr) (cl ck : Nat) (qs : List Nc), Below w.heap.size w W' → One W' B5 (.slice co cl ck) → CatN W' (.slice co cl ck) qs → CatOk (qs.map (·.x)) → ∀ {sl2 sl3 sl4 sl6 sl7 sl8 sl9 sl10 sl11 sl12 sl13 sl14 sl15 sl16 sl17 sl18 sl19 sl20 sl21 sl22 sl23 sl24 sl25 sl26 sl27 sl28 sl29 sl30 sl31 sl32 sl33 sl34 sl35 sl36 sl37 sl38 sl39 sl40 sl41 sl42 sl43 sl44 sl45 sl46 sl47 sl48 sl49 sl50 sl51 sl52 sl53 sl54 sl55 sl56 sl57 sl58 sl59 sl60 sl61 sl62 sl63 sl64 sl65 sl66 sl67 sl68 sl69 sl70 sl71 sl72 sl73 sl74 sl75 sl76 sl77 sl78 sl79 sl80 sl81 sl82 sl83 sl84 sl85 sl86 sl87 sl88 sl89 sl90 sl91 sl92 sl93 sl94 sl95 sl96 sl97 sl98 sl99 sl100 sl101 sl102 sl103 sl104 sl105 sl106 sl107 sl108 sl109 sl110 sl111 sl112 sl113 sl114 sl115 sl116 sl117 sl118 sl119 sl120 sl121 sl122 sl123 sl124 sl125 sl126 sl127 sl128 sl129 sl130 sl131 sl132 sl133 sl134 sl135 sl136 sl137 sl138 sl139 sl140 sl141 sl142 sl143 sl144 sl145 sl146 sl147 sl148 sl149 sl150 sl151 sl152 sl153 sl154 sl155 sl156 sl157 sl158 sl159 sl160 sl161 sl162 sl163 sl164 sl165 sl166 sl167 sl168 sl169 sl170 sl171 sl172 sl173 sl174 sl175 sl176 sl177 sl178 sl179 sl180 sl181 sl182 sl183 sl184 sl185 sl186 sl187 sl188 sl189 sl190 sl191 sl192 sl193 sl194 : Value}, (Code.tail (Code.tail (Code.tail (Code.tail (Code.tail (Code.tail (Code.tail ((Try.f3.body).getD .skip)))))))).wp Try.prog (bodyPost Try.prog Try.f3 (fun e w' => e = .returned (.bool true) ∧ Below w.heap.size w w')) ⟨#[(.slice ao os.length cap), xv, sl2, sl3, sl4, (.pointer (some ⟨B5, 0, none⟩)), sl6, sl7, sl8, sl9, sl10, sl11, sl12, sl13, sl14, sl15, sl16, sl17, sl18, sl19, sl20, sl21, sl22, sl23, sl24, sl25, sl26, sl27, sl28, sl29, sl30, sl31, sl32, sl33, sl34, sl35, sl36, sl37, sl38, sl39, sl40, sl41, sl42, sl43, sl44, sl45, sl46, sl47, sl48, sl49, sl50, sl51, sl52, sl53, sl54, sl55, sl56, sl57, sl58, sl59, sl60, sl61, sl62, sl63, sl64, sl65, sl66, sl67, sl68, sl69, sl70, sl71, sl72, sl73, sl74, sl75, sl76, sl77, sl78, sl79, sl80, sl81, sl82, sl83, sl84, sl85, sl86, sl87, sl88, sl89, sl90, sl91, sl92, sl93, sl94, sl95, sl96, sl97, sl98, sl99, sl100, sl101, sl102, sl103, sl104, sl105, sl106, sl107, sl108, sl109, sl110, sl111, sl112, sl113, sl114, sl115, sl116, sl117, sl118, sl119, sl120, sl121, sl122, sl123, sl124, sl125, sl126, sl127, sl128, sl129, sl130, sl131, sl132, sl133, sl134, sl135, sl136, sl137, sl138, sl139, sl140, sl141, sl142, sl143, sl144, sl145, sl146, sl147, sl148, sl149, sl150, sl151, sl152, sl153, sl154, sl155, sl156, sl157, sl158, sl159, sl160, sl161, sl162, sl163, sl164, sl165, sl166, sl167, sl168, sl169, sl170, sl171, sl172, sl173, sl174, sl175, sl176, sl177, sl178, sl179, sl180, sl181, sl182, sl183, sl184, sl185, sl186, sl187, sl188, sl189, sl190, sl191, sl192, sl193, sl194], []⟩ W') {sl2 sl3 sl4 sl6 sl7 sl8 sl9 sl10 sl11 sl12 sl13 sl14 sl15 sl16 sl17 sl18 sl19 sl20 sl21 sl22 sl23 sl24 sl25 sl26 sl27 sl28 sl29 sl30 sl31 sl32 sl33 sl34 sl35 sl36 sl37 sl38 sl39 sl40 sl41 sl42 sl43 sl44 sl45 sl46 sl47 sl48 sl49 sl50 sl51 sl52 sl53 sl54 sl55 sl56 sl57 sl58 sl59 sl60 sl61 sl62 sl63 sl64 sl65 sl66 sl67 sl68 sl69 sl70 sl71 sl72 sl73 sl74 sl75 sl76 sl77 sl78 sl79 sl80 sl81 sl82 sl83 sl84 sl85 sl86 sl87 sl88 sl89 sl90 sl91 sl92 sl93 sl94 sl95 sl96 sl97 sl98 sl99 sl100 sl101 sl102 sl103 sl104 sl105 sl106 sl107 sl108 sl109 sl110 sl111 sl112 sl113 sl114 sl115 sl116 sl117 sl118 sl119 sl120 sl121 sl122 sl123 sl124 sl125 sl126 sl127 sl128 sl129 sl130 sl131 sl132 sl133 sl134 sl135 sl136 sl137 sl138 sl139 sl140 sl141 sl142 sl143 sl144 sl145 sl146 sl147 sl148 sl149 sl150 sl151 sl152 sl153 sl154 sl155 sl156 sl157 sl158 sl159 sl160 sl161 sl162 sl163 sl164 sl165 sl166 sl167 sl168 sl169 sl170 sl171 sl172 sl173 sl174 sl175 sl176 sl177 sl178 sl179 sl180 sl181 sl182 sl183 sl184 sl185 sl186 sl187 sl188 sl189 sl190 sl191 sl192 sl193 sl194 : Value} :
  (Code.tail (Code.tail (Code.tail (Code.tail (Code.tail (Code.tail ((Try.f3.body).getD .skip))))))).wp Try.prog (bodyPost Try.prog Try.f3 (fun e w' => e = .returned (.bool true) ∧ Below w.heap.size w w')) ⟨#[(.slice ao os.length cap), xv, sl2, sl3, sl4, (.pointer (some ⟨B5, 0, none⟩)), sl6, sl7, sl8, sl9, sl10, sl11, sl12, sl13, sl14, sl15, sl16, sl17, sl18, sl19, sl20, sl21, sl22, sl23, sl24, sl25, sl26, sl27, sl28, sl29, sl30, sl31, sl32, sl33, sl34, sl35, sl36, sl37, sl38, sl39, sl40, sl41, sl42, sl43, sl44, sl45, sl46, sl47, sl48, sl49, sl50, sl51, sl52, sl53, sl54, sl55, sl56, sl57, sl58, sl59, sl60, sl61, sl62, sl63, sl64, sl65, sl66, sl67, sl68, sl69, sl70, sl71, sl72, sl73, sl74, sl75, sl76, sl77, sl78, sl79, sl80, sl81, sl82, sl83, sl84, sl85, sl86, sl87, sl88, sl89, sl90, sl91, sl92, sl93, sl94, sl95, sl96, sl97, sl98, sl99, sl100, sl101, sl102, sl103, sl104, sl105, sl106, sl107, sl108, sl109, sl110, sl111, sl112, sl113, sl114, sl115, sl116, sl117, sl118, sl119, sl120, sl121, sl122, sl123, sl124, sl125, sl126, sl127, sl128, sl129, sl130, sl131, sl132, sl133, sl134, sl135, sl136, sl137, sl138, sl139, sl140, sl141, sl142, sl143, sl144, sl145, sl146, sl147, sl148, sl149, sl150, sl151, sl152, sl153, sl154, sl155, sl156, sl157, sl158, sl159, sl160, sl161, sl162, sl163, sl164, sl165, sl166, sl167, sl168, sl169, sl170, sl171, sl172, sl173, sl174, sl175, sl176, sl177, sl178, sl179, sl180, sl181, sl182, sl183, sl184, sl185, sl186, sl187, sl188, sl189, sl190, sl191, sl192, sl193, sl194], []⟩ W := by
 simp only [Code.tail, Try.f3, Option.getD_some]
 have HB := hide hB; have HOPS := hide hops; have HL := hide hl; have HBE := hide hbe; have HX := hide hx
 clear hB hops hl hbe hx
 go_upto_block 0 with fail
 go_cut [7, 8, 9] from 47 to 65 (fun _ _ _ wc => ∃ co cl ck qs, One wc B5 (.slice co cl ck) ∧ CatN wc (.slice co cl ck) qs ∧ CatOk (qs.map (·.x)) ∧ Below w.heap.size w wc)
 case first =>
  clear HB
  go_wp2_with fail
  go_loopw [7] (fun i wr => ∃ (k : Nat) (co : Option Addr) (cl ck : Nat) (qs : List Nc), k ≤ os.length ∧ i = .int .i64 k ∧ Hid (One wr B5 (.slice co cl ck)) ∧ Hid (CatN wr (.slice co cl ck) qs) ∧ Hid (CatOk (qs.map (·.x))) ∧ Hid (Below w.heap.size w wr)) (fun i _ => os.length - (intOf i).toNat)
  case atStart => exact ⟨0, none, 0, 0, [], Nat.zero_le _, rfl, HX, hide ⟨none, 0, rfl, Nat.le_refl _, fun h => absurd h (by simp)⟩, hide catOk_nil, HBE⟩
  case round =>
   clear HX HBE
   obtain ⟨k, co, cl, ck, qs, hk, rfl, X5, HCN, HOK, HBE⟩ := hrel
   by_cases hkl : k < os.length
   ·obtain ⟨_, _, e, -, hh⟩ := HOPS.out.below HBE.out
    simp only [Value.slice.injEq, true_and] at e
    obtain ⟨rfl, rfl⟩ := e
    obtain ⟨b, off, rfl, hltw, hc⟩ := hh (by omega)
    obtain ⟨a0, a1, a2, a3, a4⟩ := hc k os[k] (List.getElem?_eq_getElem hkl)
    have hv10 := HL.out os[k] (List.getElem_mem hkl)
    clear hh hc
    generalize os[k] = q at *
    obtain ⟨⟨kd, nm, nn, vs⟩, vo, vc⟩ := q
    simp only [OpC.row] at a3 a4
    dsimp only at a0 a1 a2 a3 a4 hv10
    have HRV := hide a4
    clear a4
    obtain ⟨r, hr⟩ : ∃ r, applyC (qs.map (·.x)) ⟨kd, nm, nn, vs⟩ = r := ⟨_, rfl⟩
    have HR := hide hr
    have HROK : Hid (r.1 = 0 → ∀ x ∈ r.2, NmOk x) := fun h0 => by rw [← hr] at h0 ⊢; exact (applyC_ok HOK.out _ h0).all
    have HRC : Hid (r.1 = 0 → CatOk r.2) := fun h0 => by rw [← hr] at h0 ⊢; exact applyC_ok HOK.out _ h0
    clear hr
    go_wp2_with fail
    refine region_inv (by kernel_rfl) (by kernel_rfl) (fun L a' w' => ∃ (c : Nat → Value) (fl : Bool), a' = (⟨#[(.slice (some ⟨b, off, none⟩) os.length cap), xv, sl2, sl3, sl4, (.pointer (some ⟨B5, 0, none⟩)), sl6, (.int .i64 (k : Int)), c 9, c 11, sl10, sl11, sl12, sl13, sl14, sl15, sl16, sl17, sl18, sl19, sl20, sl21, sl22, sl23, sl24, sl25, sl26, sl27, sl28, sl29, sl30, sl31, sl32, sl33, sl34, sl35, sl36, sl37, sl38, sl39, sl40, sl41, sl42, sl43, sl44, sl45, sl46, (.int .i64 (k : Int)), (.slice (some ⟨b, off, none⟩) os.length cap), (.int .i64 (os.length : Int)), (.bool true), u51, u52, c 6, c 0, c 1, c 2, c 3, c 4, c 5, c 7, c 8, u62, u63, u64, sl65, sl66, sl67, sl68, sl69, sl70, sl71, sl72, sl73, sl74, sl75, sl76, sl77, sl78, sl79, sl80, sl81, sl82, sl83, sl84, sl85, sl86, sl87, sl88, sl89, sl90, sl91, sl92, sl93, sl94, sl95, sl96, sl97, sl98, sl99, sl100, sl101, sl102, sl103, sl104, sl105, sl106, sl107, sl108, sl109, sl110, sl111, sl112, sl113, sl114, sl115, sl116, sl117, sl118, sl119, sl120, sl121, sl122, sl123, sl124, sl125, sl126, sl127, sl128, sl129, sl130, sl131, sl132, sl133, sl134, sl135, sl136, sl137, sl138, sl139, sl140, sl141, sl142, sl143, sl144, sl145, sl146, sl147, sl148, sl149, sl150, sl151, sl152, sl153, sl154, sl155, sl156, sl157, sl158, sl159, sl160, sl161, sl162, sl163, sl164, sl165, sl166, sl167, sl168, sl169, sl170, sl171, sl172, sl173, sl174, sl175, sl176, sl177, sl178, sl179, sl180, sl181, sl182, sl183, sl184, sl185, sl186, sl187, sl188, sl189, sl190, sl191, sl192, sl193, sl194], []⟩ : Act) ∧ L.getD 10 false = fl ∧ FS (apD 5 bagP) (fun i => List.getD [some (.agg #[.slice co cl ck]), some (.slice (some ⟨b, off, none⟩) os.length cap), some (.int .i64 (k : Int)), some (.pointer (some ⟨b, off + k * 4, none⟩)), some (.agg #[.int .i64 kd, .string nm, .int .i64 nn, .slice vo vs.length vc])] i none) (apS 5 (CatG r) wr.heap.size fl) wr L c w') ⟨fun i => List.getD [u54, u55, u56, u57, u58, u59, u53, u60, u61, u8, undef, u9] i undef, false, rfl, by simp [Array.getD], FS.start _ _ _⟩ ?_ ?_
    ·rintro L a' w' i o ⟨c, fl, rfl, hbf, R⟩ ho hn hdep K hK
     have hi : i < 12 := (Array.getElem?_eq_some_iff.1 ho).1
     have hst := apStays 5 bagP (CatG r) (CatG.later (r := r)) wr.heap.size fl
     rcases (by omega : i = 0 ∨ i = 1 ∨ i = 2 ∨ i = 3 ∨ i = 4 ∨ i = 5 ∨ i = 6 ∨ i = 7 ∨ i = 8 ∨ i = 9 ∨ i = 10 ∨ i = 11) with rfl | rfl | rfl | rfl | rfl | rfl | rfl | rfl | rfl | rfl | rfl | rfl
     ·obtain rfl := Option.some.inj ho
      obtain ⟨p0, -, -⟩ := X5.out.later R.below
      have R' := R.made hst hn (fun j hj => absurd hj (by simp [apD, bagP])) (Below.refl _ _) (v := (.agg #[.slice co cl ck])) (fun u h => Option.some.inj h) (apS_p (by decide))
      clear R
      go_simp
      exact hK.out _ _ ⟨_, fl, by simp [upd], by rw [getD_set_ne false (by decide)]; exact hbf, R'⟩
     ·obtain rfl := Option.some.inj ho
      have R' := R.made hst hn (fun j hj => absurd hj (by simp [apD, bagP])) (Below.refl _ _) (v := (.slice (some ⟨b, off, none⟩) os.length cap)) (fun u h => Option.some.inj h) (apS_p (by decide))
      clear R
      go_simp
      exact hK.out _ _ ⟨_, fl, by simp [upd], by rw [getD_set_ne false (by decide)]; exact hbf, R'⟩
     ·obtain rfl := Option.some.inj ho
      have R' := R.made hst hn (fun j hj => absurd hj (by simp [apD, bagP])) (Below.refl _ _) (v := (.int .i64 (k : Int))) (fun u h => Option.some.inj h) (apS_p (by decide))
      clear R
      go_simp
      exact hK.out _ _ ⟨_, fl, by simp [upd], by rw [getD_set_ne false (by decide)]; exact hbf, R'⟩
     ·obtain rfl := Option.some.inj ho
      have e1 : c 1 = (.slice (some ⟨b, off, none⟩) os.length cap) := R.plain 1 _ (hdep ⟨1, .data⟩ (by simp) rfl) rfl
      have e2 : c 2 = (.int .i64 (k : Int)) := R.plain 2 _ (hdep ⟨2, .data⟩ (by simp) rfl) rfl
      have R' := R.made hst hn (fun j hj => by simp [apD, bagP] at hj; rcases hj with rfl | rfl <;> exact hdep ⟨_, .data⟩ (by simp) rfl) (Below.refl _ _) (v := (.pointer (some ⟨b, off + k * 4, none⟩))) (fun u h => Option.some.inj h) (apS_p (by decide))
      clear R
      rw [e1, e2]
      go_simp
      exact hK.out _ _ ⟨_, fl, by simp [upd, e1, e2], by rw [getD_set_ne false (by decide)]; exact hbf, R'⟩
     ·obtain rfl := Option.some.inj ho
      have e3 : c 3 = (.pointer (some ⟨b, off + k * 4, none⟩)) := R.plain 3 _ (hdep ⟨3, .data⟩ (by simp) rfl) rfl
      have q0 := (R.below.cell (p := ⟨b, off + k * 4, none⟩) hltw).trans a0
      have q1 := (R.below.cell (p := ⟨b, off + k * 4 + 1, none⟩) hltw).trans a1
      have q2 := (R.below.cell (p := ⟨b, off + k * 4 + 2, none⟩) hltw).trans a2
      have q3 := (R.below.cell (p := ⟨b, off + k * 4 + 3, none⟩) hltw).trans a3
      have R' := R.made hst hn (fun j hj => by simp [apD, bagP] at hj; subst hj; exact hdep ⟨_, .data⟩ (by simp) rfl) (Below.refl _ _) (v := (.agg #[.int .i64 kd, .string nm, .int .i64 nn, .slice vo vs.length vc])) (fun u h => Option.some.inj h) (apS_p (by decide))
      clear R
      rw [e3]
      go_simp
      exact hK.out _ _ ⟨_, fl, by simp [upd, e3], by rw [getD_set_ne false (by decide)]; exact hbf, R'⟩
     ·obtain rfl := Option.some.inj ho
      have e0 : c 0 = (.agg #[.slice co cl ck]) := R.plain 0 _ (hdep ⟨0, .data⟩ (by simp) rfl) rfl
      have e4 : c 4 = (.agg #[.int .i64 kd, .string nm, .int .i64 nn, .slice vo vs.length vc]) := R.plain 4 _ (hdep ⟨4, .data⟩ (by simp) rfl) rfl
      rw [e0, e4]
      go_simp
      refine (apply_any w' _ qs ⟨kd, nm, nn, vs⟩ vo vc ⟨_, rfl, HCN.out.below R.below⟩ HOK.out (HRV.out.below R.below (Nat.le_refl _)) (by show vs.length ≤ 100; omega)).mono ?_
      rw [HR.out]
      rintro e w2 hres
      obtain ⟨o, l, k', ev, rfl, hg2, hb2⟩ := catG_of hres
      have R' := R.made hst hn (fun j hj => by simp [apD, bagP] at hj; rcases hj with rfl | rfl <;> exact hdep ⟨_, .data⟩ (by simp) rfl) hb2 (v := .tuple #[.agg #[.slice o l k'], ev]) (fun u h => by cases h) (apS_0 ⟨o, l, k', ev, upd_self .., hg2⟩)
      clear R hg2 hb2 hres
      go_wp2_with fail
      exact hK.out _ _ ⟨_, fl, by simp [upd, e0, e4], by rw [getD_set_ne false (by decide)]; exact hbf, R'⟩
     ·obtain rfl := Option.some.inj ho
      have R' := R.made hst hn (fun j hj => by simp [apD, bagP] at hj; subst hj; exact hdep ⟨_, .data⟩ (by simp) rfl) (Below.refl _ _) (v := c 5) (fun u h => by cases h) (apS_1 (q := 5) (show upd c 6 (c 5) 6 = upd c 6 (c 5) 5 by rw [upd_self, upd_ne _ _ (by decide)]))
      clear R
      go_simp
      exact hK.out _ _ ⟨_, fl, by simp [upd], by rw [getD_set_ne false (by decide)]; exact hbf, R'⟩
     ·obtain rfl := Option.some.inj ho
      have t1 := hdep ⟨6, .data⟩ (by simp) rfl
      have e1 : c 6 = c 5 := (R.spec 6 t1).2.1 rfl
      obtain ⟨o, l, k', ev, e0, -⟩ := (R.spec 5 (R.closed 6 t1 5 (by simp [apD]))).1 rfl
      rw [e0] at e1
      have R' := R.made hst hn (fun j hj => by simp [apD, bagP] at hj; subst hj; exact hdep ⟨_, .data⟩ (by simp) rfl) (Below.refl _ _) (v := .agg #[.slice o l k']) (fun u h => by cases h) (apS_2 (q := 5) ⟨.agg #[.slice o l k'], ev, (upd_ne _ _ (by decide)).trans e1, upd_self ..⟩)
      clear R t1 e0
      rw [e1]
      go_simp
      exact hK.out _ _ ⟨_, fl, by simp [upd, e1], by rw [getD_set_ne false (by decide)]; exact hbf, R'⟩
     ·obtain rfl := Option.some.inj ho
      have t1 := hdep ⟨6, .data⟩ (by simp) rfl
      have e1 : c 6 = c 5 := (R.spec 6 t1).2.1 rfl
      obtain ⟨o, l, k', ev, e0, -⟩ := (R.spec 5 (R.closed 6 t1 5 (by simp [apD]))).1 rfl
      rw [e0] at e1
      have R' := R.made hst hn (fun j hj => by simp [apD, bagP] at hj; subst hj; exact hdep ⟨_, .data⟩ (by simp) rfl) (Below.refl _ _) (v := ev) (fun u h => by cases h) (apS_3 (q := 5) ⟨.agg #[.slice o l k'], ev, (upd_ne _ _ (by decide)).trans e1, upd_self ..⟩)
      clear R t1 e0
      rw [e1]
      go_simp
      exact hK.out _ _ ⟨_, fl, by simp [upd, e1], by rw [getD_set_ne false (by decide)]; exact hbf, R'⟩
     ·obtain rfl := Option.some.inj ho
      have m7 := One.new w' (.slice none 0 0) 26
      have R' := R.made hst hn (fun j hj => absurd hj (by simp [apD, bagP])) (alloc_below w' (.cells #[.slice none 0 0] 26)) (v := .pointer (some ⟨w'.heap.size, 0, none⟩)) (fun u h => by cases h) (apS_4 (q := 5) ⟨w'.heap.size, upd_self .., R.below.size, fun _ => m7⟩)
      clear R m7
      go_simp
      exact hK.out _ _ ⟨_, fl, by simp [upd], by rw [getD_set_ne false (by decide)]; exact hbf, R'⟩
     ·obtain rfl := Option.some.inj ho
      have t2 := hdep ⟨7, .data⟩ (by simp) rfl
      have t4 := hdep ⟨9, .data⟩ (by simp) rfl
      have hb0 : fl = false := by
       cases fl with
       | false => rfl
       | true => exact absurd hbf (listed_not hn)
      subst hb0
      have t1 := R.closed 7 t2 6 (by simp [apD])
      have e1 : c 6 = c 5 := (R.spec 6 t1).2.1 rfl
      obtain ⟨o, l, k', ev, e0, hg⟩ := (R.spec 5 (R.closed 6 t1 5 (by simp [apD]))).1 rfl
      obtain ⟨u2, f2, e2, e2'⟩ : ∃ u e, c 6 = .tuple #[u, e] ∧ c 7 = u := (R.spec 7 t2).2.2.1 rfl
      rw [e1, e0] at e2
      simp only [Value.tuple.injEq, Array.mk.injEq, List.cons.injEq, and_true] at e2
      obtain ⟨rfl, rfl⟩ := e2
      obtain ⟨B, e4, hCB, hbx⟩ : ∃ B, c 9 = .pointer (some ⟨B, 0, none⟩) ∧ wr.heap.size ≤ B ∧ (false = false → One w' B (.slice none 0 0)) := (R.spec 9 t4).2.2.2.2.1 rfl
      have hbx := hbx rfl
      have hg' := CatG.put HROK.out hbx (.slice o l k') hg
      have R' := R.put (Sp' := (apS 5 (CatG r) wr.heap.size true)) (v := undef) hn (fun j hj => by simp [apD, bagP] at hj; rcases hj with rfl | rfl <;> exact hdep ⟨_, .data⟩ (by simp) rfl) (R.below.setCell (p := ⟨B, 0, none⟩) hCB (.slice o l k')) (fun u h => by cases h) (fun j hj hl hs => by
       obtain ⟨h0, h1, h2, h3, h4, h5, h6⟩ := hs
       refine ⟨fun e => ?_, fun e => ?_, fun e => ?_, fun e => ?_, fun e => ?_, fun e => absurd e hj, fun e => ?_⟩
       ·exact ⟨o, l, k', ev, (upd_ne _ _ (by decide)).trans e0, hg'⟩
       ·rw [upd_ne _ _ (by decide), upd_ne _ _ (by decide)]; exact h1 e
       ·rw [upd_ne _ _ (by decide), upd_ne _ _ (by decide)]; exact h2 e
       ·rw [upd_ne _ _ (by decide), upd_ne _ _ (by decide)]; exact h3 e
       ·obtain ⟨B', a1, a2, -⟩ := h4 e
        exact ⟨B', (upd_ne _ _ (by decide)).trans a1, a2, fun hf => by cases hf⟩
       ·rw [upd_ne _ _ (by decide), upd_ne _ _ (by decide)]; exact h6 e) (apS_5 (q := 5) ⟨B, .slice o l k', (upd_ne _ _ (by decide)).trans e4, (upd_ne _ _ (by decide)).trans e2', hCB, hbx.write _⟩)
      obtain ⟨z0, z1, -⟩ := hbx
      clear R hg hg' hst e1 e0 t1 t2 t4
      rw [e2', e4]
      go_simp
      exact hK.out _ _ ⟨_, true, by simp [upd, e2', e4], by first | exact listed_new hn | simp [hn], R'⟩
     ·obtain rfl := Option.some.inj ho
      have R' := R.made hst hn (fun j hj => by simp [apD, bagP] at hj; subst hj; exact hdep ⟨_, .data⟩ (by simp) rfl) (Below.refl _ _) (v := c 8) (fun u h => by cases h) (apS_6 (q := 5) (show upd c 11 (c 8) 11 = upd c 11 (c 8) 8 by rw [upd_self, upd_ne _ _ (by decide)]))
      clear R
      go_simp
      exact hK.out _ _ ⟨_, fl, by simp [upd], by rw [getD_set_ne false (by decide)]; exact hbf, R'⟩
    rintro L a' w2 ⟨c, fl, rfl, hbf, R⟩ hall
    obtain rfl : true = fl := (hall 10 (by decide)).symm.trans hbf
    obtain ⟨BD, o, l, k', ev, e4, e6, hCB, hbx, hg⟩ := ap_fin (q := 5) R (fun i hi => hall i hi)
    have e4 : c 9 = .pointer (some ⟨BD, 0, none⟩) := e4
    have e6 : c 11 = ev := e6
    have hb2 := R.below
    clear R hall hbf
    rw [e4, e6]
    have XD := hide hbx
    have X5a := hide (X5.out.later hb2); have HCa := hide (HCN.out.below hb2); have HBa := hide (HBE.out.trans (hb2.mono HBE.out.size))
    have hB5 : B5 < wr.heap.size := X5.out.2.2
    clear hb2 X5 HCN HBE e4 e6 a0 a1 a2 a3 hbx
    rcases hg with ⟨hr0, rfl, rfl, rfl, rfl⟩ | ⟨hr0, rfl, qs2, hq2, hc2⟩
    ·have e0 : errV r.1 = .iface 49 (.int .i64 (r.1 : Nat)) := if_neg hr0
     rw [e0]
     clear e0 hr0 HROK HRC HR
     go_wp2
     go_roundw
     case rel => exact ⟨k + 1, _, _, _, qs, by omega, by go_num, X5a, HCa, HOK, HBa⟩
     case measure => simp [intOf]; omega
    ·have hok2 : CatOk (qs2.map (·.x)) := by rw [hq2]; exact HRC.out hr0
     have X5b := hide (X5a.out.write (.slice o l k'))
     have HCb := hide (hc2.setVar (nonE_of_ok hok2.all) X5a.out.1 HCa.out (.slice o l k'))
     have HOKb := hide hok2
     have HBb := hide (HBa.out.setCell (p := ⟨B5, 0, none⟩) h5 (.slice o l k'))
     obtain ⟨y0, y1, -⟩ := X5a.out
     obtain ⟨z0, -, -⟩ := XD.out
     clear hr0 hq2 hc2 hok2 HROK HRC HR HCa
     go_wp2
     go_roundw
     case rel => exact ⟨k + 1, _, _, _, qs2, by omega, by go_num, X5b, HCb, HOKb, HBb⟩
     case measure => simp [intOf]; omega
   ·obtain rfl : k = os.length := by omega
    go_wp2_with fail
    go_meet
    case rel => exact ⟨_, _, _, qs, X5.out, HCN.out, HOK.out, HBE.out⟩
 case rest =>
  obtain ⟨co, cl, ck, qs, h1, h2, h3, h4⟩ := hcut
  apply_assumption
  exact HB.out _ co cl ck qs h4 h1 h2 h3

end Go.Proofs.Ytcnllfnikajddaa
