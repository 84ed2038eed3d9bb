/- The reference: are two catalogs the same; where does a name stand? -/
import Derived.Test.YtmalhbkmfddhoaaDoorBgS
import Derived.Test.YtmalhbkmfddhoaaDoorBpS
import Derived.Test.YtmalhbkmfddhoaaDoorBgB
import Derived.Test.YtmalhbkmfddhoaaDoorJoins
import Derived.ProofKit
import Derived.Lib.SmallJoins
import Derived.ChangeOld
import Derived.Test.YtmalhbkmfddhoaaDoorTl2
import Derived.Test.YtmalhbkmfddhoaaDoorBgE
import Derived.Deep.SlicePairs

namespace Go.Proofs.YtmalhbkmfddhoaaDoor
open Go.RowKit

set_option linter.unusedSimpArgs false in
set_option maxRecDepth 100000 in
set_option maxHeartbeats 1600000 in
theorem sameCatalog_any (w : World) (va vb : Value) (ps qs : List Nc) (ha : CatN w va ps) (hb : CatN w vb qs) (hl : ps.length ≤ 1000) (hg : ∀ p ∈ ps, p.x.gens.length ≤ 1000 ∧ ∀ g ∈ p.x.gens, g.length ≤ 1000000) (r : Bool) (hr : r = true ↔ ps.map (·.x) = qs.map (·.x)) :
  Calls Tryd.prog 12 #[va, vb] w fun e w' => e = .returned (.bool r) ∧ Below w.heap.size w w' := by
 have HA := hide ha; have HB := hide hb; have HG := hide hg
 obtain ⟨ao, acap, rfl, -⟩ := id ha
 obtain ⟨bo, bcap, rfl, -⟩ := id hb
 clear ha hb hg
 by_cases h3 : ps.length = qs.length
 ·have g3 : ((ps.length : Int) != (qs.length : Int)) = false := by rw [bne_eq_false_iff_eq]; omega
  have HL := hide h3; have HR := hide hr
  clear h3 hr
  go_enter Tryd.func12, Tryd.ntmps12
  go_wp2
  go_loopw [5] (fun i wr => ∃ k : Nat, k ≤ ps.length ∧ i = .int .i64 k ∧ Hid (∀ j (h : j < ps.length) (h' : j < qs.length), j < k → ps[j].x = qs[j].x) ∧ Hid (Below w.heap.size w wr)) (fun i _ => ps.length - (intOf i).toNat)
  case atStart => exact ⟨0, Nat.zero_le _, rfl, hide (fun j _ _ hj => absurd hj (by omega)), hide (Below.refl _ _)⟩
  case round =>
   obtain ⟨k, hk, rfl, HE, HBE⟩ := hrel
   by_cases hkl : k < ps.length
   ·have hkh : k < qs.length := by have := HL.out; omega
    obtain ⟨ab, aoff, acap', e⟩ := HA.out.form (by omega)
    simp only [Value.slice.injEq, true_and] at e
    obtain ⟨rfl, rfl⟩ := e
    obtain ⟨bb, boff, bcap', e⟩ := HB.out.form (by omega)
    simp only [Value.slice.injEq, true_and] at e
    obtain ⟨rfl, rfl⟩ := e
    obtain ⟨hlt, c0, c1, c2, hi⟩ := (HA.out.below HBE.out).at k hkl
    obtain ⟨hlt', d0, d1, d2, hi'⟩ := (HB.out.below HBE.out).at k hkh
    have HI := hide hi; have HI' := hide hi'
    obtain ⟨hg1, hg2⟩ := HG.out ps[k] (List.getElem_mem hkl)
    have HG1 := hide hg1; have HG2 := hide hg2
    have HNE : Hid (ps[k].x ≠ qs[k].x → r = false) := fun h => by
     cases hr : r with
     | false => rfl
     | true =>
      have e := HR.out.1 hr
      have : (ps.map (·.x))[k]'(by rw [List.length_map]; exact hkl) = (qs.map (·.x))[k]'(by rw [List.length_map]; exact hkh) := by simp only [e]
      rw [List.getElem_map, List.getElem_map] at this
      exact absurd this h
    have HE' : Hid (ps[k].x = qs[k].x → ∀ j (h : j < ps.length) (h' : j < qs.length), j < k + 1 → ps[j].x = qs[j].x) := fun h j h1 h2 hj => by
     by_cases e : j < k
     ·exact HE.out j h1 h2 e
     ·obtain rfl : j = k := by omega
      exact h
    clear hi hi' hg1 hg2 HE
    generalize ps[k] = p at *
    generalize qs[k] = q at *
    obtain ⟨s, hs⟩ : ∃ s : Bool, (s = true ↔ p.x = q.x) := ⟨@decide (p.x = q.x) (Classical.propDecidable _), @decide_eq_true_iff _ (Classical.propDecidable _)⟩
    have HS := hide hs
    obtain ⟨⟨nm, n, gs⟩, po, pl, pc⟩ := p
    obtain ⟨⟨mm, m, gs'⟩, qo, ql, qc⟩ := q
    dsimp only at c0 c1 c2 d0 d1 d2
    clear hs
    go_wp2_with fail
    go_region_held3 (fun w' => w'.cell? ⟨ab, aoff + k * 3, none⟩ = some (.string nm) ∧ w'.cell? ⟨ab, aoff + k * 3 + 1, none⟩ = some (.int .i64 n) ∧ w'.cell? ⟨ab, aoff + k * 3 + 2, none⟩ = some (.slice po pl pc) ∧ w'.cell? ⟨bb, boff + k * 3, none⟩ = some (.string mm) ∧ w'.cell? ⟨bb, boff + k * 3 + 1, none⟩ = some (.int .i64 m) ∧ w'.cell? ⟨bb, boff + k * 3 + 2, none⟩ = some (.slice qo ql qc)) (go_keep)
     (first
      | (go_at_call 29; refine (sameNamed_any _ ⟨⟨nm, n, gs⟩, po, pl, pc⟩ ⟨⟨mm, m, gs'⟩, qo, ql, qc⟩ (HI.out.below (Below.refl _ _).drew) (HI'.out.below (Below.refl _ _).drew) HG1.out HG2.out s HS.out).mono ?_; rintro e w3 ⟨rfl, hb3'⟩; have hb3 : Below wr.heap.size wr w3 := (Below.refl _ _).drew.trans (hb3'.mono (by simp)); have HB3 := hide (HBE.out.trans (hb3.mono HBE.out.size)); have e0 := (hb3.cell (p := ⟨ab, aoff + k * 3, none⟩) hlt).trans c0; have e1 := (hb3.cell (p := ⟨ab, aoff + k * 3 + 1, none⟩) hlt).trans c1; have e2 := (hb3.cell (p := ⟨ab, aoff + k * 3 + 2, none⟩) hlt).trans c2; have f0 := (hb3.cell (p := ⟨bb, boff + k * 3, none⟩) hlt').trans d0; have f1 := (hb3.cell (p := ⟨bb, boff + k * 3 + 1, none⟩) hlt').trans d1; have f2 := (hb3.cell (p := ⟨bb, boff + k * 3 + 2, none⟩) hlt').trans d2; clear hb3 hb3'))
    clear c0 c1 c2 d0 d1 d2 e0 e1 e2 f0 f1 f2 HI HI' HG1 HG2 HBE
    cases s with
    | true =>
     have HE2 := hide (HE'.out (HS.out.1 rfl))
     go_wp2
     go_roundw
     case rel => exact ⟨k + 1, by omega, by go_num, HE2, HB3⟩
     case measure => simp [intOf]; omega
    | false =>
     obtain rfl := HNE.out (fun h => by have := HS.out.2 h; cases this)
     go_wp2
     go_ret
     exact ⟨rfl, HB3.out⟩
   ·obtain rfl : k = ps.length := by omega
    obtain rfl : true = r := (HR.out.2 (by
     apply List.ext_getElem (by rw [List.length_map, List.length_map]; exact HL.out)
     intro j h1 h2
     rw [List.length_map] at h1 h2
     rw [List.getElem_map, List.getElem_map]
     exact HE.out j h1 h2 h1)).symm
    go_wp2
    go_ret
    exact ⟨rfl, HBE.out⟩
 ·have g3 : ((ps.length : Int) != (qs.length : Int)) = true := by rw [bne_iff_ne]; omega
  obtain rfl : false = r := by
   cases h : r with
   | false => rfl
   | true =>
    have := congrArg List.length (hr.1 h)
    rw [List.length_map, List.length_map] at this
    exact absurd this h3
  clear h3 hr
  go_enter Tryd.func12, Tryd.ntmps12
  go_wp2
  go_ret
  exact ⟨rfl, Below.refl _ _⟩

def atL (cs : List Nmd) (s : ByteArray) : Int := if hasL cs s then (cs.findIdx (fun x => decide (x.name = s)) : Int) else -1

end Go.Proofs.YtmalhbkmfddhoaaDoor

/- TopPack: its end, its head. -/
namespace Go.Proofs.YtmalhbkmfddhoaaDoor
open Go.RowKit

theorem catOk_a : CatOk [⟨⟨#[97]⟩, 1, []⟩] := by
 have h : applyC [] ⟨1, ⟨#[97]⟩, 1, []⟩ = (0, [⟨⟨#[97]⟩, 1, []⟩]) := by rfl
 have := applyC_ok catOk_nil ⟨1, ⟨#[97]⟩, 1, []⟩ (by rw [h])
 rwa [h] at this

theorem text_a : (⟨#[97, 32, 49, 10]⟩ : ByteArray) = bytesP (textC [⟨⟨#[97]⟩, 1, []⟩]) := by
 have h : Lib.itoa 1 = [49] := by
  unfold Lib.itoa
  rw [if_neg (by decide)]
  show Lib.decDigits 1 = _
  rw [Lib.decDigits]
  rfl
 unfold textC lineT headT
 simp only [List.flatMap_cons, List.flatMap_nil, h]
 rfl

set_option linter.unusedSimpArgs false in
set_option maxRecDepth 100000 in
set_option maxHeartbeats 3200000 in
theorem topPack_B (w W : World) (ao : Option Addr) (cap B5 : Nat) (os : List OpC) (co : Option Addr) (cl ck : Nat) (qs : List Nc) (hbe : Below w.heap.size w W) (hx : One W B5 (.slice co cl ck)) (hc : CatN W (.slice co cl ck) qs) (hok : CatOk (qs.map (·.x))) (ht : TabP w) (hm : MaxL w)
  {sl1 sl2 sl3 sl4 sl6 sl7 sl8 sl9 sl10 sl11 sl12 sl13 sl14 sl15 sl16 sl17 sl18 sl19 sl20 sl21 sl22 sl23 sl24 sl25 sl26 sl27 sl28 sl29 sl30 sl31 sl32 sl33 sl34 sl35 sl36 sl37 sl38 sl39 sl40 sl41 sl42 sl43 sl44 sl45 sl46 sl47 sl48 sl49 sl50 sl51 sl52 sl53 sl54 sl55 sl56 sl57 sl58 sl59 sl60 sl61 sl62 sl63 sl64 sl65 sl66 sl67 sl68 sl69 sl70 sl71 sl72 sl73 sl74 sl75 sl76 sl77 sl78 sl79 sl80 sl81 sl82 sl83 sl84 sl85 sl86 sl87 sl88 sl89 sl90 sl91 sl92 sl93 sl94 : Value} :
  (Code.tail (Code.tail (Code.tail (Code.tail (Code.tail (Code.tail ((Tryd.f3.body).getD .skip))))))).wp Tryd.prog (bodyPost Tryd.prog Tryd.f3 (fun e w' => e = .returned (.bool true) ∧ Below w.heap.size w w')) ⟨#[(.slice ao os.length cap), sl1, sl2, sl3, sl4, (.pointer (some ⟨B5, 0, none⟩)), sl6, sl7, sl8, sl9, sl10, sl11, sl12, sl13, sl14, sl15, sl16, sl17, sl18, sl19, sl20, sl21, sl22, sl23, sl24, sl25, sl26, sl27, sl28, sl29, sl30, sl31, sl32, sl33, sl34, sl35, sl36, sl37, sl38, sl39, sl40, sl41, sl42, sl43, sl44, sl45, sl46, sl47, sl48, sl49, sl50, sl51, sl52, sl53, sl54, sl55, sl56, sl57, sl58, sl59, sl60, sl61, sl62, sl63, sl64, sl65, sl66, sl67, sl68, sl69, sl70, sl71, sl72, sl73, sl74, sl75, sl76, sl77, sl78, sl79, sl80, sl81, sl82, sl83, sl84, sl85, sl86, sl87, sl88, sl89, sl90, sl91, sl92, sl93, sl94], []⟩ W := by
 simp only [Code.tail, Tryd.f3, Option.getD_some]
 have HB := hide hbe; have X5 := hide hx; have HC := hide hc; have HOK := hide hok; have HT := hide ht; have HM := hide hm
 have HN : Hid (qs.length ≤ 100) := by have := hok.few; rw [List.length_map] at this; show _ ≤ _; omega
 have HG : Hid (∀ x ∈ qs.map (·.x), x.gens.length ≤ 1000 ∧ ∀ g ∈ x.gens, g.length ≤ 1000000) := fun x hx => by
  have h1 := hok.all x hx
  refine ⟨by have := h1.few; omega, fun g hg => ?_⟩
  have h2 := (genF_ok.1 (h1.gens g hg)).1
  have h3 := h1.n
  omega
 obtain ⟨c5, -, -⟩ := hx
 clear hbe hc hok ht hm
 go_wp2_with fail
 clear c5
 refine (textP_any W _ qs ⟨_, rfl, HC.out⟩ HOK.out (HT.out.below HB.out)).mono ?_
 rintro e w1 ⟨rfl, hb1⟩
 obtain ⟨TS, hTS⟩ : ∃ TS, (⟨(textC (qs.map (·.x))).toArray⟩ : ByteArray) = TS := ⟨_, rfl⟩
 rw [hTS]
 have HTS := hide hTS
 have X5a := hide (X5.out.later hb1); have HCa := hide (HC.out.below hb1); have HBa := hide (HB.out.trans (hb1.mono HB.out.size))
 clear hTS hb1 X5 HC HB
 go_wp2_with fail
 refine (parse_ok w1 TS (qs.map (·.x)) HOK.out (HT.out.below HBa.out) (HM.out.below HBa.out) (show TS = bytesP (textC (qs.map (·.x))) from HTS.out.symm)).mono ?_
 rintro e w2 hres
 obtain ⟨o, n, k, q2, rfl, hc2, hq2, hb2⟩ := catRes_ok hres
 have hbA := alloc_below w2 (.cells #[.slice o n k] 25)
 have X13 := hide (One.new w2 (.slice o n k) 25)
 have X5 := hide ((X5a.out.later hb2).later hbA); have HC := hide ((HCa.out.below hb2).below hbA); have HC2 := hide (hc2.below hbA)
 have HBb := hide (HBa.out.trans (hb2.mono HBa.out.size))
 have HB := hide (HBb.out.trans (hbA.mono HBb.out.size))
 have HQ2 := hide hq2
 have HN2 : Hid (q2.length ≤ 100) := by have h1 := congrArg List.length hq2; have h2 := HN.out; simp only [List.length_map] at h1; show _ ≤ _; omega
 have HOK2 : Hid (∀ x ∈ q2.map (·.x), NmOk x) := by show ∀ x ∈ _, _; rw [hq2]; exact HOK.out.all
 clear hres hc2 hq2 hb2 hbA X5a HCa HBa HBb HTS
 go_wp2_with fail
 obtain ⟨W3, hW3⟩ : ∃ W3, w2.alloc (.cells #[.slice o n k] 25) = W3 := ⟨_, rfl⟩
 rw [hW3] at X13 X5 HC HC2 HB
 rw [hW3]
 obtain ⟨c13, -, -⟩ := X13.out
 obtain ⟨c5, -, -⟩ := X5.out
 refine wp_region_held_drew (S := (fun w' => w'.cell? ⟨w2.heap.size, 0, none⟩ = some (.slice o n k) ∧ w'.cell? ⟨B5, 0, none⟩ = some (.slice co cl ck))) (by kernel_rfl) (by (try dsimp only); go_keep) (fun hHeld => ?_)
 refine held_run (v := ?_) 0 86 rfl rfl (by kernel_rfl) (by kernel_rfl) (by kernel_rfl) (fun _ _ _ h => h) (by rfl) ?_ (by assumption) ?_
 rotate_left
 ·(intro w hSw; (try dsimp only at hSw); go_simp; with_reducible rfl)
 simp only [Act.put, List.setIfInBounds_toArray, List.set_cons_zero, List.set_cons_succ]
 refine held_run (v := ?_) 1 87 rfl rfl (by kernel_rfl) (by kernel_rfl) (by kernel_rfl) (fun _ _ _ h => h) (by rfl) ?_ (by assumption) ?_
 rotate_left
 ·(intro w hSw; (try dsimp only at hSw); go_simp; with_reducible rfl)
 simp only [Act.put, List.setIfInBounds_toArray, List.set_cons_zero, List.set_cons_succ]
 refine held_run (v := ?_) 2 88 rfl rfl (by kernel_rfl) (by kernel_rfl) (by kernel_rfl) (fun _ _ _ h => h) (by rfl) ?_ (by assumption) ?_
 rotate_left
 ·(intro w hSw; (try dsimp only at hSw); go_simp; with_reducible rfl)
 simp only [Act.put, List.setIfInBounds_toArray, List.set_cons_zero, List.set_cons_succ]
 refine held_run (v := ?_) 3 89 rfl rfl (by kernel_rfl) (by kernel_rfl) (by kernel_rfl) (fun _ _ _ h => h) (by rfl) ?_ (by assumption) ?_
 rotate_left
 ·(intro w hSw; (try dsimp only at hSw); go_simp; with_reducible rfl)
 simp only [Act.put, List.setIfInBounds_toArray, List.set_cons_zero, List.set_cons_succ]
 refine held_run (v := ?_) 5 91 rfl rfl (by kernel_rfl) (by kernel_rfl) (by kernel_rfl) (fun _ _ _ h => h) (by rfl) ?_ (by assumption) ?_
 rotate_left
 ·(intro w hSw; (try dsimp only at hSw); go_simp; with_reducible rfl)
 simp only [Act.put, List.setIfInBounds_toArray, List.set_cons_zero, List.set_cons_succ]
 refine wpAnyH_ready (rs := [4]) (by kernel_rfl) (by simp) (AllReadyH.cons (o := _) rfl (fun K hK => ?_) AllReadyH.nil)
 go_simp
 (refine (lattices_any2 _ _ q2 ⟨_, rfl, HC2.out.below (Below.refl _ _).drew⟩ HN2.out HOK2.out).mono ?_; rintro e w4 ⟨u1, rs1, rfl, hcr1, hrs1, hb4'⟩; have hb4 : Below W3.heap.size W3 w4 := (Below.refl _ _).drew.trans (hb4'.mono (by simp)); clear hb4'; obtain ⟨d13, -, -⟩ := X13.out.later hb4; obtain ⟨d5, -, -⟩ := X5.out.later hb4)
 go_wp2_with fail
 refine hK.out _ _ (by (try dsimp only); go_keep) (fun hHeld => ?_)
 clear hK K
 try simp only [Act.put, List.setIfInBounds_toArray, List.set_cons_zero, List.set_cons_succ]
 refine wpAnyH_ready (rs := [6]) (by kernel_rfl) (by simp) (AllReadyH.cons (o := _) rfl (fun K hK => ?_) AllReadyH.nil)
 go_simp
 (refine (lattices_any2 _ _ qs ⟨_, rfl, HC.out.below hb4⟩ HN.out HOK.out.all).mono ?_; rintro e w5 ⟨u2, rs2, rfl, hcr2, hrs2, hb5⟩; obtain ⟨e13, -, -⟩ := (X13.out.later hb4).later hb5; obtain ⟨e5, -, -⟩ := (X5.out.later hb4).later hb5)
 go_wp2_with fail
 refine hK.out _ _ (by (try dsimp only); go_keep) (fun hHeld => ?_)
 clear hK K
 try simp only [Act.put, List.setIfInBounds_toArray, List.set_cons_zero, List.set_cons_succ]
 refine wpAnyH_ready (rs := [7]) (by kernel_rfl) (by simp) (AllReadyH.cons (o := _) rfl (fun K hK => ?_) AllReadyH.nil)
 go_simp
 (refine (sameCatalog_any _ u1 u2 rs1 rs2 (hcr1.below hb5) hcr2 (by have h1 := congrArg List.length hrs1; have h2 := HN2.out; simp only [List.length_map] at h1; omega) (fun p hp => HG.out p.x (by rw [← HQ2.out, ← hrs1]; exact List.mem_map.2 ⟨p, hp, rfl⟩)) true ⟨fun _ => by rw [hrs1, hrs2]; exact HQ2.out, fun _ => rfl⟩).mono ?_; rintro e w6 ⟨rfl, hb6⟩; obtain ⟨f13, -, -⟩ := ((X13.out.later hb4).later hb5).later hb6; obtain ⟨f5, -, -⟩ := ((X5.out.later hb4).later hb5).later hb6)
 go_wp2_with fail
 refine hK.out _ _ (by (try dsimp only); go_keep) (fun hHeld => ?_)
 clear hK K
 try simp only [Act.put, List.setIfInBounds_toArray, List.set_cons_zero, List.set_cons_succ]
 refine held_run (v := ?_) 8 94 rfl rfl (by kernel_rfl) (by kernel_rfl) (by kernel_rfl) (fun _ _ _ h => h) (by rfl) ?_ (by assumption) ?_
 rotate_left
 ·(intro w hSw; (try dsimp only at hSw); go_simp; with_reducible rfl)
 simp only [Act.put, List.setIfInBounds_toArray, List.set_cons_zero, List.set_cons_succ]
 refine held_run (v := ?_) 9 2 rfl rfl (by kernel_rfl) (by kernel_rfl) (by kernel_rfl) (fun _ _ _ h => h) (by rfl) ?_ (by assumption) ?_
 rotate_left
 ·(intro w hSw; (try dsimp only at hSw); go_simp; with_reducible rfl)
 simp only [Act.put, List.setIfInBounds_toArray, List.set_cons_zero, List.set_cons_succ]
 refine wpAnyH_done (by kernel_rfl) ?_ _
 go_wp2_with fail
 go_ret
 exact ⟨rfl, HB.out.trans ((hb4.trans ((hb5.mono hb4.size).trans (hb6.mono (Nat.le_trans hb4.size hb5.size)))).mono HB.out.size)⟩

set_option linter.unusedSimpArgs false in
set_option maxRecDepth 100000 in
set_option maxHeartbeats 3200000 in
theorem topPack_H (w : World) (ao : Option Addr) (cap : Nat) (os : List OpC) (hops : OpsN w (.slice ao os.length cap) os) (ht : TabP w) (hm : MaxL w) :
  Calls Tryd.prog 3 #[.slice ao os.length cap] w (fun e w' => e = .returned (.bool true) ∧ Below w.heap.size w w') := by
 have HO := hide hops; have HT := hide ht; have HM := hide hm
 clear hops ht hm
 go_enter Tryd.func3, Tryd.ntmps3
 go_wp2_with fail
 refine (parse_ok w _ [⟨⟨#[97]⟩, 1, []⟩] catOk_a HT.out HM.out text_a).mono ?_
 rintro e w1 hres
 obtain ⟨o, n, k, qs, rfl, hc, hq, hb1⟩ := catRes_ok hres
 have hbA := alloc_below w1 (.cells #[.slice o n k] 25)
 have X3 := hide (One.new w1 (.slice o n k) 25)
 have HC := hide (hc.below hbA); have HQ := hide hq
 have HB := hide (hb1.trans (hbA.mono hb1.size))
 have HQL : Hid (qs.length = 1) := by have := congrArg List.length hq; simp only [List.length_map] at this; exact this
 clear hres hc hq hb1 hbA
 obtain ⟨c3, -, -⟩ := X3.out
 go_wp2_with fail
 generalize w1.alloc (.cells #[.slice o n k] 25) = W2 at *
 clear c3
 refine (lattices_any2 W2 _ qs ⟨_, rfl, HC.out⟩ (by have := HQL.out; omega) (by rw [HQ.out]; exact catOk_a.all)).mono ?_
 rintro e w3 ⟨u, rs, rfl, hcr, hrs, hb3⟩
 have hrl : rs.length = 1 := by have := congrArg List.length hrs; simp only [List.length_map] at this; rw [this]; exact HQL.out
 obtain ⟨ro, rc, rfl, -⟩ := hcr
 rw [hrl]
 have HB3 := hide (HB.out.trans (hb3.mono HB.out.size))
 clear hb3 hrs hrl X3 HC HQ HQL HB
 go_wp2_with fail
 refine (lightOps_any w3 _ os 60 (HO.out.below HB3.out) (by omega)).mono ?_
 rintro e w4 ⟨rfl, rfl⟩
 cases hL : lightL os 60 with
 | false =>
  go_wp2
  go_ret
  exact ⟨rfl, HB3.out⟩
 | true =>
  obtain ⟨hl60, hli⟩ := lightL_ok hL
  have HLI := hide hli; have HLN := hide hl60
  have hbA := alloc_below w4 (.cells #[.slice none 0 0] 25)
  have X5 := hide (One.new w4 (.slice none 0 0) 25)
  have HB5 := hide (HB3.out.trans (hbA.mono HB3.out.size))
  clear hli hL hl60 hbA
  go_upto_region 6 with fail
  go_cut [5] from 14 (fun v wx => v = .pointer (some ⟨w4.heap.size, 0, none⟩) ∧ wx = w4.alloc (.cells #[.slice none 0 0] 25))
  case first =>
   go_wp2
   go_meet
   case rel => exact ⟨rfl, rfl⟩
  case rest =>
   obtain ⟨rfl, rfl⟩ := hcut
   apply_assumption
   exact topPack_A w _ ao cap _ os HB5.out HO.out (fun q hq => (HLI.out q hq).2) (by have := HLN.out; omega) HB3.out.size X5.out (fun W' co cl ck qs a1 a2 a3 a4 => topPack_B w W' ao cap _ os co cl ck qs a1 a2 a3 a4 HT.out HM.out)

end Go.Proofs.YtmalhbkmfddhoaaDoor

/- Whole numbers that came in, in a row: as they read. -/
namespace Go.Proofs.YtmalhbkmfddhoaaDoor
open Go.ChangeShapes Go.WideShapes Go.ChangeAt Go.RowKit Go.Joins Limbs

theorem Tryd.cellsIntS : Tryd.prog.cellsOf 34 = 1 := by kernel_rfl
theorem Tryd.cellsInt : Tryd.prog.cellsOf 3 = 1 := by kernel_rfl

set_option maxRecDepth 100000 in
theorem open_rowS {H : Type} {enc : TypeId × Value → H} {W : World} {n : Nat} {v : Value} {y : DataW H × List MemPlace}
  (h : DataW.trod enc Tryd.prog W 0 (fun _ => true) true n 34 [v] = some y) : ∃ ks, RowS W v ks := by
 rcases open_ints Tryd.underlying34 Tryd.underlying3 Tryd.cellsInt h with ⟨hcs, _⟩ | ⟨x, l, c, zs, hcs, _, hl, hm, hz, _, hcell, hwz⟩
 ·simp only [List.cons.injEq, and_true] at hcs
  subst hcs
  exact ⟨[], none, 0, rfl, Nat.le_refl _, fun i => by simp, fun h => absurd h (by simp)⟩
 ·simp only [List.cons.injEq, and_true] at hcs
  subst hcs
  have hz' : zs.length = c := by simpa using hz
  have hlen : (zs.take l).length = l := by rw [List.length_take]; omega
  refine ⟨zs.take l, some x, c, by rw [hlen], by rw [hlen]; exact hl, fun i => ?_, fun h0 => ?_⟩
  ·by_cases hi : i < (zs.take l).length
   ·rw [List.getD_eq_getElem?_getD, List.getElem?_eq_getElem hi, Option.getD_some]
    have := hwz _ (List.mem_of_mem_take (List.getElem_mem hi))
    simp [Lit.wf, IntKind.min, IntKind.max, IntKind.signed, IntKind.bits] at this
    rw [List.getElem_take]
    omega
   ·rw [List.getD_eq_getElem?_getD, List.getElem?_eq_none (by omega)]
    simp
  ·obtain ⟨blk, off, spot⟩ := x
   rw [hlen] at h0
   have h00 := hcell 0 (by omega)
   have hspot : spot = none := by simpa [Addr.add] using World.cell?_spot h00
   subst hspot
   refine ⟨blk, off, rfl, World.block_lt_of_cell? W _ h00, fun i hi => ?_⟩
   rw [hlen] at hi
   have := hcell i (by omega)
   rw [getD_take zs l i (by omega)]
   by_cases hi0 : i = 0
   ·subst hi0; simpa [Addr.add] using this
   ·simpa [Addr.add, hi0] using this

end Go.Proofs.YtmalhbkmfddhoaaDoor

/- Operations that came in, as they read: all four cells. -/
namespace Go.Proofs.YtmalhbkmfddhoaaDoor
open Go.ChangeShapes Go.WideShapes Go.ChangeAt Go.RowKit Go.Joins

theorem Tryd.cellsOpF : Tryd.prog.cellsOf 36 = 4 := by kernel_rfl
theorem Tryd.cellsStrF : Tryd.prog.cellsOf 9 = 1 := by kernel_rfl

instance : Inhabited OpC := ⟨⟨⟨0, ⟨#[]⟩, 0, []⟩, none, 0⟩⟩

section
variable {H : Type} {enc : TypeId × Value → H} {W : World}

set_option maxRecDepth 100000 in
theorem open_opF {n : Nat} {cs : List Value} {y : DataW H × List MemPlace} (h : DataW.trod enc Tryd.prog W 0 (fun _ => true) true n 36 cs = some y) :
  ∃ q : OpC, cs[0]? = some (.int .i64 q.o.kind) ∧ cs[1]? = some (.string q.o.name) ∧ cs[2]? = some (.int .i64 q.o.n) ∧ cs[3]? = some q.row ∧ RowS W q.row q.o.v := by
 obtain ⟨xs, k, -, -, hl, hxl, hf⟩ := DataW.trod_struct Tryd.underlying36 h
 rw [Tryd.cellsOpF] at hl
 match cs, hl with
 | [v0, v1, v2, v3], _ =>
  match xs, hxl with
  | [x0, x1, x2, x3], _ =>
   have g0 : DataW.trod enc Tryd.prog W 0 (fun _ => true) true k 3 (([v0, v1, v2, v3].drop 0).take (Tryd.prog.cellsOf 3)) = [x0, x1, x2, x3][0]? := hf 0 _ rfl
   have g1 : DataW.trod enc Tryd.prog W 0 (fun _ => true) true k 9 (([v0, v1, v2, v3].drop 1).take (Tryd.prog.cellsOf 9)) = [x0, x1, x2, x3][1]? := hf 1 _ rfl
   have g2 : DataW.trod enc Tryd.prog W 0 (fun _ => true) true k 3 (([v0, v1, v2, v3].drop 2).take (Tryd.prog.cellsOf 3)) = [x0, x1, x2, x3][2]? := hf 2 _ rfl
   have g3 : DataW.trod enc Tryd.prog W 0 (fun _ => true) true k 34 (([v0, v1, v2, v3].drop 3).take (Tryd.prog.cellsOf 34)) = [x0, x1, x2, x3][3]? := hf 3 _ rfl
   rw [Tryd.cellsInt] at g0 g2
   rw [Tryd.cellsStrF] at g1
   rw [Tryd.cellsIntS] at g3
   obtain ⟨kd, e0, -, -⟩ := DataW.trod_int Tryd.underlying3 g0
   obtain ⟨name, e1, -, -⟩ := DataW.trod_string Tryd.underlying9 g1
   obtain ⟨nn, e2, -, -⟩ := DataW.trod_int Tryd.underlying3 g2
   obtain ⟨ks, hr⟩ := open_rowS (v := v3) g3
   have e0' : v0 = .int .i64 kd := by simpa using e0
   have e1' : v1 = .string name := by simpa using e1
   have e2' : v2 = .int .i64 nn := by simpa using e2
   obtain ⟨vo, vc, e3'⟩ := RowS.form hr
   subst e0' e1' e2' e3'
   exact ⟨⟨⟨kd, name, nn, ks⟩, vo, vc⟩, rfl, rfl, rfl, rfl, hr⟩

set_option maxRecDepth 100000 in
theorem open_opsN {n : Nat} {v : Value} {y : DataW H × List MemPlace} (h : DataW.trod enc Tryd.prog W 0 (fun _ => true) true n 22 [v] = some y) : ∃ os, OpsN W v os := by
 rcases Go.Deep.open_slice Tryd.underlying22 h with ⟨e, -⟩ | ⟨a, l, c, m, n, D, Pl, e, -, hl, hm, hmm, -, hc⟩
 ·have e' : v = .slice none 0 0 := by simpa using e
  exact ⟨[], none, 0, e', by decide, fun h => absurd h (by decide)⟩
 ·have e' : v = .slice (some a) l c := by simpa using e
  have hm' : l ≤ m := by simp at hmm; omega
  have each : ∀ i, i < l → ∃ q : OpC, W.cell? (a.add (i * 4 + 0)) = some (.int .i64 q.o.kind) ∧ W.cell? (a.add (i * 4 + 1)) = some (.string q.o.name) ∧ W.cell? (a.add (i * 4 + 2)) = some (.int .i64 q.o.n) ∧ W.cell? (a.add (i * 4 + 3)) = some q.row ∧ RowS W q.row q.o.v := fun i hi => by
   obtain ⟨cs, h1, h2⟩ := hc i (by omega)
   rw [Tryd.cellsOpF] at h1
   obtain ⟨-, hlen, hcell⟩ := World.cells?_some h1
   obtain ⟨q, e0, e1, e2, e3, hr⟩ := open_opF h2
   have c0 := hcell 0 (by omega)
   have c1 := hcell 1 (by omega)
   have c2 := hcell 2 (by omega)
   have c3 := hcell 3 (by omega)
   rw [Go.Deep.add_add, e0] at c0
   rw [Go.Deep.add_add, e1] at c1
   rw [Go.Deep.add_add, e2] at c2
   rw [Go.Deep.add_add, e3] at c3
   exact ⟨q, c0, c1, c2, c3, hr⟩
  obtain ⟨q, hq⟩ := Go.Deep.choose_lt each
  have hlen : ((List.range l).map q).length = l := by simp
  refine ⟨(List.range l).map q, some a, c, by rw [hlen]; exact e', by rw [hlen]; exact hl, fun h0 => ?_⟩
  rw [hlen] at h0
  obtain ⟨k0, -⟩ := hq 0 h0
  obtain ⟨blk, off, spot⟩ := a
  have hsp : spot = none := by simpa [Addr.add] using World.cell?_spot k0
  subst hsp
  refine ⟨blk, off, rfl, by simpa [Addr.add] using World.block_lt_of_cell? W _ k0, fun i r hi => ?_⟩
  obtain ⟨hi', e⟩ := List.getElem?_eq_some_iff.1 hi
  rw [hlen] at hi'
  have e2 : r = q i := by simpa using e.symm
  obtain ⟨c0, c1, c2, c3, hr⟩ := hq i hi'
  rw [Go.WideShapes.add_plain] at c0 c1 c2 c3
  rw [e2]
  refine ⟨by simpa using c0, ?_, ?_, ?_, hr⟩
  ·rw [Nat.add_assoc]; exact c1
  ·rw [Nat.add_assoc]; exact c2
  ·rw [Nat.add_assoc]; exact c3

set_option maxRecDepth 100000 in
theorem open_opsV {r : Reach} {b0 : Nat} {v : Value} {d : DataW H} {p : List MemPlace} (hv : Value.okWide Tryd.prog W r b0 22 v) (h : DataW.Trod enc Tryd.prog W 0 (fun _ => true) true 22 v d p) : ∃ os, OpsN W v os := by
 obtain ⟨a0, len, cap, rfl⟩ := okWide_slice Tryd.underlying22 hv
 obtain ⟨fuel, hf⟩ := h
 exact open_opsN (v := .slice a0 len cap) hf

end

end Go.Proofs.YtmalhbkmfddhoaaDoor
