/- TopPack: operations as bytes and back, applied one by one. -/
import Derived.Test.YtmalhbkmfddhoaaDoorBpB
import Derived.Test.YtmalhbkmfddhoaaDoorTl2
import Derived.Deep.Cut
import Derived.Deep.CutRange
import Derived.Deep.CutBlock
namespace Go.Proofs.YtmalhbkmfddhoaaDoor
open Go.RowKit

def packP : Nat → List Nat
 | 3 => [1, 2]
 | 4 => [3]
 | 5 => [0, 4]
 | _ => []

theorem big_none {o : OpV} (h : o.v.length = 0) : bigB o = false := by
 unfold bigB
 rw [List.length_eq_zero_iff.1 h]
 rfl

theorem opF_zero {o : OpV} (h1 : shapeB o = true) (h2 : bigB o = false) : opF o = 0 := by
 unfold opF
 rw [h1, h2]
 rfl

theorem apply_opF {cs : List Nmd} (hc : CatOk cs) (o : OpV) (h : (applyC cs o).1 = 0) : opF o = 0 := by
 unfold applyC at h
 by_cases h1 : opOk o = false
 ·rw [if_pos h1] at h; cases h
 rw [if_neg h1] at h
 have h1' : opOk o = true := by simpa using h1
 unfold opOk at h1'
 simp only [Bool.and_eq_true, Bool.or_eq_true, decide_eq_true_eq] at h1'
 obtain ⟨hn, hk⟩ := h1'
 by_cases h2 : o.kind = 1
 ·rw [if_pos h2] at h
  by_cases h3 : ¬ (1 ≤ o.n ∧ o.n ≤ 4)
  ·rw [if_pos h3] at h; cases h
  have hl : o.v.length = 0 := by omega
  refine opF_zero ?_ (big_none hl)
  unfold shapeB
  rw [hn, decide_eq_true (by omega), decide_eq_true (by omega), decide_eq_true (by omega)]
  rfl
 rw [if_neg h2] at h
 by_cases h3 : hasL cs o.name = false
 ·rw [if_pos h3] at h; cases h
 rw [if_neg h3] at h
 by_cases h4 : o.kind = 2
 ·have hl : o.v.length = 0 ∧ o.n = 0 := by omega
  refine opF_zero ?_ (big_none hl.1)
  unfold shapeB
  rw [hn, decide_eq_true (by omega), decide_eq_true (by omega), decide_eq_true (by omega)]
  rfl
 rw [if_neg h4] at h
 cases hx : cs[placeL cs o.name]? with
 | none => rw [hx] at h; cases h
 | some x =>
  rw [hx] at h
  dsimp only at h
  by_cases h5 : genF o.v x.n ≠ 0
  ·rw [if_pos h5] at h; exact absurd h h5
  have h5' : genF o.v x.n = 0 := by simpa using h5
  obtain ⟨h6, h7⟩ := genF_ok.1 h5'
  have hxn := (hc.all x (List.mem_of_getElem? hx)).n
  refine opF_zero ?_ ?_
  ·unfold shapeB
   rw [hn, decide_eq_true (by omega), decide_eq_true (by omega), decide_eq_true (by omega)]
   rfl
  ·unfold bigB
   rw [List.any_eq_false]
   intro z hz
   have := h7 z hz
   simp only [decide_eq_true_eq]
   omega

set_option linter.unusedSimpArgs false in
set_option maxRecDepth 100000 in
set_option maxHeartbeats 3200000 in
theorem topPack_A (w W : World) (ao : Option Addr) (cap B5 : Nat) (os : List OpC) (hbe : Below w.heap.size w W) (hops : OpsN w (.slice ao os.length cap) os) (hl : ∀ q ∈ os, q.o.v.length ≤ 10) (hl4 : os.length ≤ 1000) (h5 : w.heap.size ≤ B5) (hx : One W B5 (.slice none 0 0))
  (hB : ∀ (W' : World) (co : Option Addr) (cl ck : Nat) (qs : List Nc), Below w.heap.size w W' → One W' B5 (.slice co cl ck) → CatN W' (.slice co cl ck) qs → CatOk (qs.map (·.x)) → ∀ {sl1 sl2 sl3 sl4 sl6 sl7 sl8 sl9 sl10 sl11 sl12 sl13 sl14 sl15 sl16 sl17 sl18 sl19 sl20 sl21 sl22 sl23 sl24 sl25 sl26 sl27 sl28 sl29 sl30 sl31 sl32 sl33 sl34 sl35 sl36 sl37 sl38 sl39 sl40 sl41 sl42 sl43 sl44 sl45 sl46 sl47 sl48 sl49 sl50 sl51 sl52 sl53 sl54 sl55 sl56 sl57 sl58 sl59 sl60 sl61 sl62 sl63 sl64 sl65 sl66 sl67 sl68 sl69 sl70 sl71 sl72 sl73 sl74 sl75 sl76 sl77 sl78 sl79 sl80 sl81 sl82 sl83 sl84 sl85 sl86 sl87 sl88 sl89 sl90 sl91 sl92 sl93 sl94 : Value}, (Code.tail (Code.tail (Code.tail (Code.tail (Code.tail (Code.tail ((Tryd.f3.body).getD .skip))))))).wp Tryd.prog (bodyPost Tryd.prog Tryd.f3 (fun e w' => e = .returned (.bool true) ∧ Below w.heap.size w w')) ⟨#[(.slice ao os.length cap), sl1, sl2, sl3, sl4, (.pointer (some ⟨B5, 0, none⟩)), sl6, sl7, sl8, sl9, sl10, sl11, sl12, sl13, sl14, sl15, sl16, sl17, sl18, sl19, sl20, sl21, sl22, sl23, sl24, sl25, sl26, sl27, sl28, sl29, sl30, sl31, sl32, sl33, sl34, sl35, sl36, sl37, sl38, sl39, sl40, sl41, sl42, sl43, sl44, sl45, sl46, sl47, sl48, sl49, sl50, sl51, sl52, sl53, sl54, sl55, sl56, sl57, sl58, sl59, sl60, sl61, sl62, sl63, sl64, sl65, sl66, sl67, sl68, sl69, sl70, sl71, sl72, sl73, sl74, sl75, sl76, sl77, sl78, sl79, sl80, sl81, sl82, sl83, sl84, sl85, sl86, sl87, sl88, sl89, sl90, sl91, sl92, sl93, sl94], []⟩ W') {sl1 sl2 sl3 sl4 sl6 sl7 sl8 sl9 sl10 sl11 sl12 sl13 sl14 sl15 sl16 sl17 sl18 sl19 sl20 sl21 sl22 sl23 sl24 sl25 sl26 sl27 sl28 sl29 sl30 sl31 sl32 sl33 sl34 sl35 sl36 sl37 sl38 sl39 sl40 sl41 sl42 sl43 sl44 sl45 sl46 sl47 sl48 sl49 sl50 sl51 sl52 sl53 sl54 sl55 sl56 sl57 sl58 sl59 sl60 sl61 sl62 sl63 sl64 sl65 sl66 sl67 sl68 sl69 sl70 sl71 sl72 sl73 sl74 sl75 sl76 sl77 sl78 sl79 sl80 sl81 sl82 sl83 sl84 sl85 sl86 sl87 sl88 sl89 sl90 sl91 sl92 sl93 sl94 : Value} :
  (Code.tail (Code.tail (Code.tail (Code.tail (Code.tail ((Tryd.f3.body).getD .skip)))))).wp Tryd.prog (bodyPost Tryd.prog Tryd.f3 (fun e w' => e = .returned (.bool true) ∧ Below w.heap.size w w')) ⟨#[(.slice ao os.length cap), sl1, sl2, sl3, sl4, (.pointer (some ⟨B5, 0, none⟩)), sl6, sl7, sl8, sl9, sl10, sl11, sl12, sl13, sl14, sl15, sl16, sl17, sl18, sl19, sl20, sl21, sl22, sl23, sl24, sl25, sl26, sl27, sl28, sl29, sl30, sl31, sl32, sl33, sl34, sl35, sl36, sl37, sl38, sl39, sl40, sl41, sl42, sl43, sl44, sl45, sl46, sl47, sl48, sl49, sl50, sl51, sl52, sl53, sl54, sl55, sl56, sl57, sl58, sl59, sl60, sl61, sl62, sl63, sl64, sl65, sl66, sl67, sl68, sl69, sl70, sl71, sl72, sl73, sl74, sl75, sl76, sl77, sl78, sl79, sl80, sl81, sl82, sl83, sl84, sl85, sl86, sl87, sl88, sl89, sl90, sl91, sl92, sl93, sl94], []⟩ W := by
 simp only [Code.tail, Tryd.f3, Option.getD_some]
 have HB := hide hB; have HOPS := hide hops; have HL := hide hl; have HBE := hide hbe; have HX := hide hx
 clear hB hops hl hbe hx
 go_upto_block 0 with fail
 go_cut [6, 7, 8, 9, 10, 11, 12] from 29 to 79 (fun _ _ _ _ _ _ _ wc => ∃ co cl ck qs, One wc B5 (.slice co cl ck) ∧ CatN wc (.slice co cl ck) qs ∧ CatOk (qs.map (·.x)) ∧ Below w.heap.size w wc)
 case first =>
  clear HB
  go_wp2_with fail
  go_loopw [6] (fun i wr => ∃ (k : Nat) (co : Option Addr) (cl ck : Nat) (qs : List Nc), k ≤ os.length ∧ i = .int .i64 k ∧ Hid (One wr B5 (.slice co cl ck)) ∧ Hid (CatN wr (.slice co cl ck) qs) ∧ Hid (CatOk (qs.map (·.x))) ∧ Hid (Below w.heap.size w wr)) (fun i _ => os.length - (intOf i).toNat)
  case atStart => exact ⟨0, none, 0, 0, [], Nat.zero_le _, rfl, HX, hide ⟨none, 0, rfl, Nat.le_refl _, fun h => absurd h (by simp)⟩, hide catOk_nil, HBE⟩
  case round =>
   clear HX HBE
   obtain ⟨k, co, cl, ck, qs, hk, rfl, X5, HCN, HOK, HBE⟩ := hrel
   by_cases hkl : k < os.length
   ·obtain ⟨_, _, e, -, hh⟩ := HOPS.out.below HBE.out
    simp only [Value.slice.injEq, true_and] at e
    obtain ⟨rfl, rfl⟩ := e
    obtain ⟨b, off, rfl, hltw, hc⟩ := hh (by omega)
    obtain ⟨a0, a1, a2, a3, a4⟩ := hc k os[k] (List.getElem?_eq_getElem hkl)
    have hv10 := HL.out os[k] (List.getElem_mem hkl)
    clear hh hc
    generalize os[k] = q at *
    obtain ⟨⟨kd, nm, nn, vs⟩, vo, vc⟩ := q
    simp only [OpC.row] at a3 a4
    dsimp only at a0 a1 a2 a3 a4 hv10
    have HRV := hide a4
    clear a4
    obtain ⟨r, hr⟩ : ∃ r, applyC (qs.map (·.x)) ⟨kd, nm, nn, vs⟩ = r := ⟨_, rfl⟩
    have HR := hide hr
    have HROK : Hid (r.1 = 0 → ∀ x ∈ r.2, NmOk x) := fun h0 => by rw [← hr] at h0 ⊢; exact (applyC_ok HOK.out _ h0).all
    have HRC : Hid (r.1 = 0 → CatOk r.2) := fun h0 => by rw [← hr] at h0 ⊢; exact applyC_ok HOK.out _ h0
    have HFO : Hid (r.1 = 0 → opF ⟨kd, nm, nn, vs⟩ = 0) := fun h0 => by rw [← hr] at h0; exact apply_opF HOK.out _ h0
    clear hr
    go_wp2_with fail
    refine (packOp_any wr ⟨kd, nm, nn, vs⟩ vo vc HRV.out).mono ?_
    rintro e w1 ⟨rfl, hb1⟩
    obtain ⟨E8, hE8⟩ : ∃ E, errV (opF ⟨kd, nm, nn, vs⟩) = E := ⟨_, rfl⟩
    obtain ⟨S7, hS7⟩ : ∃ S, opS ⟨kd, nm, nn, vs⟩ = S := ⟨_, rfl⟩
    rw [hE8, hS7]
    have HE8 := hide hE8; have HS7 := hide hS7
    clear hE8 hS7
    go_upto_region 11 with fail
    go_cut [44] from 29 to 79 (fun v wx => v = .bool (decide (opF ⟨kd, nm, nn, vs⟩ = 0)) ∧ wx = w1)
    case first =>
     clear X5 HCN HOK HBE HROK HRC HFO HR HRV HS7 a0 a1 a2 a3
     by_cases hF : opF ⟨kd, nm, nn, vs⟩ = 0
     ·have hE := HE8.out
      rw [hF] at hE
      obtain rfl : .nilIface = E8 := hE
      have HF := hide hF
      clear hF HE8
      go_wp2
      go_meet
      case rel => exact ⟨by rw [decide_eq_true HF.out], rfl⟩
     ·have hE := HE8.out
      unfold errV at hE
      rw [if_neg hF] at hE
      subst hE
      have HF : Hid (¬ opF ⟨kd, nm, nn, vs⟩ = 0) := hF
      clear hF HE8
      go_wp2
      go_meet
      case rel => exact ⟨by rw [decide_eq_false HF.out], rfl⟩
    case rest =>
     obtain ⟨rfl, rfl⟩ := hcut
     apply_assumption
     obtain ⟨WA, hWA⟩ : ∃ WA, WA = wc := ⟨_, rfl⟩
     subst hWA
     have HRA := hide (HRV.out.below hb1 (Nat.le_refl _))
     have c0 := (hb1.cell (p := ⟨b, off + k * 4, none⟩) hltw).trans a0; have c1 := (hb1.cell (p := ⟨b, off + k * 4 + 1, none⟩) hltw).trans a1; have c2 := (hb1.cell (p := ⟨b, off + k * 4 + 2, none⟩) hltw).trans a2; have c3 := (hb1.cell (p := ⟨b, off + k * 4 + 3, none⟩) hltw).trans a3
     have hltw1 : b < WA.heap.size := Nat.lt_of_lt_of_le hltw hb1.size
     have X5a := hide (X5.out.later hb1); have HCa := hide (HCN.out.below hb1); have HBa := hide (HBE.out.trans (hb1.mono HBE.out.size))
     clear X5 HCN HBE HRV hb1 a0 a1 a2 a3 hltw
     go_cut [] from 29 to 79 (fun wx => Below WA.heap.size WA wx)
     case first =>
      clear HR HROK HRC HFO
      by_cases hF : opF ⟨kd, nm, nn, vs⟩ = 0
      ·rw [decide_eq_true hF]
       have hS := HS7.out
       unfold opS at hS
       rw [if_pos hF] at hS
       have hl20 : S7.size ≤ 20 := by
        obtain ⟨-, -, h8, h4⟩ := shapeB_ok (opF_ok hF).1
        have h1 := opB_len ⟨kd, nm, nn, vs⟩
        rw [← hS]
        show (opB _).toArray.size ≤ 20
        rw [List.size_toArray]
        dsimp only at h1 h8 h4
        omega
       have HSD : Hid (opB ⟨kd, nm, nn, vs⟩ = S7.data.toList) := by show _ = _; rw [← hS]
       have HF := hide hF
       have g58 : decide (58 < (S7.size : Int)) = false := decide_eq_false (by omega)
       have HE : Hid (.nilIface = E8) := by have h := HE8.out; rw [hF] at h; exact h
       obtain rfl := HE.out
       clear hS hF HE HE8
       go_wp2_with fail
       refine (unop_any WA S7 (by omega)).mono ?_
       rintro e w2 ⟨h | ⟨o, vo9, vc9, hfo, hbo, rfl, base, hbase, hrow⟩, hb2⟩
       ·exact absurd HSD.out (h.1 _ HF.out)
       obtain rfl : o = ⟨kd, nm, nn, vs⟩ := by
        have h1 := unB_opB hfo
        have h2 := unB_opB HF.out
        rw [hbo, ← HSD.out, h2] at h1
        exact (Option.some.inj h1).symm
       dsimp only at hrow
       dsimp only
       have hbA := alloc_below w2 (.cells #[.int .i64 kd, .string nm, .int .i64 nn, .slice vo9 vs.length vc9] 36)
       have X9 := hide (BoxQ.new w2 (.int .i64 kd) (.string nm) (.int .i64 nn) (.slice vo9 vs.length vc9) 36)
       have HR9 := hide (hrow.row.below hbA (Nat.le_refl _)); have HRB := hide ((HRA.out.below hb2 (Nat.le_refl _)).below hbA (Nat.le_refl _))
       have d0 := (hbA.cell (p := ⟨b, off + k * 4, none⟩) (Nat.lt_of_lt_of_le hltw1 hb2.size)).trans ((hb2.cell (p := ⟨b, off + k * 4, none⟩) hltw1).trans c0); have d1 := (hbA.cell (p := ⟨b, off + k * 4 + 1, none⟩) (Nat.lt_of_lt_of_le hltw1 hb2.size)).trans ((hb2.cell (p := ⟨b, off + k * 4 + 1, none⟩) hltw1).trans c1); have d2 := (hbA.cell (p := ⟨b, off + k * 4 + 2, none⟩) (Nat.lt_of_lt_of_le hltw1 hb2.size)).trans ((hb2.cell (p := ⟨b, off + k * 4 + 2, none⟩) hltw1).trans c2); have d3 := (hbA.cell (p := ⟨b, off + k * 4 + 3, none⟩) (Nat.lt_of_lt_of_le hltw1 hb2.size)).trans ((hb2.cell (p := ⟨b, off + k * 4 + 3, none⟩) hltw1).trans c3)
       have HBW := hide (hb2.trans (hbA.mono hb2.size))
       have hltw9 : b < (w2.alloc (.cells #[.int .i64 kd, .string nm, .int .i64 nn, .slice vo9 vs.length vc9] 36)).heap.size := Nat.lt_of_lt_of_le (Nat.lt_of_lt_of_le hltw1 hb2.size) hbA.size
       clear hbA hb2 hrow hbase hfo hbo c0 c1 c2 c3 HRA X5a HCa HBa
       have HRA := HRB
       clear HRB
       obtain ⟨⟨e0, e1, e2, e3, -⟩, -⟩ := X9.out
       go_wp2_with fail
       generalize w2.alloc (.cells #[.int .i64 kd, .string nm, .int .i64 nn, .slice vo9 vs.length vc9] 36) = W9 at *
       have c0 := d0; have c1 := d1; have c2 := d2; have c3 := d3
       clear d0 d1 d2 d3
       refine wp_region_held_drew (S := (fun w' => w'.cell? ⟨w2.heap.size, 0, none⟩ = some (.int .i64 kd) ∧ w'.cell? ⟨w2.heap.size, 1, none⟩ = some (.string nm) ∧ w'.cell? ⟨w2.heap.size, 2, none⟩ = some (.int .i64 nn) ∧ w'.cell? ⟨w2.heap.size, 3, none⟩ = some (.slice vo9 vs.length vc9) ∧ w'.cell? ⟨b, off + k * 4, none⟩ = some (.int .i64 kd) ∧ w'.cell? ⟨b, off + k * 4 + 1, none⟩ = some (.string nm) ∧ w'.cell? ⟨b, off + k * 4 + 2, none⟩ = some (.int .i64 nn) ∧ w'.cell? ⟨b, off + k * 4 + 3, none⟩ = some (.slice vo vs.length vc))) (by kernel_rfl) (by (try dsimp only); go_keep) (fun hHeld => ?_)
       refine held_run (v := ?_) 0 50 rfl rfl (by kernel_rfl) (by kernel_rfl) (by kernel_rfl) (fun _ _ _ h => h) (by rfl) ?_ (by assumption) ?_
       rotate_left
       ·(intro w hSw; (try dsimp only at hSw); go_simp; with_reducible rfl)
       simp only [Act.put, List.setIfInBounds_toArray, List.set_cons_zero, List.set_cons_succ]
       refine held_run (v := ?_) 1 51 rfl rfl (by kernel_rfl) (by kernel_rfl) (by kernel_rfl) (fun _ _ _ h => h) (by rfl) ?_ (by assumption) ?_
       rotate_left
       ·(intro w hSw; (try dsimp only at hSw); go_simp; with_reducible rfl)
       simp only [Act.put, List.setIfInBounds_toArray, List.set_cons_zero, List.set_cons_succ]
       refine held_run (v := ?_) 2 52 rfl rfl (by kernel_rfl) (by kernel_rfl) (by kernel_rfl) (fun _ _ _ h => h) (by rfl) ?_ (by assumption) ?_
       rotate_left
       ·(intro w hSw; (try dsimp only at hSw); go_simp; with_reducible rfl)
       simp only [Act.put, List.setIfInBounds_toArray, List.set_cons_zero, List.set_cons_succ]
       refine held_run (v := ?_) 3 53 rfl rfl (by kernel_rfl) (by kernel_rfl) (by kernel_rfl) (fun _ _ _ h => h) (by rfl) ?_ (by assumption) ?_
       rotate_left
       ·(intro w hSw; (try dsimp only at hSw); go_simp; with_reducible rfl)
       simp only [Act.put, List.setIfInBounds_toArray, List.set_cons_zero, List.set_cons_succ]
       refine held_run (v := ?_) 4 54 rfl rfl (by kernel_rfl) (by kernel_rfl) (by kernel_rfl) (fun _ _ _ h => h) (by rfl) ?_ (by assumption) ?_
       rotate_left
       ·(intro w hSw; (try dsimp only at hSw); go_simp; with_reducible rfl)
       simp only [Act.put, List.setIfInBounds_toArray, List.set_cons_zero, List.set_cons_succ]
       refine held_run (v := ?_) 5 55 rfl rfl (by kernel_rfl) (by kernel_rfl) (by kernel_rfl) (fun _ _ _ h => h) (by rfl) ?_ (by assumption) ?_
       rotate_left
       ·(intro w hSw; (try dsimp only at hSw); go_simp; with_reducible rfl)
       simp only [Act.put, List.setIfInBounds_toArray, List.set_cons_zero, List.set_cons_succ]
       refine held_run (v := ?_) 6 56 rfl rfl (by kernel_rfl) (by kernel_rfl) (by kernel_rfl) (fun _ _ _ h => h) (by rfl) ?_ (by assumption) ?_
       rotate_left
       ·(intro w hSw; (try dsimp only at hSw); go_simp; with_reducible rfl)
       simp only [Act.put, List.setIfInBounds_toArray, List.set_cons_zero, List.set_cons_succ]
       refine held_run (v := ?_) 7 57 rfl rfl (by kernel_rfl) (by kernel_rfl) (by kernel_rfl) (fun _ _ _ h => h) (by rfl) ?_ (by assumption) ?_
       rotate_left
       ·(intro w hSw; (try dsimp only at hSw); go_simp; with_reducible rfl)
       simp only [Act.put, List.setIfInBounds_toArray, List.set_cons_zero, List.set_cons_succ]
       refine wpAnyH_ready (rs := [8]) (by kernel_rfl) (by simp) (AllReadyH.cons (o := _) rfl (fun K hK => ?_) AllReadyH.nil)
       go_simp
       (refine (sameOp_any _ ⟨kd, nm, nn, vs⟩ vo9 vo vc9 vc (HR9.out.below (Below.refl _ _).drew (Nat.le_refl _)) (HRA.out.below (Below.refl _ _).drew (Nat.le_refl _)) (by show vs.length ≤ 1000; omega)).mono ?_; rintro e w5 ⟨rfl, hb5'⟩; have hb5 : Below W9.heap.size W9 w5 := (Below.refl _ _).drew.trans (hb5'.mono (by simp)); clear hb5'; obtain ⟨⟨e0, e1, e2, e3, -⟩, -⟩ := X9.out.later hb5; have d0 := (hb5.cell (p := ⟨b, off + k * 4, none⟩) hltw9).trans c0; have d1 := (hb5.cell (p := ⟨b, off + k * 4 + 1, none⟩) hltw9).trans c1; have d2 := (hb5.cell (p := ⟨b, off + k * 4 + 2, none⟩) hltw9).trans c2; have d3 := (hb5.cell (p := ⟨b, off + k * 4 + 3, none⟩) hltw9).trans c3)
       go_wp2_with fail
       refine hK.out _ _ (by (try dsimp only); go_keep) (fun hHeld => ?_)
       clear hK K
       try simp only [Act.put, List.setIfInBounds_toArray, List.set_cons_zero, List.set_cons_succ]
       refine held_run (v := ?_) 9 59 rfl rfl (by kernel_rfl) (by kernel_rfl) (by kernel_rfl) (fun _ _ _ h => h) (by rfl) ?_ (by assumption) ?_
       rotate_left
       ·(intro w hSw; (try dsimp only at hSw); go_simp; with_reducible rfl)
       simp only [Act.put, List.setIfInBounds_toArray, List.set_cons_zero, List.set_cons_succ]
       refine held_run (v := ?_) 10 60 rfl rfl (by kernel_rfl) (by kernel_rfl) (by kernel_rfl) (fun _ _ _ h => h) (by rfl) ?_ (by assumption) ?_
       rotate_left
       ·(intro w hSw; (try dsimp only at hSw); go_simp; with_reducible rfl)
       simp only [Act.put, List.setIfInBounds_toArray, List.set_cons_zero, List.set_cons_succ]
       refine held_run (v := ?_) 11 61 rfl rfl (by kernel_rfl) (by kernel_rfl) (by kernel_rfl) (fun _ _ _ h => h) (by rfl) ?_ (by assumption) ?_
       rotate_left
       ·(intro w hSw; (try dsimp only at hSw); go_simp; with_reducible rfl)
       simp only [Act.put, List.setIfInBounds_toArray, List.set_cons_zero, List.set_cons_succ]
       refine held_run (v := ?_) 12 62 rfl rfl (by kernel_rfl) (by kernel_rfl) (by kernel_rfl) (fun _ _ _ h => h) (by rfl) ?_ (by assumption) ?_
       rotate_left
       ·(intro w hSw; (try dsimp only at hSw); go_simp; with_reducible rfl)
       simp only [Act.put, List.setIfInBounds_toArray, List.set_cons_zero, List.set_cons_succ]
       refine held_run (v := ?_) 13 63 rfl rfl (by kernel_rfl) (by kernel_rfl) (by kernel_rfl) (fun _ _ _ h => h) (by rfl) ?_ (by assumption) ?_
       rotate_left
       ·(intro w hSw; (try dsimp only at hSw); go_simp; with_reducible rfl)
       simp only [Act.put, List.setIfInBounds_toArray, List.set_cons_zero, List.set_cons_succ]
       refine held_run (v := ?_) 14 64 rfl rfl (by kernel_rfl) (by kernel_rfl) (by kernel_rfl) (fun _ _ _ h => h) (by rfl) ?_ (by assumption) ?_
       rotate_left
       ·(intro w hSw; (try dsimp only at hSw); go_simp; with_reducible rfl)
       simp only [Act.put, List.setIfInBounds_toArray, List.set_cons_zero, List.set_cons_succ]
       refine held_run (v := ?_) 15 65 rfl rfl (by kernel_rfl) (by kernel_rfl) (by kernel_rfl) (fun _ _ _ h => h) (by rfl) ?_ (by assumption) ?_
       rotate_left
       ·(intro w hSw; (try dsimp only at hSw); go_simp; with_reducible rfl)
       simp only [Act.put, List.setIfInBounds_toArray, List.set_cons_zero, List.set_cons_succ]
       refine wpAnyH_done (by kernel_rfl) ?_ _
       go_wp2_with fail
       go_meet
       case rel => exact HBW.out.trans (hb5.mono HBW.out.size)
      ·rw [decide_eq_false hF]
       clear hF X5a HCa HBa HS7 HE8 HRA c0 c1 c2 c3
       go_wp2
       go_meet
       case rel => exact Below.refl _ _
     case rest =>
      apply_assumption
      have hb2 : Below WA.heap.size WA wc := hcut
      have HRV := hide (HRA.out.below hb2 (Nat.le_refl _))
      have a0 := (hb2.cell (p := ⟨b, off + k * 4, none⟩) hltw1).trans c0; have a1 := (hb2.cell (p := ⟨b, off + k * 4 + 1, none⟩) hltw1).trans c1; have a2 := (hb2.cell (p := ⟨b, off + k * 4 + 2, none⟩) hltw1).trans c2; have a3 := (hb2.cell (p := ⟨b, off + k * 4 + 3, none⟩) hltw1).trans c3
      have hltw : b < wc.heap.size := Nat.lt_of_lt_of_le hltw1 hb2.size
      have X5 := hide (X5a.out.later hb2); have HCN := hide (HCa.out.below hb2); have HBE := hide (HBa.out.trans (hb2.mono HBa.out.size))
      clear X5a HCa HBa HRA hb2 hcut c0 c1 c2 c3 hltw1
      go_wp2_with fail
      refine region_inv (by kernel_rfl) (by kernel_rfl) (fun L a' w' => ∃ (c : Nat → Value) (fl : Bool), a' = (⟨#[(.slice (some ⟨b, off, none⟩) os.length cap), sl1, u2, sl3, sl4, (.pointer (some ⟨B5, 0, none⟩)), (.int .i64 (k : Int)), (.string S7), E8, u9, u10, c 9, c 11, sl13, sl14, sl15, sl16, sl17, sl18, sl19, sl20, sl21, sl22, sl23, sl24, sl25, sl26, sl27, sl28, u29, u30, u31, u32, u33, u34, u35, u36, u37, u38, u39, u40, u41, u42, u43, u44, u45, u46, u47, u48, u49, u50, u51, u52, u53, u54, u55, u56, u57, u58, u59, u60, u61, u62, u63, u64, u65, c 6, c 0, c 1, c 2, c 3, c 4, c 5, c 7, c 8, u75, u76, u77, u78, u79, sl80, sl81, sl82, sl83, sl84, sl85, sl86, sl87, sl88, sl89, sl90, sl91, sl92, sl93, sl94], []⟩ : Act) ∧ L.getD 10 false = fl ∧ FS (apD 5 packP) (fun i => List.getD [some (.agg #[.slice co cl ck]), some (.slice (some ⟨b, off, none⟩) os.length cap), some (.int .i64 (k : Int)), some (.pointer (some ⟨b, off + k * 4, none⟩)), some (.agg #[.int .i64 kd, .string nm, .int .i64 nn, .slice vo vs.length vc])] i none) (apS 5 (CatG r) wc.heap.size fl) wc L c w') ⟨fun i => List.getD [u67, u68, u69, u70, u71, u72, u66, u73, u74, u11, undef, u12] i undef, false, rfl, by simp [Array.getD], FS.start _ _ _⟩ ?_ ?_
      ·rintro L a' w' i o ⟨c, fl, rfl, hbf, R⟩ ho hn hdep K hK
       have hi : i < 12 := (Array.getElem?_eq_some_iff.1 ho).1
       have hst := apStays 5 packP (CatG r) (CatG.later (r := r)) wc.heap.size fl
       rcases (by omega : i = 0 ∨ i = 1 ∨ i = 2 ∨ i = 3 ∨ i = 4 ∨ i = 5 ∨ i = 6 ∨ i = 7 ∨ i = 8 ∨ i = 9 ∨ i = 10 ∨ i = 11) with rfl | rfl | rfl | rfl | rfl | rfl | rfl | rfl | rfl | rfl | rfl | rfl
       ·obtain rfl := Option.some.inj ho
        obtain ⟨p0, -, -⟩ := X5.out.later R.below
        have R' := R.made hst hn (fun j hj => absurd hj (by simp [apD, packP])) (Below.refl _ _) (v := (.agg #[.slice co cl ck])) (fun u h => Option.some.inj h) (apS_p (by decide))
        clear R
        go_simp
        exact hK.out _ _ ⟨_, fl, by simp [upd], by rw [getD_set_ne false (by decide)]; exact hbf, R'⟩
       ·obtain rfl := Option.some.inj ho
        have R' := R.made hst hn (fun j hj => absurd hj (by simp [apD, packP])) (Below.refl _ _) (v := (.slice (some ⟨b, off, none⟩) os.length cap)) (fun u h => Option.some.inj h) (apS_p (by decide))
        clear R
        go_simp
        exact hK.out _ _ ⟨_, fl, by simp [upd], by rw [getD_set_ne false (by decide)]; exact hbf, R'⟩
       ·obtain rfl := Option.some.inj ho
        have R' := R.made hst hn (fun j hj => absurd hj (by simp [apD, packP])) (Below.refl _ _) (v := (.int .i64 (k : Int))) (fun u h => Option.some.inj h) (apS_p (by decide))
        clear R
        go_simp
        exact hK.out _ _ ⟨_, fl, by simp [upd], by rw [getD_set_ne false (by decide)]; exact hbf, R'⟩
       ·obtain rfl := Option.some.inj ho
        have e1 : c 1 = (.slice (some ⟨b, off, none⟩) os.length cap) := R.plain 1 _ (hdep ⟨1, .data⟩ (by simp) rfl) rfl
        have e2 : c 2 = (.int .i64 (k : Int)) := R.plain 2 _ (hdep ⟨2, .data⟩ (by simp) rfl) rfl
        have R' := R.made hst hn (fun j hj => by simp [apD, packP] at hj; rcases hj with rfl | rfl <;> exact hdep ⟨_, .data⟩ (by simp) rfl) (Below.refl _ _) (v := (.pointer (some ⟨b, off + k * 4, none⟩))) (fun u h => Option.some.inj h) (apS_p (by decide))
        clear R
        rw [e1, e2]
        go_simp
        exact hK.out _ _ ⟨_, fl, by simp [upd, e1, e2], by rw [getD_set_ne false (by decide)]; exact hbf, R'⟩
       ·obtain rfl := Option.some.inj ho
        have e3 : c 3 = (.pointer (some ⟨b, off + k * 4, none⟩)) := R.plain 3 _ (hdep ⟨3, .data⟩ (by simp) rfl) rfl
        have q0 := (R.below.cell (p := ⟨b, off + k * 4, none⟩) hltw).trans a0
        have q1 := (R.below.cell (p := ⟨b, off + k * 4 + 1, none⟩) hltw).trans a1
        have q2 := (R.below.cell (p := ⟨b, off + k * 4 + 2, none⟩) hltw).trans a2
        have q3 := (R.below.cell (p := ⟨b, off + k * 4 + 3, none⟩) hltw).trans a3
        have R' := R.made hst hn (fun j hj => by simp [apD, packP] at hj; subst hj; exact hdep ⟨_, .data⟩ (by simp) rfl) (Below.refl _ _) (v := (.agg #[.int .i64 kd, .string nm, .int .i64 nn, .slice vo vs.length vc])) (fun u h => Option.some.inj h) (apS_p (by decide))
        clear R
        rw [e3]
        go_simp
        exact hK.out _ _ ⟨_, fl, by simp [upd, e3], by rw [getD_set_ne false (by decide)]; exact hbf, R'⟩
       ·obtain rfl := Option.some.inj ho
        have e0 : c 0 = (.agg #[.slice co cl ck]) := R.plain 0 _ (hdep ⟨0, .data⟩ (by simp) rfl) rfl
        have e4 : c 4 = (.agg #[.int .i64 kd, .string nm, .int .i64 nn, .slice vo vs.length vc]) := R.plain 4 _ (hdep ⟨4, .data⟩ (by simp) rfl) rfl
        rw [e0, e4]
        go_simp
        refine (apply_any w' _ qs ⟨kd, nm, nn, vs⟩ vo vc ⟨_, rfl, HCN.out.below R.below⟩ HOK.out (HRV.out.below R.below (Nat.le_refl _)) (by show vs.length ≤ 100; omega)).mono ?_
        rw [HR.out]
        rintro e w2 hres
        obtain ⟨o, l, k', ev, rfl, hg2, hb2⟩ := catG_of hres
        have R' := R.made hst hn (fun j hj => by simp [apD, packP] at hj; rcases hj with rfl | rfl <;> exact hdep ⟨_, .data⟩ (by simp) rfl) hb2 (v := .tuple #[.agg #[.slice o l k'], ev]) (fun u h => by cases h) (apS_0 ⟨o, l, k', ev, upd_self .., hg2⟩)
        clear R hg2 hb2 hres
        go_wp2_with fail
        exact hK.out _ _ ⟨_, fl, by simp [upd, e0, e4], by rw [getD_set_ne false (by decide)]; exact hbf, R'⟩
       ·obtain rfl := Option.some.inj ho
        have R' := R.made hst hn (fun j hj => by simp [apD, packP] at hj; subst hj; exact hdep ⟨_, .data⟩ (by simp) rfl) (Below.refl _ _) (v := c 5) (fun u h => by cases h) (apS_1 (q := 5) (show upd c 6 (c 5) 6 = upd c 6 (c 5) 5 by rw [upd_self, upd_ne _ _ (by decide)]))
        clear R
        go_simp
        exact hK.out _ _ ⟨_, fl, by simp [upd], by rw [getD_set_ne false (by decide)]; exact hbf, R'⟩
       ·obtain rfl := Option.some.inj ho
        have t1 := hdep ⟨6, .data⟩ (by simp) rfl
        have e1 : c 6 = c 5 := (R.spec 6 t1).2.1 rfl
        obtain ⟨o, l, k', ev, e0, -⟩ := (R.spec 5 (R.closed 6 t1 5 (by simp [apD]))).1 rfl
        rw [e0] at e1
        have R' := R.made hst hn (fun j hj => by simp [apD, packP] at hj; subst hj; exact hdep ⟨_, .data⟩ (by simp) rfl) (Below.refl _ _) (v := .agg #[.slice o l k']) (fun u h => by cases h) (apS_2 (q := 5) ⟨.agg #[.slice o l k'], ev, (upd_ne _ _ (by decide)).trans e1, upd_self ..⟩)
        clear R t1 e0
        rw [e1]
        go_simp
        exact hK.out _ _ ⟨_, fl, by simp [upd, e1], by rw [getD_set_ne false (by decide)]; exact hbf, R'⟩
       ·obtain rfl := Option.some.inj ho
        have t1 := hdep ⟨6, .data⟩ (by simp) rfl
        have e1 : c 6 = c 5 := (R.spec 6 t1).2.1 rfl
        obtain ⟨o, l, k', ev, e0, -⟩ := (R.spec 5 (R.closed 6 t1 5 (by simp [apD]))).1 rfl
        rw [e0] at e1
        have R' := R.made hst hn (fun j hj => by simp [apD, packP] at hj; subst hj; exact hdep ⟨_, .data⟩ (by simp) rfl) (Below.refl _ _) (v := ev) (fun u h => by cases h) (apS_3 (q := 5) ⟨.agg #[.slice o l k'], ev, (upd_ne _ _ (by decide)).trans e1, upd_self ..⟩)
        clear R t1 e0
        rw [e1]
        go_simp
        exact hK.out _ _ ⟨_, fl, by simp [upd, e1], by rw [getD_set_ne false (by decide)]; exact hbf, R'⟩
       ·obtain rfl := Option.some.inj ho
        have m7 := One.new w' (.slice none 0 0) 25
        have R' := R.made hst hn (fun j hj => absurd hj (by simp [apD, packP])) (alloc_below w' (.cells #[.slice none 0 0] 25)) (v := .pointer (some ⟨w'.heap.size, 0, none⟩)) (fun u h => by cases h) (apS_4 (q := 5) ⟨w'.heap.size, upd_self .., R.below.size, fun _ => m7⟩)
        clear R m7
        go_simp
        exact hK.out _ _ ⟨_, fl, by simp [upd], by rw [getD_set_ne false (by decide)]; exact hbf, R'⟩
       ·obtain rfl := Option.some.inj ho
        have t2 := hdep ⟨7, .data⟩ (by simp) rfl
        have t4 := hdep ⟨9, .data⟩ (by simp) rfl
        have hb0 : fl = false := by
         cases fl with
         | false => rfl
         | true => exact absurd hbf (listed_not hn)
        subst hb0
        have t1 := R.closed 7 t2 6 (by simp [apD])
        have e1 : c 6 = c 5 := (R.spec 6 t1).2.1 rfl
        obtain ⟨o, l, k', ev, e0, hg⟩ := (R.spec 5 (R.closed 6 t1 5 (by simp [apD]))).1 rfl
        obtain ⟨u2, f2, e2, e2'⟩ : ∃ u e, c 6 = .tuple #[u, e] ∧ c 7 = u := (R.spec 7 t2).2.2.1 rfl
        rw [e1, e0] at e2
        simp only [Value.tuple.injEq, Array.mk.injEq, List.cons.injEq, and_true] at e2
        obtain ⟨rfl, rfl⟩ := e2
        obtain ⟨B, e4, hCB, hbx⟩ : ∃ B, c 9 = .pointer (some ⟨B, 0, none⟩) ∧ wc.heap.size ≤ B ∧ (false = false → One w' B (.slice none 0 0)) := (R.spec 9 t4).2.2.2.2.1 rfl
        have hbx := hbx rfl
        have hg' := CatG.put HROK.out hbx (.slice o l k') hg
        have R' := R.put (Sp' := (apS 5 (CatG r) wc.heap.size true)) (v := undef) hn (fun j hj => by simp [apD, packP] at hj; rcases hj with rfl | rfl <;> exact hdep ⟨_, .data⟩ (by simp) rfl) (R.below.setCell (p := ⟨B, 0, none⟩) hCB (.slice o l k')) (fun u h => by cases h) (fun j hj hl hs => by
         obtain ⟨h0, h1, h2, h3, h4, h5, h6⟩ := hs
         refine ⟨fun e => ?_, fun e => ?_, fun e => ?_, fun e => ?_, fun e => ?_, fun e => absurd e hj, fun e => ?_⟩
         ·exact ⟨o, l, k', ev, (upd_ne _ _ (by decide)).trans e0, hg'⟩
         ·rw [upd_ne _ _ (by decide), upd_ne _ _ (by decide)]; exact h1 e
         ·rw [upd_ne _ _ (by decide), upd_ne _ _ (by decide)]; exact h2 e
         ·rw [upd_ne _ _ (by decide), upd_ne _ _ (by decide)]; exact h3 e
         ·obtain ⟨B', a1, a2, -⟩ := h4 e
          exact ⟨B', (upd_ne _ _ (by decide)).trans a1, a2, fun hf => by cases hf⟩
         ·rw [upd_ne _ _ (by decide), upd_ne _ _ (by decide)]; exact h6 e) (apS_5 (q := 5) ⟨B, .slice o l k', (upd_ne _ _ (by decide)).trans e4, (upd_ne _ _ (by decide)).trans e2', hCB, hbx.write _⟩)
        obtain ⟨z0, z1, -⟩ := hbx
        clear R hg hg' hst e1 e0 t1 t2 t4
        rw [e2', e4]
        go_simp
        exact hK.out _ _ ⟨_, true, by simp [upd, e2', e4], by first | exact listed_new hn | simp [hn], R'⟩
       ·obtain rfl := Option.some.inj ho
        have R' := R.made hst hn (fun j hj => by simp [apD, packP] at hj; subst hj; exact hdep ⟨_, .data⟩ (by simp) rfl) (Below.refl _ _) (v := c 8) (fun u h => by cases h) (apS_6 (q := 5) (show upd c 11 (c 8) 11 = upd c 11 (c 8) 8 by rw [upd_self, upd_ne _ _ (by decide)]))
        clear R
        go_simp
        exact hK.out _ _ ⟨_, fl, by simp [upd], by rw [getD_set_ne false (by decide)]; exact hbf, R'⟩
      rintro L a' w2 ⟨c, fl, rfl, hbf, R⟩ hall
      obtain rfl : true = fl := (hall 10 (by decide)).symm.trans hbf
      obtain ⟨BD, o, l, k', ev, e4, e6, hCB, hbx, hg⟩ := ap_fin (q := 5) R (fun i hi => hall i hi)
      have e4 : c 9 = .pointer (some ⟨BD, 0, none⟩) := e4
      have e6 : c 11 = ev := e6
      have hb2 := R.below
      clear R hall hbf
      rw [e4, e6]
      have XD := hide hbx
      have X5a := hide (X5.out.later hb2); have HCa := hide (HCN.out.below hb2); have HBa := hide (HBE.out.trans (hb2.mono HBE.out.size))
      clear hb2 X5 HCN HBE e4 e6 a0 a1 a2 a3 hbx
      rcases hg with ⟨hr0, rfl, rfl, rfl, rfl⟩ | ⟨hr0, rfl, qs2, hq2, hc2⟩
      ·have e0 : errV r.1 = .iface 47 (.int .i64 (r.1 : Nat)) := if_neg hr0
       rw [e0]
       clear e0 hr0 HROK HRC HR HFO
       go_wp2
       go_roundw
       case rel => exact ⟨k + 1, _, _, _, qs, by omega, by go_num, X5a, HCa, HOK, HBa⟩
       case measure => simp [intOf]; omega
      ·have hok2 : CatOk (qs2.map (·.x)) := by rw [hq2]; exact HRC.out hr0
       have X5b := hide (X5a.out.write (.slice o l k'))
       have HCb := hide (hc2.setVar (nonE_of_ok hok2.all) X5a.out.1 HCa.out (.slice o l k'))
       have HOKb := hide hok2
       have HBb := hide (HBa.out.setCell (p := ⟨B5, 0, none⟩) h5 (.slice o l k'))
       have HE : Hid (.nilIface = E8) := by have h := HE8.out; rw [HFO.out hr0] at h; exact h
       obtain rfl := HE.out
       obtain ⟨y0, y1, -⟩ := X5a.out
       obtain ⟨z0, -, -⟩ := XD.out
       clear hr0 hq2 hc2 hok2 HROK HRC HR HCa HE HE8 HFO
       go_wp2
       go_roundw
       case rel => exact ⟨k + 1, _, _, _, qs2, by omega, by go_num, X5b, HCb, HOKb, HBb⟩
       case measure => simp [intOf]; omega
   ·obtain rfl : k = os.length := by omega
    go_wp2_with fail
    go_meet
    case rel => exact ⟨_, _, _, qs, X5.out, HCN.out, HOK.out, HBE.out⟩
 case rest =>
  obtain ⟨co, cl, ck, qs, h1, h2, h3, h4⟩ := hcut
  apply_assumption
  exact HB.out _ co cl ck qs h4 h1 h2 h3

end Go.Proofs.YtmalhbkmfddhoaaDoor
