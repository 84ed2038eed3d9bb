/- StoreSays. -/
import Derived.Test.YtnhbfehfipafoaaGreatDoorSrR
namespace Go.Proofs.YtnhbfehfipafoaaGreatDoor
open Go.RowKit

theorem nm_sizes {x : Nmd} (h : NmOk x) : x.gens.length ≤ 1000 ∧ ∀ g ∈ x.gens, g.length ≤ 1000000 := by
 refine ⟨by have := h.few; omega, fun g hg => ?_⟩
 have h1 := (genF_ok.1 (h.gens g hg)).1
 have h2 := h.n
 omega

set_option linter.unusedSimpArgs false in
set_option maxRecDepth 100000 in
set_option maxHeartbeats 6400000 in
theorem newBad_any (w : World) (n : Int) (h : n < 1 ∨ 200 < n) :
  Calls Tryz.prog 11 #[.int .i64 n] w fun e w' => e = .returned (.tuple #[.pointer none, errno 1]) ∧ Below w.heap.size w w' := by
 by_cases h1 : n < 1
 ·have g1 : decide (n < 1) = true := decide_eq_true h1
  go_enter Tryz.func11, Tryz.ntmps11
  go_wp2
  exact bodyPost_ret (v := .tuple #[.pointer none, errno 1]) (by simp [results, Tryz.results11, go_sem]) rfl ⟨rfl, Below.refl _ _⟩
 ·have g1 : decide (n < 1) = false := decide_eq_false h1
  have g2 : decide (200 < n) = true := decide_eq_true (by omega)
  go_enter Tryz.func11, Tryz.ntmps11
  go_wp2
  exact bodyPost_ret (v := .tuple #[.pointer none, errno 1]) (by simp [results, Tryz.results11, go_sem]) rfl ⟨rfl, Below.refl _ _⟩

set_option linter.unusedSimpArgs false in
set_option maxRecDepth 100000 in
set_option maxHeartbeats 6400000 in
theorem storeSays_any (w : World) (v : Value) (al : List ActW) (z : Int) (hal : ActsW w v al) (hz : -9223372036854775808 ≤ z ∧ z ≤ 9223372036854775807) (ht : TabP w) (hx : MaxL w) :
  Calls Tryz.prog 3 #[.int .i64 z, v] w fun e w' => e = .returned (.bool true) ∧ Below w.heap.size w w' := by
 have HAL := hide hal; have HT := hide ht; have HX := hide hx
 obtain ⟨ao, acap, rfl, -⟩ := id hal
 obtain ⟨N, hN⟩ : ∃ N, al.length = N := ⟨_, rfl⟩
 have HN := hide hN
 rw [hN]
 clear hal ht hx hN
 go_enter Tryz.func3, Tryz.ntmps3
 go_wp2_with fail
 refine (stores_any w HT.out HX.out).mono ?_
 rintro e w1 ⟨rfl, hb1⟩
 have HB1 := hide hb1
 clear hb1
 go_wp2_with fail
 rw [← HN.out]
 refine (lightActsW_any w1 _ al 60 (HAL.out.below HB1.out) (by decide)).mono ?_
 rintro e w2 ⟨b, rfl, hlb, hb2⟩
 rw [HN.out]
 have HB2 := hide (HB1.out.trans (hb2.mono HB1.out.size)); have HLB := hide hlb
 clear hb2 HB1 hlb
 cases b with
 | false =>
  go_wp2
  go_ret
  exact ⟨rfl, HB2.out⟩
 | true =>
 have hlt := HLB.out rfl
 have HLT := hide hlt.2
 have hN60 : N ≤ 60 := by rw [← HN.out]; exact hlt.1
 clear hlt HLB
 by_cases hbad : z < 1 ∨ 200 < z
 ·have HNB := hide (newBad_any w2 z hbad)
  go_wp2_with fail
  refine HNB.out.mono ?_
  rintro e w3 ⟨rfl, hb3⟩
  have HB3 := hide (HB2.out.trans (hb3.mono HB2.out.size))
  clear hb3 HNB
  have HSM : Hid (∀ w, Calls Tryz.prog 12 #[errno 1, .int .i64 1] w fun e w' => e = .returned (.bool true) ∧ w' = w) := fun w => sameI_any 1 (by decide) w
  by_cases h1 : z < 1
  ·have g1 : decide (z < 1) = true := decide_eq_true h1
   go_wp2_with fail
   refine (HSM.out _).mono ?_
   rintro e w4 ⟨rfl, rfl⟩
   go_wp2
   go_ret
   exact ⟨rfl, HB3.out⟩
  ·have g1 : decide (z < 1) = false := decide_eq_false h1
   have h2 : 200 < z := by omega
   have g2 : decide (200 < z) = true := decide_eq_true h2
   go_wp2_with fail
   refine (HSM.out _).mono ?_
   rintro e w4 ⟨rfl, rfl⟩
   go_wp2
   go_ret
   exact ⟨rfl, HB3.out⟩
 obtain ⟨m, rfl⟩ : ∃ m : Nat, z = (m : Int) := ⟨z.toNat, by omega⟩
 have hm1 : 1 ≤ m := by omega
 have hm : m ≤ 200 := by omega
 have g1 : decide ((m : Int) < 1) = false := decide_eq_false (by omega)
 have g2 : decide (200 < (m : Int)) = false := decide_eq_false (by omega)
 clear hbad hz
 go_wp2_with fail
 refine (new_ok w2 m hm1 hm).mono ?_
 rintro e w3 ⟨rfl, hd3, hb3⟩
 obtain ⟨B, hB⟩ : ∃ B, w2.heap.size = B := ⟨_, rfl⟩
 rw [hB] at hd3 ⊢
 have HBB : Hid (w.heap.size ≤ B) := by show _ ≤ _; rw [← hB]; exact HB2.out.size
 have HBS : Hid (B ≤ w3.heap.size) := by show _ ≤ _; rw [← hB]; exact hb3.size
 have HD3 := hide hd3; have HB3 := hide (HB2.out.trans (hb3.mono HB2.out.size))
 have HW := hide (newD_well m)
 clear hb3 hd3 hB HB2
 have HS5 : Hid (∀ w, Calls Tryz.prog 12 #[errno 5, .int .i64 5] w fun e w' => e = .returned (.bool true) ∧ w' = w) := fun w => sameI_any 5 (by decide) w
 have HO : Hid (Calls Tryz.prog 13 #[.pointer (some ⟨B, 0, none⟩)] w3 fun e w' => e = .returned (.tuple #[.pointer none, errno 5]) ∧ Below w3.heap.size w3 w') := by
  by_cases h86 : m < 86
  ·exact open_small w3 B B (newD m) m HD3.out HW.out.len h86
  ·exact open_none w3 B B (newD m) m HD3.out rfl HW.out.len hm (by omega) (newest_newD m)
 go_wp2_with fail
 refine HO.out.mono ?_
 rintro e w4 ⟨rfl, hb4⟩
 have HD4 := hide (HD3.out.later hb4); have HB4 := hide (HB3.out.trans (hb4.mono HB3.out.size))
 have HBS4 : Hid (B ≤ w4.heap.size) := Nat.le_trans HBS.out hb4.size
 clear hb4 HO HD3 HB3 HBS
 go_wp2_with fail
 refine (HS5.out _).mono ?_
 rintro e w5 ⟨rfl, rfl⟩
 by_cases h86 : m < 86
 ·have g86 : decide ((m : Int) < 86) = true := decide_eq_true (by omega)
  have g86' : (m : Int) < 86 := by omega
  go_wp2_with fail
  refine (format_small w5 B B (newD m) m HD4.out HW.out.len h86).mono ?_
  rintro e w6 ⟨rfl, hb6⟩
  have HB6 := hide (HB4.out.trans (hb6.mono HB4.out.size))
  clear hb6
  have HSM : Hid (∀ w, Calls Tryz.prog 12 #[errno 10, .int .i64 10] w fun e w' => e = .returned (.bool true) ∧ w' = w) := fun w => sameI_any 10 (by decide) w
  go_wp2_with fail
  refine (HSM.out _).mono ?_
  rintro e w7 ⟨rfl, rfl⟩
  go_wp2
  go_ret
  exact ⟨rfl, HB6.out⟩
 replace h86 : 86 ≤ m := by omega
 have g86 : decide ((m : Int) < 86) = false := decide_eq_false (by omega)
 have g86' : ¬ (m : Int) < 86 := by omega
 go_wp2_with fail
 refine (format_any w5 B B m HD4.out hm h86 (HT.out.below HB4.out) HBS4.out).mono ?_
 rintro e w6 ⟨rfl, D6, h6, hd6, hi6, hf6, hk6⟩
 have HD6 := hide hd6; have HI6 := hide hi6; have HF6 := hide hf6
 have HB6 : Hid (Below w.heap.size w w6) := (KeptS.of_kept hk6).below HB4.out HBB.out HB4.out.size
 have HBS6 : Hid (B ≤ w6.heap.size) := Nat.le_trans HBS4.out hk6.size
 clear hd6 hi6 hf6 hk6 HD4 HB4 HBS4
 go_wp2_with fail
 refine (open_any w6 B B D6 m h6 [] 0 HD6.out HI6.out hm h86 (HT.out.below HB6.out) (HX.out.below HB6.out) HBS6.out).mono ?_
 rintro e w7 ⟨S7, rfl, hS7, hp7, hb7⟩
 have hbA := alloc_below w7 (.cells #[.slice none 0 0, .int .i64 0, .int .i64 ((m - 82 : Nat) : Int)] 39)
 have HP7 := hide (hp7.later hbA); have HB7 := hide ((HB6.out.trans (hb7.mono HB6.out.size)).trans (hbA.mono (Nat.le_trans HB6.out.size hb7.size)))
 have HM7 : Hid (RstB (w7.alloc (.cells #[.slice none 0 0, .int .i64 0, .int .i64 ((m - 82 : Nat) : Int)] 39)) w7.heap.size (.slice none 0 0) ((0 : Nat) : Int) ((m - 82 : Nat) : Int)) := heap_alloc_new w7 _
 have HBS7 : Hid (B ≤ (w7.alloc (.cells #[.slice none 0 0, .int .i64 0, .int .i64 ((m - 82 : Nat) : Int)] 39)).heap.size) := Nat.le_trans HBS6.out (Nat.le_trans hb7.size hbA.size)
 have hm82 : (m : Int) - 82 = ((m - 82 : Nat) : Int) := by omega
 have HMW : Hid (w.heap.size ≤ w7.heap.size) := Nat.le_trans HB6.out.size hb7.size
 have HM82 : Hid (m - 82 + 82 = m) := by show _ = _; omega
 clear hS7 hp7 hb7 hbA HD6 HI6 HB6 HBS6
 go_wp2_with fail
 obtain ⟨M, hM⟩ : ∃ M, w7.heap.size = M := ⟨_, rfl⟩
 try rw [hM]
 rw [hM] at HM7 HMW
 generalize w7.alloc (.cells #[.slice none 0 0, .int .i64 0, .int .i64 ((m - 82 : Nat) : Int)] 39) = w8 at *
 clear hM
 go_loopw [9, 12] (fun sv ix wr => ∃ (k S : Nat) (D : Dsk) (h : Hd) (l : List Nmd) (en : Nat) (co : Option Addr) (cl ck : Nat) (qs : List Nc), sv = .pointer (some ⟨S, 0, none⟩) ∧ k ≤ N ∧ ix = .int .i64 k ∧ Hid (StoreP wr B S B D m h l en) ∧ Hid (Free D) ∧ Hid (RstB wr M (.slice co cl ck) ((en : Nat) : Int) ((m - 82 : Nat) : Int)) ∧ Hid (CatN wr (.slice co cl ck) qs) ∧ Hid (qs.map (·.x) = l) ∧ Hid (Below w.heap.size w wr) ∧ Hid (B ≤ wr.heap.size)) (fun _ ix _ => N - (intOf ix).toNat)
 case atStart => exact ⟨0, S7, D6, h6, [], 0, none, 0, 0, [], rfl, Nat.zero_le _, rfl, HP7, HF6, HM7, catN_nil _, rfl, HB7, HBS7⟩
 case round =>
  clear HP7 HF6 HM7 HB7 HBS7
  obtain ⟨k, S, D, h, l, en, co, cl, ck, qs, rfl, hk, rfl, HP, HF, HM, HC, HQQ, HBW, HBS⟩ := hrel
  by_cases hkl : k < N
  ·obtain ⟨p, hp⟩ : ∃ p, al[k]? = some p := ⟨_, List.getElem?_eq_getElem (by rw [HN.out]; exact hkl)⟩
   have hal3 := HAL.out
   obtain ⟨b, off, cap', e, hlt, hok, hc⟩ := (hal3.below HBW.out).at hp
   rw [HN.out] at e
   simp only [Value.slice.injEq, true_and] at e
   obtain ⟨rfl, rfl⟩ := e
   have hlp := HLT.out p (List.mem_of_getElem? hp)
   obtain ⟨_, _, _, -, -, hok0, -⟩ := hal3.at hp
   obtain ⟨kd, a, ps, kk, ⟨⟨okd, name, on, vs⟩, vo, vc⟩, ov, os⟩ := p
   have HOP := hide hok0.ops
   obtain ⟨xo, xc, hov, -⟩ := hok.ops
   dsimp only at hov
   subst hov
   have hll := lightL_ok hlp.2.2.2
   dsimp only at hll
   have HLN : Hid (os.length ≤ 1000000) := by show _ ≤ _; have := hll.1; omega
   have HV20 : Hid (∀ q ∈ os, q.o.v.length ≤ 20) := fun q hq => by have := (hll.2 q hq).2; omega
   have d0 : wr.cell? ⟨b, off + k * 9, none⟩ = some (.string kd) := hc 0 _ rfl
   have d1 : wr.cell? ⟨b, off + k * 9 + 1, none⟩ = some (.int .i64 a) := hc 1 _ rfl
   have d2 : wr.cell? ⟨b, off + k * 9 + 2, none⟩ = some (.string ps) := hc 2 _ rfl
   have d3 : wr.cell? ⟨b, off + k * 9 + 3, none⟩ = some (.int .u64 kk) := hc 3 _ rfl
   have d4 : wr.cell? ⟨b, off + k * 9 + 4, none⟩ = some (.int .i64 okd) := hc 4 _ rfl
   have d5 : wr.cell? ⟨b, off + k * 9 + 5, none⟩ = some (.string name) := hc 5 _ rfl
   have d6 : wr.cell? ⟨b, off + k * 9 + 6, none⟩ = some (.int .i64 on) := hc 6 _ rfl
   have d7 : wr.cell? ⟨b, off + k * 9 + 7, none⟩ = some (.slice vo vs.length vc) := hc 7 _ rfl
   have d8 : wr.cell? ⟨b, off + k * 9 + 8, none⟩ = some (.slice xo os.length xc) := hc 8 _ rfl
   obtain ⟨oo, hoo⟩ : ∃ oo, off + k * 9 = oo := ⟨_, rfl⟩
   rw [hoo] at d0 d1 d2 d3 d4 d5 d6 d7 d8
   clear hc hok hok0 hlp hp hal3 hll
   have hbA := alloc_below wr (.cells #[.string kd, .int .i64 a, .string ps, .int .u64 kk, .int .i64 okd, .string name, .int .i64 on, .slice vo vs.length vc, .slice xo os.length xc] 46)
   have HQ : Hid (ActB (wr.alloc (.cells #[.string kd, .int .i64 a, .string ps, .int .u64 kk, .int .i64 okd, .string name, .int .i64 on, .slice vo vs.length vc, .slice xo os.length xc] 46)) wr.heap.size ⟨kd, a, ps, kk, ⟨⟨okd, name, on, vs⟩, vo, vc⟩, .slice xo os.length xc, os⟩) := ActB.new wr ⟨kd, a, ps, kk, ⟨⟨okd, name, on, vs⟩, vo, vc⟩, .slice xo os.length xc, os⟩
   have HPa := hide (HP.out.later hbA); have HMa := hide (HM.out.later hbA); have HCa := hide (HC.out.below hbA); have HBWa := hide (HBW.out.trans (hbA.mono HBW.out.size))
   have HBSa : Hid (B ≤ (wr.alloc (.cells #[.string kd, .int .i64 a, .string ps, .int .u64 kk, .int .i64 okd, .string name, .int .i64 on, .slice vo vs.length vc, .slice xo os.length xc] 46)).heap.size) := Nat.le_trans HBS.out hbA.size
   have c0 : (wr.alloc (.cells #[.string kd, .int .i64 a, .string ps, .int .u64 kk, .int .i64 okd, .string name, .int .i64 on, .slice vo vs.length vc, .slice xo os.length xc] 46)).cell? ⟨wr.heap.size, 0, none⟩ = some (.string kd) := HQ.out.cells 0 _ rfl
   have c8 : (wr.alloc (.cells #[.string kd, .int .i64 a, .string ps, .int .u64 kk, .int .i64 okd, .string name, .int .i64 on, .slice vo vs.length vc, .slice xo os.length xc] 46)).cell? ⟨wr.heap.size, 8, none⟩ = some (.slice xo os.length xc) := HQ.out.cells 8 _ rfl
   clear hbA HP HM HC HBW HBS
   have HP := HPa; have HM := HMa; have HC := HCa; have HBW := HBWa; have HBS := HBSa
   clear HPa HMa HCa HBWa HBSa
   by_cases q1 : kd.toList = [99, 111, 109, 109, 105, 116]
   ·have q2 : (kd.toList == [99, 111, 109, 109, 105, 116]) = true := beq_iff_eq.2 q1
    clear q1
    go_wp2_with fail
    clear d0 d1 d2 d3 d4 d5 d6 d7 d8 c0
    generalize wr.alloc (.cells #[.string kd, .int .i64 a, .string ps, .int .u64 kk, .int .i64 okd, .string name, .int .i64 on, .slice vo vs.length vc, .slice xo os.length xc] 46) = w4 at *
    generalize wr.heap.size = Q at *
    have hp := HP.out
    have hen : en ≤ m - 82 := hp.says.says.en_le
    refine wp_region_held_drew (S := (fun w' => w'.cell? ⟨Q, 8, none⟩ = some (.slice xo os.length xc))) (by kernel_rfl) (by (try dsimp only); go_keep) (fun hHeld => ?_)
    refine held_run (v := ?_) 0 107 rfl rfl (by kernel_rfl) (by kernel_rfl) (by kernel_rfl) (fun _ _ _ h => h) (by rfl) ?_ (by assumption) ?_
    rotate_left
    ·(intro w hSw; (try dsimp only at hSw); go_simp; with_reducible rfl)
    simp only [Act.put, List.setIfInBounds_toArray, List.set_cons_zero, List.set_cons_succ]
    refine held_run (v := ?_) 1 108 rfl rfl (by kernel_rfl) (by kernel_rfl) (by kernel_rfl) (fun _ _ _ h => h) (by rfl) ?_ (by assumption) ?_
    rotate_left
    ·(intro w hSw; (try dsimp only at hSw); go_simp; with_reducible rfl)
    simp only [Act.put, List.setIfInBounds_toArray, List.set_cons_zero, List.set_cons_succ]
    refine held_run (v := ?_) 2 109 rfl rfl (by kernel_rfl) (by kernel_rfl) (by kernel_rfl) (fun _ _ _ h => h) (by rfl) ?_ (by assumption) ?_
    rotate_left
    ·(intro w hSw; (try dsimp only at hSw); go_simp; with_reducible rfl)
    simp only [Act.put, List.setIfInBounds_toArray, List.set_cons_zero, List.set_cons_succ]
    refine held_run (v := ?_) 4 111 rfl rfl (by kernel_rfl) (by kernel_rfl) (by kernel_rfl) (fun _ _ _ h => h) (by rfl) ?_ (by assumption) ?_
    rotate_left
    ·(intro w hSw; (try dsimp only at hSw); go_simp; with_reducible rfl)
    simp only [Act.put, List.setIfInBounds_toArray, List.set_cons_zero, List.set_cons_succ]
    refine held_run (v := ?_) 5 112 rfl rfl (by kernel_rfl) (by kernel_rfl) (by kernel_rfl) (fun _ _ _ h => h) (by rfl) ?_ (by assumption) ?_
    rotate_left
    ·(intro w hSw; (try dsimp only at hSw); go_simp; with_reducible rfl)
    simp only [Act.put, List.setIfInBounds_toArray, List.set_cons_zero, List.set_cons_succ]
    refine held_run (v := ?_) 6 113 rfl rfl (by kernel_rfl) (by kernel_rfl) (by kernel_rfl) (fun _ _ _ h => h) (by rfl) ?_ (by assumption) ?_
    rotate_left
    ·(intro w hSw; (try dsimp only at hSw); go_simp; with_reducible rfl)
    simp only [Act.put, List.setIfInBounds_toArray, List.set_cons_zero, List.set_cons_succ]
    refine wpAnyH_ready (rs := [3]) (by kernel_rfl) (by simp) (AllReadyH.cons (o := _) rfl (fun K hK => ?_) AllReadyH.nil)
    go_simp
    (refine (commit_any _ B S B D m h l en _ os (HP.out.later (Below.refl _ _).drew) hm h86 (HT.out.below HBW.out.drew) HBS.out (fun W hk => HOP.out.below (hk.below HBW.out.drew HBB.out HBW.out.size)) HV20.out HLN.out _ rfl).mono ?_; rintro e w5 hcm; obtain ⟨D5, h5, rfl, hp5, hf5, hk5'⟩ := hcm.free HF.out; have hk5 : KeptS B w4 w5 := (KeptS.of_below (Below.refl _ _).drew).trans hk5'; have hq5 : w5.cell? ⟨Q, 8, none⟩ = some (.slice xo os.length xc) := (HQ.out.keptS hk5).cells 8 _ rfl)
    go_wp2_with fail
    refine hK.out _ _ (by (try dsimp only); go_keep) (fun hHeld => ?_)
    clear hK K
    try simp only [Act.put, List.setIfInBounds_toArray, List.set_cons_zero, List.set_cons_succ]
    refine wpAnyH_ready (rs := [7]) (by kernel_rfl) (by simp) (AllReadyH.cons (o := _) rfl (fun K hK => ?_) AllReadyH.nil)
    go_simp
    (refine (rcommit_any _ M _ en (m - 82) qs l _ os _ (HM.out.keptS hk5) (HC.out.keepK (keepK_keptS hk5)) HQQ.out hp.says.says.ok hen (by omega) (HOP.out.below (hk5.below HBW.out HBB.out HBW.out.size)) HV20.out HLN.out rfl).mono ?_; rintro e w6 hrc; obtain ⟨rfl, o6, n6, k6, q6, hm6, hc6, hq6, hb6⟩ := hrc.both (HC.out.keepK (keepK_keptS hk5)) HQQ.out; have hq8 : w6.cell? ⟨Q, 8, none⟩ = some (.slice xo os.length xc) := ActB.cells (p := ⟨kd, a, ps, kk, ⟨⟨okd, name, on, vs⟩, vo, vc⟩, .slice xo os.length xc, os⟩) (hb6.stays (HQ.out.keptS hk5) (ActB.ne HQ.out HM.out)) 8 _ rfl)
    go_wp2_with fail
    refine hK.out _ _ (by (try dsimp only); go_keep) (fun hHeld => ?_)
    clear hK K
    try simp only [Act.put, List.setIfInBounds_toArray, List.set_cons_zero, List.set_cons_succ]
    refine wpAnyH_ready (rs := [8]) (by kernel_rfl) (by simp) (AllReadyH.cons (o := _) rfl (fun K hK => ?_) AllReadyH.nil)
    go_simp
    (rw [HM82.out]; refine (sameV_any _ _).mono ?_; rintro e w7 ⟨rfl, rfl⟩)
    go_wp2_with fail
    refine hK.out _ _ (by (try dsimp only); go_keep) (fun hHeld => ?_)
    clear hK K
    try simp only [Act.put, List.setIfInBounds_toArray, List.set_cons_zero, List.set_cons_succ]
    refine held_run (v := ?_) 9 116 rfl rfl (by kernel_rfl) (by kernel_rfl) (by kernel_rfl) (fun _ _ _ h => h) (by rfl) ?_ (by assumption) ?_
    rotate_left
    ·(intro w hSw; (try dsimp only at hSw); go_simp; with_reducible rfl)
    simp only [Act.put, List.setIfInBounds_toArray, List.set_cons_zero, List.set_cons_succ]
    refine wpAnyH_done (by kernel_rfl) ?_ _
    have HPn := hide (hp5.but (HM.out.keptS hk5) rst_sto rst_kin hb6)
    have hbw5 := hk5.below HBW.out HBB.out HBW.out.size
    have HBWn := hide (hb6.below hbw5 HMW.out hbw5.size)
    have HBSn : Hid (B ≤ _) := Nat.le_trans HBS.out (Nat.le_trans hk5.size hb6.size)
    rw [HM82.out] at hm6 hq6
    have HMn := hide hm6; have HCn := hide hc6; have HQn := hide hq6; have HFn := hide hf5
    obtain ⟨l9, hl9⟩ : ∃ x, comL l (os.map (·.o)) m = x := ⟨_, rfl⟩
    obtain ⟨n9, hn9⟩ : ∃ x, comN l (os.map (·.o)) m en = x := ⟨_, rfl⟩
    rw [hl9] at HPn HQn
    rw [hn9] at HPn HMn
    clear hl9 hn9 hbw5 hm6 hc6 hq6 hf5 hb6 hk5 hk5' hp5 hq5 hq8 hcm hrc hp hen HP HF HM HC HQQ HBW HBS HQ c8
    have HP := HPn; have HF := HFn; have HM := HMn; have HC := HCn; have HQQ := HQn; have HBW := HBWn; have HBS := HBSn
    clear HPn HFn HMn HCn HQn HBWn HBSn
    have hp := HP.out
    obtain ⟨⟨L, o, n, c, ps, hx, hc, hps, hlg, hL, hSB⟩, hdsk, hi⟩ := id hp
    have hok := hi.says.ok
    have hen : n9 ≤ m - 82 := hi.says.en_le
    have hpl : ps.length ≤ 100 := by have := hok.few; rw [← hps, List.length_map] at this; omega
    obtain ⟨c0, c1, c2, -⟩ := HM.out.cells
    have gR : ((m - 82 : Nat) : Int) - (n9 : Int) = ((m - 82 - n9 : Nat) : Int) := by omega
    have gW : IntKind.i64.wrap ((m - 82 - n9 : Nat) : Int) = ((m - 82 - n9 : Nat) : Int) := wrap_small (by omega) (by omega)
    have gN : (((m - 82 - n9 : Nat) : Int) != ((m - 82 - n9 : Nat) : Int)) = false := by rw [bne_eq_false_iff_eq]
    go_wp2_with fail
    refine wp_region_held_drew (S := (fun w' => w'.cell? ⟨M, 0, none⟩ = some (.slice o6 n6 k6) ∧ w'.cell? ⟨M, 1, none⟩ = some (.int .i64 (n9 : Int)) ∧ w'.cell? ⟨M, 2, none⟩ = some (.int .i64 ((m - 82 : Nat) : Int)))) (by kernel_rfl) (by (try dsimp only); go_keep) (fun hHeld => ?_)
    refine held_run (v := ?_) 0 124 rfl rfl (by kernel_rfl) (by kernel_rfl) (by kernel_rfl) (fun _ _ _ h5 => h5) (by rfl) ?_ (by assumption) ?_
    rotate_left
    ·(intro w hSw; (try dsimp only at hSw); go_simp; with_reducible rfl)
    simp only [Act.put, List.setIfInBounds_toArray, List.set_cons_zero, List.set_cons_succ]
    refine held_run (v := ?_) 2 126 rfl rfl (by kernel_rfl) (by kernel_rfl) (by kernel_rfl) (fun _ _ _ h5 => h5) (by rfl) ?_ (by assumption) ?_
    rotate_left
    ·(intro w hSw; (try dsimp only at hSw); go_simp; with_reducible rfl)
    simp only [Act.put, List.setIfInBounds_toArray, List.set_cons_zero, List.set_cons_succ]
    refine held_run (v := ?_) 3 127 rfl rfl (by kernel_rfl) (by kernel_rfl) (by kernel_rfl) (fun _ _ _ h5 => h5) (by rfl) ?_ (by assumption) ?_
    rotate_left
    ·(intro w hSw; (try dsimp only at hSw); go_simp; with_reducible rfl)
    simp only [Act.put, List.setIfInBounds_toArray, List.set_cons_zero, List.set_cons_succ]
    refine held_run (v := ?_) 4 128 rfl rfl (by kernel_rfl) (by kernel_rfl) (by kernel_rfl) (fun _ _ _ h5 => h5) (by rfl) ?_ (by assumption) ?_
    rotate_left
    ·(intro w hSw; (try dsimp only at hSw); go_simp; with_reducible rfl)
    simp only [Act.put, List.setIfInBounds_toArray, List.set_cons_zero, List.set_cons_succ]
    refine held_run (v := ?_) 5 129 rfl rfl (by kernel_rfl) (by kernel_rfl) (by kernel_rfl) (fun _ _ _ h5 => h5) (by rfl) ?_ (by assumption) ?_
    rotate_left
    ·(intro w hSw; (try dsimp only at hSw); go_simp; with_reducible rfl)
    simp only [Act.put, List.setIfInBounds_toArray, List.set_cons_zero, List.set_cons_succ]
    refine held_run (v := ?_) 6 130 rfl rfl (by kernel_rfl) (by kernel_rfl) (by kernel_rfl) (fun _ _ _ h5 => h5) (by rfl) ?_ (by assumption) ?_
    rotate_left
    ·(intro w hSw; (try dsimp only at hSw); go_simp; with_reducible rfl)
    simp only [Act.put, List.setIfInBounds_toArray, List.set_cons_zero, List.set_cons_succ]
    refine held_run (v := ?_) 7 131 rfl rfl (by kernel_rfl) (by kernel_rfl) (by kernel_rfl) (fun _ _ _ h5 => h5) (by rfl) ?_ (by assumption) ?_
    rotate_left
    ·(intro w hSw; (try dsimp only at hSw); go_simp; with_reducible rfl)
    simp only [Act.put, List.setIfInBounds_toArray, List.set_cons_zero, List.set_cons_succ]
    refine held_run (v := ?_) 8 132 rfl rfl (by kernel_rfl) (by kernel_rfl) (by kernel_rfl) (fun _ _ _ h5 => h5) (by rfl) ?_ (by assumption) ?_
    rotate_left
    ·(intro w hSw; (try dsimp only at hSw); go_simp; with_reducible rfl)
    simp only [Act.put, List.setIfInBounds_toArray, List.set_cons_zero, List.set_cons_succ]
    refine held_run (v := ?_) 9 133 rfl rfl (by kernel_rfl) (by kernel_rfl) (by kernel_rfl) (fun _ _ _ h5 => h5) (by rfl) ?_ (by assumption) ?_
    rotate_left
    ·(intro w hSw; (try dsimp only at hSw); go_simp; with_reducible rfl)
    simp only [Act.put, List.setIfInBounds_toArray, List.set_cons_zero, List.set_cons_succ]
    refine held_run (v := ?_) 10 134 rfl rfl (by kernel_rfl) (by kernel_rfl) (by kernel_rfl) (fun _ _ _ h5 => h5) (by rfl) ?_ (by assumption) ?_
    rotate_left
    ·(intro w hSw; (try dsimp only at hSw); go_simp; with_reducible rfl)
    simp only [Act.put, List.setIfInBounds_toArray, List.set_cons_zero, List.set_cons_succ]
    refine wpAnyH_ready (rs := [1]) (by kernel_rfl) (by simp) (AllReadyH.cons (o := _) rfl (fun K hK => ?_) AllReadyH.nil)
    go_simp
    (refine (sroom_any _ S B L h5 _ _ _ (m - 82) n9 (hx.later (Below.refl _ _).drew) (hlg.later (Below.refl _ _).drew) hen (by omega)).mono ?_; rintro e w8 ⟨rfl, hb8'⟩; have hb8 := (Below.refl _ _).drew.trans hb8'; obtain ⟨r0, r1, r2, -⟩ := (HM.out.later hb8).cells)
    go_wp2_with fail
    refine hK.out _ _ (by (try dsimp only); go_keep) (fun hHeld => ?_)
    clear hK K
    try simp only [Act.put, List.setIfInBounds_toArray, List.set_cons_zero, List.set_cons_succ]
    refine held_run (v := ?_) 11 135 rfl rfl (by kernel_rfl) (by kernel_rfl) (by kernel_rfl) (fun _ _ _ h5 => h5) (by rfl) ?_ (by assumption) ?_
    rotate_left
    ·(intro w hSw; (try dsimp only at hSw); go_simp; with_reducible rfl)
    simp only [Act.put, List.setIfInBounds_toArray, List.set_cons_zero, List.set_cons_succ]
    refine held_run (v := ?_) 12 136 rfl rfl (by kernel_rfl) (by kernel_rfl) (by kernel_rfl) (fun _ _ _ h5 => h5) (by rfl) ?_ (by assumption) ?_
    rotate_left
    ·(intro w hSw; (try dsimp only at hSw); go_simp; with_reducible rfl)
    simp only [Act.put, List.setIfInBounds_toArray, List.set_cons_zero, List.set_cons_succ]
    refine held_run (v := ?_) 13 137 rfl rfl (by kernel_rfl) (by kernel_rfl) (by kernel_rfl) (fun _ _ _ h5 => h5) (by rfl) ?_ (by assumption) ?_
    rotate_left
    ·(intro w hSw; (try dsimp only at hSw); go_simp; with_reducible rfl)
    simp only [Act.put, List.setIfInBounds_toArray, List.set_cons_zero, List.set_cons_succ]
    refine held_run (v := ?_) 16 140 rfl rfl (by kernel_rfl) (by kernel_rfl) (by kernel_rfl) (fun _ _ _ h5 => h5) (by rfl) ?_ (by assumption) ?_
    rotate_left
    ·(intro w hSw; (try dsimp only at hSw); go_simp; with_reducible rfl)
    simp only [Act.put, List.setIfInBounds_toArray, List.set_cons_zero, List.set_cons_succ]
    refine held_run (v := ?_) 17 141 rfl rfl (by kernel_rfl) (by kernel_rfl) (by kernel_rfl) (fun _ _ _ h5 => h5) (by rfl) ?_ (by assumption) ?_
    rotate_left
    ·(intro w hSw; (try dsimp only at hSw); go_simp; with_reducible rfl)
    simp only [Act.put, List.setIfInBounds_toArray, List.set_cons_zero, List.set_cons_succ]
    refine held_run (v := ?_) 18 142 rfl rfl (by kernel_rfl) (by kernel_rfl) (by kernel_rfl) (fun _ _ _ h5 => h5) (by rfl) ?_ (by assumption) ?_
    rotate_left
    ·(intro w hSw; (try dsimp only at hSw); go_simp; with_reducible rfl)
    simp only [Act.put, List.setIfInBounds_toArray, List.set_cons_zero, List.set_cons_succ]
    refine held_run (v := ?_) 19 143 rfl rfl (by kernel_rfl) (by kernel_rfl) (by kernel_rfl) (fun _ _ _ h5 => h5) (by rfl) ?_ (by assumption) ?_
    rotate_left
    ·(intro w hSw; (try dsimp only at hSw); go_simp; with_reducible rfl)
    simp only [Act.put, List.setIfInBounds_toArray, List.set_cons_zero, List.set_cons_succ]
    refine wpAnyH_ready (rs := [14]) (by kernel_rfl) (by simp) (AllReadyH.cons (o := _) rfl (fun K hK => ?_) AllReadyH.nil)
    go_simp
    (refine (scat_any _ S B h5 o n c _ (hx.later hb8)).mono ?_; rintro e w9 ⟨rfl, hb9'⟩; have hb9 := hb8.trans (hb9'.mono hb8.size); obtain ⟨r0, r1, r2, -⟩ := (HM.out.later hb9).cells)
    go_wp2_with fail
    refine hK.out _ _ (by (try dsimp only); go_keep) (fun hHeld => ?_)
    clear hK K
    try simp only [Act.put, List.setIfInBounds_toArray, List.set_cons_zero, List.set_cons_succ]
    refine wpAnyH_ready (rs := [15]) (by kernel_rfl) (by simp) (AllReadyH.cons (o := _) rfl (fun K hK => ?_) AllReadyH.nil)
    go_simp
    (refine (lattices_any2 _ _ ps ⟨_, rfl, hc.below hb9⟩ hpl (by rw [hps]; exact hok.all)).mono ?_; rintro e w10 ⟨u, rs, rfl, hcr, hmr, hb10'⟩; have hb10 := hb9.trans (hb10'.mono hb9.size); obtain ⟨r0, r1, r2, -⟩ := (HM.out.later hb10).cells)
    go_wp2_with fail
    refine hK.out _ _ (by (try dsimp only); go_keep) (fun hHeld => ?_)
    clear hK K
    try simp only [Act.put, List.setIfInBounds_toArray, List.set_cons_zero, List.set_cons_succ]
    refine wpAnyH_ready (rs := [20]) (by kernel_rfl) (by simp) (AllReadyH.cons (o := _) rfl (fun K hK => ?_) AllReadyH.nil)
    go_simp
    (refine (sameCatalog_any _ _ _ rs q6 hcr (HC.out.below hb10) (by have := congrArg List.length hmr; rw [List.length_map, List.length_map] at this; omega) (fun p hp => (by have := hok.all p.x (by rw [← hps, ← hmr]; exact List.mem_map.2 ⟨p, hp, rfl⟩); exact nm_sizes this)) true (by simp [hmr, hps, HQQ.out])).mono ?_; rintro e w11 ⟨rfl, hb11'⟩; have hb11 := hb10.trans (hb11'.mono hb10.size); obtain ⟨r0, r1, r2, -⟩ := (HM.out.later hb11).cells)
    go_wp2_with fail
    refine hK.out _ _ (by (try dsimp only); go_keep) (fun hHeld => ?_)
    clear hK K
    try simp only [Act.put, List.setIfInBounds_toArray, List.set_cons_zero, List.set_cons_succ]
    refine held_run (v := ?_) 21 145 rfl rfl (by kernel_rfl) (by kernel_rfl) (by kernel_rfl) (fun _ _ _ h5 => h5) (by rfl) ?_ (by assumption) ?_
    rotate_left
    ·(intro w hSw; (try dsimp only at hSw); go_simp; with_reducible rfl)
    simp only [Act.put, List.setIfInBounds_toArray, List.set_cons_zero, List.set_cons_succ]
    refine held_run (v := ?_) 22 146 rfl rfl (by kernel_rfl) (by kernel_rfl) (by kernel_rfl) (fun _ _ _ h5 => h5) (by rfl) ?_ (by assumption) ?_
    rotate_left
    ·(intro w hSw; (try dsimp only at hSw); go_simp; with_reducible rfl)
    simp only [Act.put, List.setIfInBounds_toArray, List.set_cons_zero, List.set_cons_succ]
    refine wpAnyH_done (by kernel_rfl) ?_ _
    have HPn := hide (hp.later hb11); have HMn := hide (HM.out.later hb11); have HCn := hide (HC.out.below hb11); have HBn := hide (HBW.out.trans (hb11.mono HBW.out.size))
    have HBSn : Hid (B ≤ w11.heap.size) := Nat.le_trans HBS.out hb11.size
    clear r0 r1 r2 hb11 hb10 hb9 hb8 hx hc hlg hdsk hi hp hcr c0 c1 c2
    go_wp2
    go_roundw
    case rel => exact ⟨k + 1, S, D5, h5, l9, n9, o6, n6, k6, q6, rfl, by omega, by go_num, HPn, HF, HMn, HCn, HQQ, HBn, HBSn⟩
    case measure => simp [intOf]; omega
   ·have q2 : (kd.toList == [99, 111, 109, 109, 105, 116]) = false := beq_eq_false_iff_ne.2 q1
    by_cases q3 : kd.toList = [115, 97, 118, 101]
    ·have q4 : (kd.toList == [115, 97, 118, 101]) = true := beq_iff_eq.2 q3
     clear q1 q3
     go_wp2_with fail
     clear d0 d1 d2 d3 d4 d5 d6 d7 d8 c0
     generalize wr.alloc (.cells #[.string kd, .int .i64 a, .string ps, .int .u64 kk, .int .i64 okd, .string name, .int .i64 on, .slice vo vs.length vc, .slice xo os.length xc] 46) = w4 at *
     generalize wr.heap.size = Q at *
     refine (checkpoint_any w4 B S B D m h l en HP.out hm h86 (HT.out.below HBW.out) HBS.out).mono ?_
     rintro e w5 ⟨D5, b5, rfl, -, hk5, hok5, -, hfr5⟩
     obtain ⟨rfl, hf5⟩ := hfr5 HF.out
     obtain ⟨h5, hp5⟩ := hok5 rfl
     have hm5 := HM.out.keptS hk5
     rw [show okV true = .nilIface from rfl]
     have HP5 := hide hp5; have HM5 := hide hm5; have HC5 := hide (HC.out.keepK (keepK_keptS hk5)); have HBW5 := hide (hk5.below HBW.out HBB.out HBW.out.size); have HF5 := hide hf5
     have HBS5 : Hid (B ≤ w5.heap.size) := Nat.le_trans HBS.out hk5.size
     clear hp5 hm5 hk5 hok5 hfr5 hf5 HP HF HM HC HBW HBS HQ c8
     go_wp2_with fail
     refine (rsave_any w5 M _ _ _ HM5.out).mono ?_
     rintro e w6 ⟨rfl, hm6, hb6⟩
     have HP := hide (HP5.out.but HM5.out rst_sto rst_kin hb6)
     have HC := hide (HC5.out.keepK (keepK_but HM5.out rst_kin hb6))
     have HBW := hide (hb6.below HBW5.out HMW.out HBW5.out.size)
     have HBS : Hid (B ≤ w6.heap.size) := Nat.le_trans HBS5.out hb6.size
     have HF := HF5
     obtain ⟨n9, hn9⟩ : ∃ n9 : Nat, n9 = 0 := ⟨_, rfl⟩
     rw [← hn9] at HP
     rw [show (0 : Int) = (n9 : Int) from by rw [hn9]; rfl] at hm6
     have HM := hide hm6
     clear hm6 hb6 HP5 HM5 HC5 HBW5 HBS5 HF5 hn9
     have hp := HP.out
     obtain ⟨⟨L, o, n, c, ps, hx, hc, hps, hlg, hL, hSB⟩, hdsk, hi⟩ := id hp
     have hok := hi.says.ok
     have hen : n9 ≤ m - 82 := hi.says.en_le
     have hpl : ps.length ≤ 100 := by have := hok.few; rw [← hps, List.length_map] at this; omega
     obtain ⟨c0, c1, c2, -⟩ := HM.out.cells
     have gR : ((m - 82 : Nat) : Int) - (n9 : Int) = ((m - 82 - n9 : Nat) : Int) := by omega
     have gW : IntKind.i64.wrap ((m - 82 - n9 : Nat) : Int) = ((m - 82 - n9 : Nat) : Int) := wrap_small (by omega) (by omega)
     have gN : (((m - 82 - n9 : Nat) : Int) != ((m - 82 - n9 : Nat) : Int)) = false := by rw [bne_eq_false_iff_eq]
     go_wp2_with fail
     refine wp_region_held_drew (S := (fun w' => w'.cell? ⟨M, 0, none⟩ = some (.slice co cl ck) ∧ w'.cell? ⟨M, 1, none⟩ = some (.int .i64 (n9 : Int)) ∧ w'.cell? ⟨M, 2, none⟩ = some (.int .i64 ((m - 82 : Nat) : Int)))) (by kernel_rfl) (by (try dsimp only); go_keep) (fun hHeld => ?_)
     refine held_run (v := ?_) 0 124 rfl rfl (by kernel_rfl) (by kernel_rfl) (by kernel_rfl) (fun _ _ _ h5 => h5) (by rfl) ?_ (by assumption) ?_
     rotate_left
     ·(intro w hSw; (try dsimp only at hSw); go_simp; with_reducible rfl)
     simp only [Act.put, List.setIfInBounds_toArray, List.set_cons_zero, List.set_cons_succ]
     refine held_run (v := ?_) 2 126 rfl rfl (by kernel_rfl) (by kernel_rfl) (by kernel_rfl) (fun _ _ _ h5 => h5) (by rfl) ?_ (by assumption) ?_
     rotate_left
     ·(intro w hSw; (try dsimp only at hSw); go_simp; with_reducible rfl)
     simp only [Act.put, List.setIfInBounds_toArray, List.set_cons_zero, List.set_cons_succ]
     refine held_run (v := ?_) 3 127 rfl rfl (by kernel_rfl) (by kernel_rfl) (by kernel_rfl) (fun _ _ _ h5 => h5) (by rfl) ?_ (by assumption) ?_
     rotate_left
     ·(intro w hSw; (try dsimp only at hSw); go_simp; with_reducible rfl)
     simp only [Act.put, List.setIfInBounds_toArray, List.set_cons_zero, List.set_cons_succ]
     refine held_run (v := ?_) 4 128 rfl rfl (by kernel_rfl) (by kernel_rfl) (by kernel_rfl) (fun _ _ _ h5 => h5) (by rfl) ?_ (by assumption) ?_
     rotate_left
     ·(intro w hSw; (try dsimp only at hSw); go_simp; with_reducible rfl)
     simp only [Act.put, List.setIfInBounds_toArray, List.set_cons_zero, List.set_cons_succ]
     refine held_run (v := ?_) 5 129 rfl rfl (by kernel_rfl) (by kernel_rfl) (by kernel_rfl) (fun _ _ _ h5 => h5) (by rfl) ?_ (by assumption) ?_
     rotate_left
     ·(intro w hSw; (try dsimp only at hSw); go_simp; with_reducible rfl)
     simp only [Act.put, List.setIfInBounds_toArray, List.set_cons_zero, List.set_cons_succ]
     refine held_run (v := ?_) 6 130 rfl rfl (by kernel_rfl) (by kernel_rfl) (by kernel_rfl) (fun _ _ _ h5 => h5) (by rfl) ?_ (by assumption) ?_
     rotate_left
     ·(intro w hSw; (try dsimp only at hSw); go_simp; with_reducible rfl)
     simp only [Act.put, List.setIfInBounds_toArray, List.set_cons_zero, List.set_cons_succ]
     refine held_run (v := ?_) 7 131 rfl rfl (by kernel_rfl) (by kernel_rfl) (by kernel_rfl) (fun _ _ _ h5 => h5) (by rfl) ?_ (by assumption) ?_
     rotate_left
     ·(intro w hSw; (try dsimp only at hSw); go_simp; with_reducible rfl)
     simp only [Act.put, List.setIfInBounds_toArray, List.set_cons_zero, List.set_cons_succ]
     refine held_run (v := ?_) 8 132 rfl rfl (by kernel_rfl) (by kernel_rfl) (by kernel_rfl) (fun _ _ _ h5 => h5) (by rfl) ?_ (by assumption) ?_
     rotate_left
     ·(intro w hSw; (try dsimp only at hSw); go_simp; with_reducible rfl)
     simp only [Act.put, List.setIfInBounds_toArray, List.set_cons_zero, List.set_cons_succ]
     refine held_run (v := ?_) 9 133 rfl rfl (by kernel_rfl) (by kernel_rfl) (by kernel_rfl) (fun _ _ _ h5 => h5) (by rfl) ?_ (by assumption) ?_
     rotate_left
     ·(intro w hSw; (try dsimp only at hSw); go_simp; with_reducible rfl)
     simp only [Act.put, List.setIfInBounds_toArray, List.set_cons_zero, List.set_cons_succ]
     refine held_run (v := ?_) 10 134 rfl rfl (by kernel_rfl) (by kernel_rfl) (by kernel_rfl) (fun _ _ _ h5 => h5) (by rfl) ?_ (by assumption) ?_
     rotate_left
     ·(intro w hSw; (try dsimp only at hSw); go_simp; with_reducible rfl)
     simp only [Act.put, List.setIfInBounds_toArray, List.set_cons_zero, List.set_cons_succ]
     refine wpAnyH_ready (rs := [1]) (by kernel_rfl) (by simp) (AllReadyH.cons (o := _) rfl (fun K hK => ?_) AllReadyH.nil)
     go_simp
     (refine (sroom_any _ S B L h5 _ _ _ (m - 82) n9 (hx.later (Below.refl _ _).drew) (hlg.later (Below.refl _ _).drew) hen (by omega)).mono ?_; rintro e w8 ⟨rfl, hb8'⟩; have hb8 := (Below.refl _ _).drew.trans hb8'; obtain ⟨r0, r1, r2, -⟩ := (HM.out.later hb8).cells)
     go_wp2_with fail
     refine hK.out _ _ (by (try dsimp only); go_keep) (fun hHeld => ?_)
     clear hK K
     try simp only [Act.put, List.setIfInBounds_toArray, List.set_cons_zero, List.set_cons_succ]
     refine held_run (v := ?_) 11 135 rfl rfl (by kernel_rfl) (by kernel_rfl) (by kernel_rfl) (fun _ _ _ h5 => h5) (by rfl) ?_ (by assumption) ?_
     rotate_left
     ·(intro w hSw; (try dsimp only at hSw); go_simp; with_reducible rfl)
     simp only [Act.put, List.setIfInBounds_toArray, List.set_cons_zero, List.set_cons_succ]
     refine held_run (v := ?_) 12 136 rfl rfl (by kernel_rfl) (by kernel_rfl) (by kernel_rfl) (fun _ _ _ h5 => h5) (by rfl) ?_ (by assumption) ?_
     rotate_left
     ·(intro w hSw; (try dsimp only at hSw); go_simp; with_reducible rfl)
     simp only [Act.put, List.setIfInBounds_toArray, List.set_cons_zero, List.set_cons_succ]
     refine held_run (v := ?_) 13 137 rfl rfl (by kernel_rfl) (by kernel_rfl) (by kernel_rfl) (fun _ _ _ h5 => h5) (by rfl) ?_ (by assumption) ?_
     rotate_left
     ·(intro w hSw; (try dsimp only at hSw); go_simp; with_reducible rfl)
     simp only [Act.put, List.setIfInBounds_toArray, List.set_cons_zero, List.set_cons_succ]
     refine held_run (v := ?_) 16 140 rfl rfl (by kernel_rfl) (by kernel_rfl) (by kernel_rfl) (fun _ _ _ h5 => h5) (by rfl) ?_ (by assumption) ?_
     rotate_left
     ·(intro w hSw; (try dsimp only at hSw); go_simp; with_reducible rfl)
     simp only [Act.put, List.setIfInBounds_toArray, List.set_cons_zero, List.set_cons_succ]
     refine held_run (v := ?_) 17 141 rfl rfl (by kernel_rfl) (by kernel_rfl) (by kernel_rfl) (fun _ _ _ h5 => h5) (by rfl) ?_ (by assumption) ?_
     rotate_left
     ·(intro w hSw; (try dsimp only at hSw); go_simp; with_reducible rfl)
     simp only [Act.put, List.setIfInBounds_toArray, List.set_cons_zero, List.set_cons_succ]
     refine held_run (v := ?_) 18 142 rfl rfl (by kernel_rfl) (by kernel_rfl) (by kernel_rfl) (fun _ _ _ h5 => h5) (by rfl) ?_ (by assumption) ?_
     rotate_left
     ·(intro w hSw; (try dsimp only at hSw); go_simp; with_reducible rfl)
     simp only [Act.put, List.setIfInBounds_toArray, List.set_cons_zero, List.set_cons_succ]
     refine held_run (v := ?_) 19 143 rfl rfl (by kernel_rfl) (by kernel_rfl) (by kernel_rfl) (fun _ _ _ h5 => h5) (by rfl) ?_ (by assumption) ?_
     rotate_left
     ·(intro w hSw; (try dsimp only at hSw); go_simp; with_reducible rfl)
     simp only [Act.put, List.setIfInBounds_toArray, List.set_cons_zero, List.set_cons_succ]
     refine wpAnyH_ready (rs := [14]) (by kernel_rfl) (by simp) (AllReadyH.cons (o := _) rfl (fun K hK => ?_) AllReadyH.nil)
     go_simp
     (refine (scat_any _ S B h5 o n c _ (hx.later hb8)).mono ?_; rintro e w9 ⟨rfl, hb9'⟩; have hb9 := hb8.trans (hb9'.mono hb8.size); obtain ⟨r0, r1, r2, -⟩ := (HM.out.later hb9).cells)
     go_wp2_with fail
     refine hK.out _ _ (by (try dsimp only); go_keep) (fun hHeld => ?_)
     clear hK K
     try simp only [Act.put, List.setIfInBounds_toArray, List.set_cons_zero, List.set_cons_succ]
     refine wpAnyH_ready (rs := [15]) (by kernel_rfl) (by simp) (AllReadyH.cons (o := _) rfl (fun K hK => ?_) AllReadyH.nil)
     go_simp
     (refine (lattices_any2 _ _ ps ⟨_, rfl, hc.below hb9⟩ hpl (by rw [hps]; exact hok.all)).mono ?_; rintro e w10 ⟨u, rs, rfl, hcr, hmr, hb10'⟩; have hb10 := hb9.trans (hb10'.mono hb9.size); obtain ⟨r0, r1, r2, -⟩ := (HM.out.later hb10).cells)
     go_wp2_with fail
     refine hK.out _ _ (by (try dsimp only); go_keep) (fun hHeld => ?_)
     clear hK K
     try simp only [Act.put, List.setIfInBounds_toArray, List.set_cons_zero, List.set_cons_succ]
     refine wpAnyH_ready (rs := [20]) (by kernel_rfl) (by simp) (AllReadyH.cons (o := _) rfl (fun K hK => ?_) AllReadyH.nil)
     go_simp
     (refine (sameCatalog_any _ _ _ rs qs hcr (HC.out.below hb10) (by have := congrArg List.length hmr; rw [List.length_map, List.length_map] at this; omega) (fun p hp => (by have := hok.all p.x (by rw [← hps, ← hmr]; exact List.mem_map.2 ⟨p, hp, rfl⟩); exact nm_sizes this)) true (by simp [hmr, hps, HQQ.out])).mono ?_; rintro e w11 ⟨rfl, hb11'⟩; have hb11 := hb10.trans (hb11'.mono hb10.size); obtain ⟨r0, r1, r2, -⟩ := (HM.out.later hb11).cells)
     go_wp2_with fail
     refine hK.out _ _ (by (try dsimp only); go_keep) (fun hHeld => ?_)
     clear hK K
     try simp only [Act.put, List.setIfInBounds_toArray, List.set_cons_zero, List.set_cons_succ]
     refine held_run (v := ?_) 21 145 rfl rfl (by kernel_rfl) (by kernel_rfl) (by kernel_rfl) (fun _ _ _ h5 => h5) (by rfl) ?_ (by assumption) ?_
     rotate_left
     ·(intro w hSw; (try dsimp only at hSw); go_simp; with_reducible rfl)
     simp only [Act.put, List.setIfInBounds_toArray, List.set_cons_zero, List.set_cons_succ]
     refine held_run (v := ?_) 22 146 rfl rfl (by kernel_rfl) (by kernel_rfl) (by kernel_rfl) (fun _ _ _ h5 => h5) (by rfl) ?_ (by assumption) ?_
     rotate_left
     ·(intro w hSw; (try dsimp only at hSw); go_simp; with_reducible rfl)
     simp only [Act.put, List.setIfInBounds_toArray, List.set_cons_zero, List.set_cons_succ]
     refine wpAnyH_done (by kernel_rfl) ?_ _
     have HPn := hide (hp.later hb11); have HMn := hide (HM.out.later hb11); have HCn := hide (HC.out.below hb11); have HBn := hide (HBW.out.trans (hb11.mono HBW.out.size))
     have HBSn : Hid (B ≤ w11.heap.size) := Nat.le_trans HBS.out hb11.size
     clear r0 r1 r2 hb11 hb10 hb9 hb8 hx hc hlg hdsk hi hp hcr c0 c1 c2
     go_wp2
     go_roundw
     case rel => exact ⟨k + 1, S, D5, h5, l, n9, co, cl, ck, qs, rfl, by omega, by go_num, HPn, HF, HMn, HCn, HQQ, HBn, HBSn⟩
     case measure => simp [intOf]; omega
    ·have q4 : (kd.toList == [115, 97, 118, 101]) = false := beq_eq_false_iff_ne.2 q3
     clear q1 q3
     go_wp2_with fail
     clear d0 d1 d2 d3 d4 d5 d6 d7 d8 c0
     generalize wr.alloc (.cells #[.string kd, .int .i64 a, .string ps, .int .u64 kk, .int .i64 okd, .string name, .int .i64 on, .slice vo vs.length vc, .slice xo os.length xc] 46) = w4 at *
     generalize wr.heap.size = Q at *
     refine (open_any w4 B B D m h l en HP.out.disk HP.out.says hm h86 (HT.out.below HBW.out) (HX.out.below HBW.out) HBS.out).mono ?_
     rintro e w5 ⟨S5, rfl, -, hp5, hb5⟩
     have HPn := hide hp5; have HMn := hide (HM.out.later hb5); have HCn := hide (HC.out.below hb5); have HBWn := hide (HBW.out.trans (hb5.mono HBW.out.size))
     have HBSn : Hid (B ≤ w5.heap.size) := Nat.le_trans HBS.out hb5.size
     clear hp5 hb5 HP HM HC HBW HBS HQ c8
     have HP := HPn; have HM := HMn; have HC := HCn; have HBW := HBWn; have HBS := HBSn
     clear HPn HMn HCn HBWn HBSn
     have hp := HP.out
     obtain ⟨⟨L, o, n, c, ps, hx, hc, hps, hlg, hL, hSB⟩, hdsk, hi⟩ := id hp
     have hok := hi.says.ok
     have hen : en ≤ m - 82 := hi.says.en_le
     have hpl : ps.length ≤ 100 := by have := hok.few; rw [← hps, List.length_map] at this; omega
     obtain ⟨c0, c1, c2, -⟩ := HM.out.cells
     have gR : ((m - 82 : Nat) : Int) - (en : Int) = ((m - 82 - en : Nat) : Int) := by omega
     have gW : IntKind.i64.wrap ((m - 82 - en : Nat) : Int) = ((m - 82 - en : Nat) : Int) := wrap_small (by omega) (by omega)
     have gN : (((m - 82 - en : Nat) : Int) != ((m - 82 - en : Nat) : Int)) = false := by rw [bne_eq_false_iff_eq]
     go_wp2_with fail
     refine wp_region_held_drew (S := (fun w' => w'.cell? ⟨M, 0, none⟩ = some (.slice co cl ck) ∧ w'.cell? ⟨M, 1, none⟩ = some (.int .i64 (en : Int)) ∧ w'.cell? ⟨M, 2, none⟩ = some (.int .i64 ((m - 82 : Nat) : Int)))) (by kernel_rfl) (by (try dsimp only); go_keep) (fun hHeld => ?_)
     refine held_run (v := ?_) 0 124 rfl rfl (by kernel_rfl) (by kernel_rfl) (by kernel_rfl) (fun _ _ _ h => h) (by rfl) ?_ (by assumption) ?_
     rotate_left
     ·(intro w hSw; (try dsimp only at hSw); go_simp; with_reducible rfl)
     simp only [Act.put, List.setIfInBounds_toArray, List.set_cons_zero, List.set_cons_succ]
     refine held_run (v := ?_) 2 126 rfl rfl (by kernel_rfl) (by kernel_rfl) (by kernel_rfl) (fun _ _ _ h => h) (by rfl) ?_ (by assumption) ?_
     rotate_left
     ·(intro w hSw; (try dsimp only at hSw); go_simp; with_reducible rfl)
     simp only [Act.put, List.setIfInBounds_toArray, List.set_cons_zero, List.set_cons_succ]
     refine held_run (v := ?_) 3 127 rfl rfl (by kernel_rfl) (by kernel_rfl) (by kernel_rfl) (fun _ _ _ h => h) (by rfl) ?_ (by assumption) ?_
     rotate_left
     ·(intro w hSw; (try dsimp only at hSw); go_simp; with_reducible rfl)
     simp only [Act.put, List.setIfInBounds_toArray, List.set_cons_zero, List.set_cons_succ]
     refine held_run (v := ?_) 4 128 rfl rfl (by kernel_rfl) (by kernel_rfl) (by kernel_rfl) (fun _ _ _ h => h) (by rfl) ?_ (by assumption) ?_
     rotate_left
     ·(intro w hSw; (try dsimp only at hSw); go_simp; with_reducible rfl)
     simp only [Act.put, List.setIfInBounds_toArray, List.set_cons_zero, List.set_cons_succ]
     refine held_run (v := ?_) 5 129 rfl rfl (by kernel_rfl) (by kernel_rfl) (by kernel_rfl) (fun _ _ _ h => h) (by rfl) ?_ (by assumption) ?_
     rotate_left
     ·(intro w hSw; (try dsimp only at hSw); go_simp; with_reducible rfl)
     simp only [Act.put, List.setIfInBounds_toArray, List.set_cons_zero, List.set_cons_succ]
     refine held_run (v := ?_) 6 130 rfl rfl (by kernel_rfl) (by kernel_rfl) (by kernel_rfl) (fun _ _ _ h => h) (by rfl) ?_ (by assumption) ?_
     rotate_left
     ·(intro w hSw; (try dsimp only at hSw); go_simp; with_reducible rfl)
     simp only [Act.put, List.setIfInBounds_toArray, List.set_cons_zero, List.set_cons_succ]
     refine held_run (v := ?_) 7 131 rfl rfl (by kernel_rfl) (by kernel_rfl) (by kernel_rfl) (fun _ _ _ h => h) (by rfl) ?_ (by assumption) ?_
     rotate_left
     ·(intro w hSw; (try dsimp only at hSw); go_simp; with_reducible rfl)
     simp only [Act.put, List.setIfInBounds_toArray, List.set_cons_zero, List.set_cons_succ]
     refine held_run (v := ?_) 8 132 rfl rfl (by kernel_rfl) (by kernel_rfl) (by kernel_rfl) (fun _ _ _ h => h) (by rfl) ?_ (by assumption) ?_
     rotate_left
     ·(intro w hSw; (try dsimp only at hSw); go_simp; with_reducible rfl)
     simp only [Act.put, List.setIfInBounds_toArray, List.set_cons_zero, List.set_cons_succ]
     refine held_run (v := ?_) 9 133 rfl rfl (by kernel_rfl) (by kernel_rfl) (by kernel_rfl) (fun _ _ _ h => h) (by rfl) ?_ (by assumption) ?_
     rotate_left
     ·(intro w hSw; (try dsimp only at hSw); go_simp; with_reducible rfl)
     simp only [Act.put, List.setIfInBounds_toArray, List.set_cons_zero, List.set_cons_succ]
     refine held_run (v := ?_) 10 134 rfl rfl (by kernel_rfl) (by kernel_rfl) (by kernel_rfl) (fun _ _ _ h => h) (by rfl) ?_ (by assumption) ?_
     rotate_left
     ·(intro w hSw; (try dsimp only at hSw); go_simp; with_reducible rfl)
     simp only [Act.put, List.setIfInBounds_toArray, List.set_cons_zero, List.set_cons_succ]
     refine wpAnyH_ready (rs := [1]) (by kernel_rfl) (by simp) (AllReadyH.cons (o := _) rfl (fun K hK => ?_) AllReadyH.nil)
     go_simp
     (refine (sroom_any _ S5 B L h _ _ _ (m - 82) en (hx.later (Below.refl _ _).drew) (hlg.later (Below.refl _ _).drew) hen (by omega)).mono ?_; rintro e w8 ⟨rfl, hb8'⟩; have hb8 := (Below.refl _ _).drew.trans hb8'; obtain ⟨r0, r1, r2, -⟩ := (HM.out.later hb8).cells)
     go_wp2_with fail
     refine hK.out _ _ (by (try dsimp only); go_keep) (fun hHeld => ?_)
     clear hK K
     try simp only [Act.put, List.setIfInBounds_toArray, List.set_cons_zero, List.set_cons_succ]
     refine held_run (v := ?_) 11 135 rfl rfl (by kernel_rfl) (by kernel_rfl) (by kernel_rfl) (fun _ _ _ h => h) (by rfl) ?_ (by assumption) ?_
     rotate_left
     ·(intro w hSw; (try dsimp only at hSw); go_simp; with_reducible rfl)
     simp only [Act.put, List.setIfInBounds_toArray, List.set_cons_zero, List.set_cons_succ]
     refine held_run (v := ?_) 12 136 rfl rfl (by kernel_rfl) (by kernel_rfl) (by kernel_rfl) (fun _ _ _ h => h) (by rfl) ?_ (by assumption) ?_
     rotate_left
     ·(intro w hSw; (try dsimp only at hSw); go_simp; with_reducible rfl)
     simp only [Act.put, List.setIfInBounds_toArray, List.set_cons_zero, List.set_cons_succ]
     refine held_run (v := ?_) 13 137 rfl rfl (by kernel_rfl) (by kernel_rfl) (by kernel_rfl) (fun _ _ _ h => h) (by rfl) ?_ (by assumption) ?_
     rotate_left
     ·(intro w hSw; (try dsimp only at hSw); go_simp; with_reducible rfl)
     simp only [Act.put, List.setIfInBounds_toArray, List.set_cons_zero, List.set_cons_succ]
     refine held_run (v := ?_) 16 140 rfl rfl (by kernel_rfl) (by kernel_rfl) (by kernel_rfl) (fun _ _ _ h => h) (by rfl) ?_ (by assumption) ?_
     rotate_left
     ·(intro w hSw; (try dsimp only at hSw); go_simp; with_reducible rfl)
     simp only [Act.put, List.setIfInBounds_toArray, List.set_cons_zero, List.set_cons_succ]
     refine held_run (v := ?_) 17 141 rfl rfl (by kernel_rfl) (by kernel_rfl) (by kernel_rfl) (fun _ _ _ h => h) (by rfl) ?_ (by assumption) ?_
     rotate_left
     ·(intro w hSw; (try dsimp only at hSw); go_simp; with_reducible rfl)
     simp only [Act.put, List.setIfInBounds_toArray, List.set_cons_zero, List.set_cons_succ]
     refine held_run (v := ?_) 18 142 rfl rfl (by kernel_rfl) (by kernel_rfl) (by kernel_rfl) (fun _ _ _ h => h) (by rfl) ?_ (by assumption) ?_
     rotate_left
     ·(intro w hSw; (try dsimp only at hSw); go_simp; with_reducible rfl)
     simp only [Act.put, List.setIfInBounds_toArray, List.set_cons_zero, List.set_cons_succ]
     refine held_run (v := ?_) 19 143 rfl rfl (by kernel_rfl) (by kernel_rfl) (by kernel_rfl) (fun _ _ _ h => h) (by rfl) ?_ (by assumption) ?_
     rotate_left
     ·(intro w hSw; (try dsimp only at hSw); go_simp; with_reducible rfl)
     simp only [Act.put, List.setIfInBounds_toArray, List.set_cons_zero, List.set_cons_succ]
     refine wpAnyH_ready (rs := [14]) (by kernel_rfl) (by simp) (AllReadyH.cons (o := _) rfl (fun K hK => ?_) AllReadyH.nil)
     go_simp
     (refine (scat_any _ S5 B h o n c _ (hx.later hb8)).mono ?_; rintro e w9 ⟨rfl, hb9'⟩; have hb9 := hb8.trans (hb9'.mono hb8.size); obtain ⟨r0, r1, r2, -⟩ := (HM.out.later hb9).cells)
     go_wp2_with fail
     refine hK.out _ _ (by (try dsimp only); go_keep) (fun hHeld => ?_)
     clear hK K
     try simp only [Act.put, List.setIfInBounds_toArray, List.set_cons_zero, List.set_cons_succ]
     refine wpAnyH_ready (rs := [15]) (by kernel_rfl) (by simp) (AllReadyH.cons (o := _) rfl (fun K hK => ?_) AllReadyH.nil)
     go_simp
     (refine (lattices_any2 _ _ ps ⟨_, rfl, hc.below hb9⟩ hpl (by rw [hps]; exact hok.all)).mono ?_; rintro e w10 ⟨u, rs, rfl, hcr, hmr, hb10'⟩; have hb10 := hb9.trans (hb10'.mono hb9.size); obtain ⟨r0, r1, r2, -⟩ := (HM.out.later hb10).cells)
     go_wp2_with fail
     refine hK.out _ _ (by (try dsimp only); go_keep) (fun hHeld => ?_)
     clear hK K
     try simp only [Act.put, List.setIfInBounds_toArray, List.set_cons_zero, List.set_cons_succ]
     refine wpAnyH_ready (rs := [20]) (by kernel_rfl) (by simp) (AllReadyH.cons (o := _) rfl (fun K hK => ?_) AllReadyH.nil)
     go_simp
     (refine (sameCatalog_any _ _ _ rs qs hcr (HC.out.below hb10) (by have := congrArg List.length hmr; rw [List.length_map, List.length_map] at this; omega) (fun p hp => (by have := hok.all p.x (by rw [← hps, ← hmr]; exact List.mem_map.2 ⟨p, hp, rfl⟩); exact nm_sizes this)) true (by simp [hmr, hps, HQQ.out])).mono ?_; rintro e w11 ⟨rfl, hb11'⟩; have hb11 := hb10.trans (hb11'.mono hb10.size); obtain ⟨r0, r1, r2, -⟩ := (HM.out.later hb11).cells)
     go_wp2_with fail
     refine hK.out _ _ (by (try dsimp only); go_keep) (fun hHeld => ?_)
     clear hK K
     try simp only [Act.put, List.setIfInBounds_toArray, List.set_cons_zero, List.set_cons_succ]
     refine held_run (v := ?_) 21 145 rfl rfl (by kernel_rfl) (by kernel_rfl) (by kernel_rfl) (fun _ _ _ h => h) (by rfl) ?_ (by assumption) ?_
     rotate_left
     ·(intro w hSw; (try dsimp only at hSw); go_simp; with_reducible rfl)
     simp only [Act.put, List.setIfInBounds_toArray, List.set_cons_zero, List.set_cons_succ]
     refine held_run (v := ?_) 22 146 rfl rfl (by kernel_rfl) (by kernel_rfl) (by kernel_rfl) (fun _ _ _ h => h) (by rfl) ?_ (by assumption) ?_
     rotate_left
     ·(intro w hSw; (try dsimp only at hSw); go_simp; with_reducible rfl)
     simp only [Act.put, List.setIfInBounds_toArray, List.set_cons_zero, List.set_cons_succ]
     refine wpAnyH_done (by kernel_rfl) ?_ _
     have HPn := hide (hp.later hb11); have HMn := hide (HM.out.later hb11); have HCn := hide (HC.out.below hb11); have HBn := hide (HBW.out.trans (hb11.mono HBW.out.size))
     have HBSn : Hid (B ≤ w11.heap.size) := Nat.le_trans HBS.out hb11.size
     clear r0 r1 r2 hb11 hb10 hb9 hb8 hx hc hlg hdsk hi hp hcr c0 c1 c2
     go_wp2
     go_roundw
     case rel => exact ⟨k + 1, S5, D, h, l, en, co, cl, ck, qs, rfl, by omega, by go_num, HPn, HF, HMn, HCn, HQQ, HBn, HBSn⟩
     case measure => simp [intOf]; omega
  ·obtain rfl : k = N := by omega
   go_wp2
   go_ret
   exact ⟨rfl, HBW.out⟩

end Go.Proofs.YtnhbfehfipafoaaGreatDoor
