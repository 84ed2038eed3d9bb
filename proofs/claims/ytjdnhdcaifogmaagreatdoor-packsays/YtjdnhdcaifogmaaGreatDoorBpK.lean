/- The reference: bytes as an operation. -/
import Derived.Test.YtjdnhdcaifogmaaGreatDoorWcC
import Derived.Test.YtjdnhdcaifogmaaGreatDoorBgD
import Derived.Test.YtjdnhdcaifogmaaGreatDoorBpG
import Derived.Test.YtjdnhdcaifogmaaGreatDoorOpsC

namespace Go.Proofs.YtjdnhdcaifogmaaGreatDoor
open Go.RowKit

def OpOfR (w : World) (s : ByteArray) (e : Ending) (w' : World) : Prop :=
 (((∀ o, opF o = 0 → opB o ≠ s.data.toList) ∧ e = .returned (.tuple #[.agg #[.int .i64 0, .string ⟨#[]⟩, .int .i64 0, .slice none 0 0], .int .i64 5])) ∨
  ∃ (o : OpV) (vo : Option Addr) (vc : Nat), opF o = 0 ∧ opB o = s.data.toList ∧ e = .returned (.tuple #[.agg #[.int .i64 o.kind, .string o.name, .int .i64 o.n, .slice vo o.v.length vc], .int .i64 0]) ∧ ∃ base, w.heap.size ≤ base ∧ RowAt base w' vo o.v.length vc o.v) ∧ Below w.heap.size w w'

set_option linter.unusedSimpArgs false in
set_option maxRecDepth 100000 in
set_option maxHeartbeats 1600000 in
theorem opOfR_any (w : World) (s : ByteArray) (hs : s.size ≤ 1000000) : Calls Tryz.prog 17 #[.string s] w fun e w' => OpOfR w s e w' := by
 have HB := hide (alloc_below w (.cells #[.int .i64 0, .string ⟨#[]⟩, .int .i64 0, .slice none 0 0] 46))
 have X2 := hide (BoxQ.new w (.int .i64 0) (.string ⟨#[]⟩) (.int .i64 0) (.slice none 0 0) 46)
 obtain ⟨⟨r0, r1, r2, r3, -⟩, hfz⟩ := X2.out
 have z0 := hfz 0; have z1 := hfz 1; have z2 := hfz 2; have z3 := hfz 3
 clear hfz
 obtain ⟨nl, hnl, hnl255⟩ := byt_nat s 1
 have hnl' : (byt s 1).toNat = nl := by omega
 by_cases h2 : s.size < 4
 ·have HN : Hid (∀ o, opF o = 0 → opB o ≠ s.data.toList) := hide (unB_none (by unfold unB; rw [hnl']; by_cases h3 : s.size < 2; · rw [if_pos h3]
                                                                               ·rw [if_neg h3, if_pos (by omega)]))
  have g2 : decide ((s.size : Int) < 4) = true := decide_eq_true (by omega)
  clear h2 hnl hnl' hnl255
  go_enter Tryz.func17, Tryz.ntmps17
  go_wp2
  exact bodyPost_ret (v := .tuple #[.agg #[.int .i64 0, .string ⟨#[]⟩, .int .i64 0, .slice none 0 0], .int .i64 5]) (by simp [results, Tryz.results17, go_sem, r0, r1, r2, r3]) rfl ⟨.inl ⟨HN.out, rfl⟩, by first | exact HB.out | exact below_fill4 HB.out (Nat.le_refl _) _ _ _ _⟩
 have g2 : decide ((s.size : Int) < 4) = false := decide_eq_false (by omega)
 have b1 := byt_eq (s := s) (k := 1) (by omega)
 have b0 := byt_eq (s := s) (k := 0) (by omega)
 obtain ⟨kd, hkd, hkd255⟩ := byt_nat s 0
 rw [hnl] at b1
 rw [hkd] at b0
 have HNL := hide hnl'; have HKD := hide hkd
 have h2' : 4 ≤ s.size := by omega
 clear hnl hkd hnl'
 obtain ⟨c2, hc2⟩ : ∃ c, c = nl + 2 := ⟨_, rfl⟩
 obtain ⟨c3, hc3⟩ : ∃ c, c = nl + 3 := ⟨_, rfl⟩
 obtain ⟨c4, hc4⟩ : ∃ c, c = nl + 4 := ⟨_, rfl⟩
 have gadd : 4 + (nl : Int) = (c4 : Int) := by omega
 have gad3 : 3 + (nl : Int) = (c3 : Int) := by omega
 have gad2 : 2 + (nl : Int) = (c2 : Int) := by omega
 by_cases h4 : s.size < c4
 ·have HN : Hid (∀ o, opF o = 0 → opB o ≠ s.data.toList) := hide (unB_none (by unfold unB; rw [HNL.out, if_neg (by omega), if_pos (by omega)]))
  clear hc2 hc3 hc4
  go_enter Tryz.func17, Tryz.ntmps17
  go_wp2
  exact bodyPost_ret (v := .tuple #[.agg #[.int .i64 0, .string ⟨#[]⟩, .int .i64 0, .slice none 0 0], .int .i64 5]) (by simp [results, Tryz.results17, go_sem, r0, r1, r2, r3]) rfl ⟨.inl ⟨HN.out, rfl⟩, by first | exact HB.out | exact below_fill4 HB.out (Nat.le_refl _) _ _ _ _⟩
 have hp2 : c2 < s.size := by omega
 have hp3 : c3 < s.size := by omega
 have bn := byt_eq (s := s) (k := c2) hp2
 have bm := byt_eq (s := s) (k := c3) hp3
 obtain ⟨nn, hnn, hnn255⟩ := byt_nat s c2
 obtain ⟨mm, hmm, hmm255⟩ := byt_nat s c3
 rw [hnn] at bn
 rw [hmm] at bm
 have hmm' : (byt s (nl + 3)).toNat = mm := by rw [← hc3, hmm]; rfl
 have HNN := hide hnn; have HMM := hide hmm'
 obtain ⟨sz, hsz⟩ : ∃ c, c = c4 + 2 * mm := ⟨_, rfl⟩
 have gsz : (c4 : Int) + 2 * (mm : Int) = (sz : Int) := by omega
 have hp0 : 0 < s.size := by omega
 have hp1 : 1 < s.size := by omega
 have hp4 : c2 ≤ s.size := by omega
 have hp5 : (2 : Int) ≤ (c2 : Int) := by omega
 have HC2 := hide hc2; have HC3 := hide hc3; have HC4 := hide hc4; have HSZ := hide hsz; have H4 := hide h4
 have hb2 : c2 ≤ 257 := by omega
 have hb4 : c4 ≤ 259 := by omega
 clear hnn hmm hmm' hc2 hc3 hc4
 by_cases h8 : s.size = sz
 ·have g8 : ((s.size : Int) != (sz : Int)) = false := by rw [bne_eq_false_iff_eq]; omega
  have H8 := hide h8
  clear h8 hsz
  have wk : IntKind.i64.wrap ((kd : Nat) : Int) = (kd : Int) := wrap_small (by omega) (by omega)
  have wn : IntKind.i64.wrap ((nn : Nat) : Int) = (nn : Int) := wrap_small (by omega) (by omega)
  have wc : IntKind.i64.wrap (c2 : Int) = (c2 : Int) := wrap_small (by omega) (by omega)
  go_enter Tryz.func17, Tryz.ntmps17
  go_wp2_with fail
  generalize w.alloc (.cells #[.int .i64 0, .string ⟨#[]⟩, .int .i64 0, .slice none 0 0] 46) = W0 at *
  refine up_start (A := fun j => decide (j = 13 ∨ j = 14)) (S := fun _ => True) (by kernel_rfl) trivial (fun hHeld => ?_)
  refine up_pure (v := ?_) 0 37 rfl rfl (by kernel_rfl) (by kernel_rfl) (by kernel_rfl) (by kernel_rfl) (fun _ _ _ h => h) (by rfl) ?_ ?_
  rotate_left
  ·(intro w; go_simp; with_reducible rfl)
  simp only [Act.put, List.setIfInBounds_toArray, List.set_cons_zero, List.set_cons_succ]
  refine up_pure (v := ?_) 1 38 rfl rfl (by kernel_rfl) (by kernel_rfl) (by kernel_rfl) (by kernel_rfl) (fun _ _ _ h => h) (by rfl) ?_ ?_
  rotate_left
  ·(intro w; go_simp; with_reducible rfl)
  simp only [Act.put, List.setIfInBounds_toArray, List.set_cons_zero, List.set_cons_succ]
  refine up_pure (v := ?_) 2 39 rfl rfl (by kernel_rfl) (by kernel_rfl) (by kernel_rfl) (by kernel_rfl) (fun _ _ _ h => h) (by rfl) ?_ ?_
  rotate_left
  ·(intro w; go_simp; with_reducible rfl)
  simp only [Act.put, List.setIfInBounds_toArray, List.set_cons_zero, List.set_cons_succ]
  refine up_pure (v := ?_) 3 40 rfl rfl (by kernel_rfl) (by kernel_rfl) (by kernel_rfl) (by kernel_rfl) (fun _ _ _ h => h) (by rfl) ?_ ?_
  rotate_left
  ·(intro w; go_simp; with_reducible rfl)
  simp only [Act.put, List.setIfInBounds_toArray, List.set_cons_zero, List.set_cons_succ]
  refine up_pure (v := ?_) 4 41 rfl rfl (by kernel_rfl) (by kernel_rfl) (by kernel_rfl) (by kernel_rfl) (fun _ _ _ h => h) (by rfl) ?_ ?_
  rotate_left
  ·(intro w; go_simp; with_reducible rfl)
  simp only [Act.put, List.setIfInBounds_toArray, List.set_cons_zero, List.set_cons_succ]
  refine up_pure (v := ?_) 5 42 rfl rfl (by kernel_rfl) (by kernel_rfl) (by kernel_rfl) (by kernel_rfl) (fun _ _ _ h => h) (by rfl) ?_ ?_
  rotate_left
  ·(intro w; go_simp; with_reducible rfl)
  simp only [Act.put, List.setIfInBounds_toArray, List.set_cons_zero, List.set_cons_succ]
  refine up_pure (v := ?_) 6 43 rfl rfl (by kernel_rfl) (by kernel_rfl) (by kernel_rfl) (by kernel_rfl) (fun _ _ _ h => h) (by rfl) ?_ ?_
  rotate_left
  ·(intro w; go_simp; with_reducible rfl)
  simp only [Act.put, List.setIfInBounds_toArray, List.set_cons_zero, List.set_cons_succ]
  refine up_pure (v := ?_) 7 44 rfl rfl (by kernel_rfl) (by kernel_rfl) (by kernel_rfl) (by kernel_rfl) (fun _ _ _ h => h) (by rfl) ?_ ?_
  rotate_left
  ·(intro w; go_simp; with_reducible rfl)
  simp only [Act.put, List.setIfInBounds_toArray, List.set_cons_zero, List.set_cons_succ]
  refine up_pure (v := ?_) 8 45 rfl rfl (by kernel_rfl) (by kernel_rfl) (by kernel_rfl) (by kernel_rfl) (fun _ _ _ h => h) (by rfl) ?_ ?_
  rotate_left
  ·(intro w; go_simp; with_reducible rfl)
  simp only [Act.put, List.setIfInBounds_toArray, List.set_cons_zero, List.set_cons_succ]
  refine up_pure (v := ?_) 9 46 rfl rfl (by kernel_rfl) (by kernel_rfl) (by kernel_rfl) (by kernel_rfl) (fun _ _ _ h => h) (by rfl) ?_ ?_
  rotate_left
  ·(intro w; go_simp; with_reducible rfl)
  simp only [Act.put, List.setIfInBounds_toArray, List.set_cons_zero, List.set_cons_succ]
  refine up_pure (v := ?_) 10 47 rfl rfl (by kernel_rfl) (by kernel_rfl) (by kernel_rfl) (by kernel_rfl) (fun _ _ _ h => h) (by rfl) ?_ ?_
  rotate_left
  ·(intro w; go_simp; with_reducible rfl)
  simp only [Act.put, List.setIfInBounds_toArray, List.set_cons_zero, List.set_cons_succ]
  refine up_pure (v := ?_) 11 48 rfl rfl (by kernel_rfl) (by kernel_rfl) (by kernel_rfl) (by kernel_rfl) (fun _ _ _ h => h) (by rfl) ?_ ?_
  rotate_left
  ·(intro w; go_simp; with_reducible rfl)
  simp only [Act.put, List.setIfInBounds_toArray, List.set_cons_zero, List.set_cons_succ]
  refine up_pure (v := ?_) 12 49 rfl rfl (by kernel_rfl) (by kernel_rfl) (by kernel_rfl) (by kernel_rfl) (fun _ _ _ h => h) (by rfl) ?_ ?_
  rotate_left
  ·(intro w; go_simp; with_reducible rfl)
  simp only [Act.put, List.setIfInBounds_toArray, List.set_cons_zero, List.set_cons_succ]
  refine up_one 13 (by kernel_rfl) rfl (fun K hK => ?_)
  go_simp
  refine hK.out _ _ (fun _ => trivial) ?_
  clear hK K
  try simp only [Act.put, List.setIfInBounds_toArray, List.set_cons_zero, List.set_cons_succ]
  refine up_one 14 (by kernel_rfl) rfl (fun K hK => ?_)
  go_simp
  refine hK.out _ _ (fun _ => trivial) ?_
  clear hK K
  try simp only [Act.put, List.setIfInBounds_toArray, List.set_cons_zero, List.set_cons_succ]
  refine up_done (by kernel_rfl) ?_
  go_wp2_with fail
  have hbA := (alloc_below W0 (.cells #[.int .i64 (kd : Int), .string (s.extract 2 c2), .int .i64 (nn : Int), .slice none 0 0] 46)).drew
  have X5 := hide ((BoxQ.new W0 (.int .i64 (kd : Int)) (.string (s.extract 2 c2)) (.int .i64 (nn : Int)) (.slice none 0 0) 46).later ((Below.refl _ _).drew))
  have X2b := hide (X2.out.later hbA); have HBb := hide (HB.out.trans (hbA.mono HB.out.size))
  have hW0 : w.heap.size < W0.heap.size := X2.out.1.2.2.2.2
  clear X2 HB hbA r0 r1 r2 r3 z0 z1 z2 z3
  generalize (W0.alloc (.cells #[.int .i64 (kd : Int), .string (s.extract 2 c2), .int .i64 (nn : Int), .slice none 0 0] 46)).drew = W1 at *
  generalize W0.heap.size = B5 at *
  obtain ⟨nm, hnm⟩ : ∃ nm, s.extract 2 c2 = nm := ⟨_, rfl⟩
  rw [hnm] at X5
  try rw [hnm]
  have HNM := hide hnm
  clear hnm bn bm b0 b1 hp0 hp1 hp2 hp3 hp4 hp5 wk wn wc gadd gad2 gad3 g2 g8 gsz
  go_loopw [6] (fun i wr => ∃ (k c : Nat) (vo : Option Addr) (vc : Nat), k ≤ mm ∧ c = c4 + 2 * k ∧ i = .int .i64 c ∧ Hid (BoxQ wr B5 (.int .i64 (kd : Int)) (.string nm) (.int .i64 (nn : Int)) (.slice vo k vc)) ∧ Hid (RowAt (B5 + 1) wr vo k vc ((List.range k).map (fun i => s16 (byt s (c4 + 2 * i) + 256 * byt s (c4 + 2 * i + 1))))) ∧ Hid (BoxQ wr w.heap.size (.int .i64 0) (.string ⟨#[]⟩) (.int .i64 0) (.slice none 0 0)) ∧ Hid (Below w.heap.size w wr)) (fun i _ => s.size - (intOf i).toNat)
  case atStart => exact ⟨0, c4, none, 0, Nat.zero_le _, rfl, rfl, X5, hide ⟨World.ownsRow_nil _ _ _ _, fun k hk => by simp at hk⟩, X2b, HBb⟩
  case round =>
   clear X5 X2b HBb
   obtain ⟨k, c, vo, vc, hk, hc, rfl, X5, HRW, X2, HB⟩ := hrel
   have HC := hide hc
   by_cases hkl : k < mm
   ·obtain ⟨c1, hc1⟩ : ∃ e1, e1 = c + 1 := ⟨_, rfl⟩
    have hp0 : c < s.size := by have := H8.out; have := HSZ.out; omega
    have hp1 : c1 < s.size := by have := H8.out; have := HSZ.out; omega
    have gad1 : (c : Int) + 1 = (c1 : Int) := by omega
    have w1 : IntKind.i64.wrap (c1 : Int) = (c1 : Int) := wrap_small (by omega) (by omega)
    have b0 := byt_eq (s := s) (k := c) hp0
    have b1 := byt_eq (s := s) (k := c1) hp1
    obtain ⟨x, hx, hx255⟩ := byt_nat s c
    obtain ⟨y, hy, hy255⟩ := byt_nat s c1
    rw [hx] at b0
    rw [hy] at b1
    have HX := hide hx; have HY := hide hy; have HC1 := hide hc1
    clear hc hc1 hx hy
    have wx : IntKind.i64.wrap (x : Int) = (x : Int) := wrap_small (by omega) (by omega)
    have wy : IntKind.i64.wrap (y : Int) = (y : Int) := wrap_small (by omega) (by omega)
    go_wp2_with fail
    refine wp_region_held_drew (S := (fun _ => True)) (by kernel_rfl) trivial (fun hHeld => ?_)
    refine held_run (v := ?_) 0 58 rfl rfl (by kernel_rfl) (by kernel_rfl) (by kernel_rfl) (fun _ _ _ h => h) (by rfl) ?_ trivial ?_
    rotate_left
    ·(intro w hSw; (try dsimp only at hSw); go_simp; with_reducible rfl)
    simp only [Act.put, List.setIfInBounds_toArray, List.set_cons_zero, List.set_cons_succ]
    refine held_run (v := ?_) 1 59 rfl rfl (by kernel_rfl) (by kernel_rfl) (by kernel_rfl) (fun _ _ _ h => h) (by rfl) ?_ trivial ?_
    rotate_left
    ·(intro w hSw; (try dsimp only at hSw); go_simp; with_reducible rfl)
    simp only [Act.put, List.setIfInBounds_toArray, List.set_cons_zero, List.set_cons_succ]
    refine held_run (v := ?_) 2 60 rfl rfl (by kernel_rfl) (by kernel_rfl) (by kernel_rfl) (fun _ _ _ h => h) (by rfl) ?_ trivial ?_
    rotate_left
    ·(intro w hSw; (try dsimp only at hSw); go_simp; with_reducible rfl)
    simp only [Act.put, List.setIfInBounds_toArray, List.set_cons_zero, List.set_cons_succ]
    refine held_run (v := ?_) 3 61 rfl rfl (by kernel_rfl) (by kernel_rfl) (by kernel_rfl) (fun _ _ _ h => h) (by rfl) ?_ trivial ?_
    rotate_left
    ·(intro w hSw; (try dsimp only at hSw); go_simp; with_reducible rfl)
    simp only [Act.put, List.setIfInBounds_toArray, List.set_cons_zero, List.set_cons_succ]
    refine held_run (v := ?_) 4 62 rfl rfl (by kernel_rfl) (by kernel_rfl) (by kernel_rfl) (fun _ _ _ h => h) (by rfl) ?_ trivial ?_
    rotate_left
    ·(intro w hSw; (try dsimp only at hSw); go_simp; with_reducible rfl)
    simp only [Act.put, List.setIfInBounds_toArray, List.set_cons_zero, List.set_cons_succ]
    refine held_run (v := ?_) 5 63 rfl rfl (by kernel_rfl) (by kernel_rfl) (by kernel_rfl) (fun _ _ _ h => h) (by rfl) ?_ trivial ?_
    rotate_left
    ·(intro w hSw; (try dsimp only at hSw); go_simp; with_reducible rfl)
    simp only [Act.put, List.setIfInBounds_toArray, List.set_cons_zero, List.set_cons_succ]
    refine held_run (v := ?_) 6 64 rfl rfl (by kernel_rfl) (by kernel_rfl) (by kernel_rfl) (fun _ _ _ h => h) (by rfl) ?_ trivial ?_
    rotate_left
    ·(intro w hSw; (try dsimp only at hSw); go_simp; with_reducible rfl)
    simp only [Act.put, List.setIfInBounds_toArray, List.set_cons_zero, List.set_cons_succ]
    refine held_run (v := ?_) 7 65 rfl rfl (by kernel_rfl) (by kernel_rfl) (by kernel_rfl) (fun _ _ _ h => h) (by rfl) ?_ trivial ?_
    rotate_left
    ·(intro w hSw; (try dsimp only at hSw); go_simp; with_reducible rfl)
    simp only [Act.put, List.setIfInBounds_toArray, List.set_cons_zero, List.set_cons_succ]
    refine held_run (v := ?_) 8 66 rfl rfl (by kernel_rfl) (by kernel_rfl) (by kernel_rfl) (fun _ _ _ h => h) (by rfl) ?_ trivial ?_
    rotate_left
    ·(intro w hSw; (try dsimp only at hSw); go_simp; with_reducible rfl)
    simp only [Act.put, List.setIfInBounds_toArray, List.set_cons_zero, List.set_cons_succ]
    refine held_run (v := ?_) 9 67 rfl rfl (by kernel_rfl) (by kernel_rfl) (by kernel_rfl) (fun _ _ _ h => h) (by rfl) ?_ trivial ?_
    rotate_left
    ·(intro w hSw; (try dsimp only at hSw); go_simp; with_reducible rfl)
    simp only [Act.put, List.setIfInBounds_toArray, List.set_cons_zero, List.set_cons_succ]
    refine held_run (v := ?_) 10 68 rfl rfl (by kernel_rfl) (by kernel_rfl) (by kernel_rfl) (fun _ _ _ h => h) (by rfl) ?_ trivial ?_
    rotate_left
    ·(intro w hSw; (try dsimp only at hSw); go_simp; with_reducible rfl)
    simp only [Act.put, List.setIfInBounds_toArray, List.set_cons_zero, List.set_cons_succ]
    refine held_run (v := ?_) 11 7 rfl rfl (by kernel_rfl) (by kernel_rfl) (by kernel_rfl) (fun _ _ _ h => h) (by rfl) ?_ trivial ?_
    rotate_left
    ·(intro w hSw; (try dsimp only at hSw); go_simp; with_reducible rfl)
    simp only [Act.put, List.setIfInBounds_toArray, List.set_cons_zero, List.set_cons_succ]
    refine wpAnyH_done (by kernel_rfl) ?_ _
    have wv : IntKind.i64.wrap ((x : Int) + IntKind.i64.wrap (256 * (y : Int))) = (x : Int) + 256 * (y : Int) := by
     rw [wrap_small (x := 256 * (y : Int)) (by omega) (by omega)]
     exact wrap_small (by omega) (by omega)
    rw [wv]
    have HV : Hid (s16 ((x : Int) + 256 * (y : Int)) = s16 (byt s (c4 + 2 * k) + 256 * byt s (c4 + 2 * k + 1))) := by
     show _ = _
     have e1 := HC1.out
     rw [HC.out] at e1
     rw [← e1, ← HC.out, HX.out, HY.out]
    have hVr : 0 ≤ (x : Int) + 256 * (y : Int) ∧ (x : Int) + 256 * (y : Int) ≤ 65535 := by omega
    have hce : c + 2 = c4 + 2 * (k + 1) := by have := HC.out; omega
    have hcl : c < s.size := hp0
    clear b0 b1 w1 gad1 hp1 hx255 hy255 HX HY wx wy wv HC1
    generalize (x : Int) + 256 * (y : Int) = V at *
    obtain ⟨⟨-, -, -, r3, -⟩, hfz⟩ := X5.out
    have z3 := hfz 3
    clear hfz
    obtain ⟨z, hz⟩ : ∃ z, s16 V = z := ⟨_, rfl⟩
    have hzr := s16_range hVr.1 hVr.2
    rw [hz] at HV hzr
    have hbs : B5 < wr.heap.size := X5.out.1.2.2.2.2
    obtain ⟨o', c', W', hr4, hrow, hbE⟩ := RowAt.snoc (W := wr.drew) (base := B5 + 1) ⟨ownsRow_later HRW.out.1 (Below.refl _ _).drew, HRW.out.2⟩ (by show B5 + 1 ≤ wr.heap.size; omega) z hzr (by omega)
    have hr5 : (Builtin.append_ #[44, 44] 44 #[.slice vo k vc, .slice (some ⟨wr.heap.size, 0, none⟩) 1 1]).run Tryz.prog (wr.drew.alloc (.cells #[.int .i64 z] 3)) = .ok (.slice o' (k + 1) c') W' := hr4
    have HR5 := hide hr5
    have hbF : Below (B5 + 1) wr W' := (Below.refl (B5 + 1) wr).drew.trans hbE
    have x5 := X5.out.laterC hbF (Nat.lt_succ_self B5)
    have X5b := hide (x5.set3 (.slice o' (k + 1) c'))
    have X2c := hide ((X2.out.laterC hbF (by omega)).setOther (p := ⟨B5, 3, none⟩) (by show B5 ≠ w.heap.size; omega) (.slice o' (k + 1) c'))
    have HRWb : Hid (RowAt (B5 + 1) (W'.setCell ⟨B5, 3, none⟩ (.slice o' (k + 1) c')) o' (k + 1) c' ((List.range (k + 1)).map (fun i => s16 (byt s (c4 + 2 * i) + 256 * byt s (c4 + 2 * i + 1))))) := by
     show RowAt _ _ _ _ _ _
     rw [List.range_succ, List.map_append, List.map_cons, List.map_nil, ← HV.out]
     exact hrow.set (p := ⟨B5, 3, none⟩) (Nat.lt_succ_self B5) _
    have HBc := hide ((HB.out.trans (hbF.mono (by omega))).setCell (p := ⟨B5, 3, none⟩) (by show w.heap.size ≤ B5; omega) (.slice o' (k + 1) c'))
    obtain ⟨⟨-, -, -, y3, -⟩, hfy⟩ := x5
    have y4 := hfy 3
    have f3 := ((alloc_below wr (.cells #[.int .i64 z] 3)).cell (p := ⟨B5, 3, none⟩) hbs).trans r3
    clear hr4 hr5 hrow hbE hbF hfy HV HRW X2 HB X5 HC
    by_cases hb : 32767 < V
    ·have hz2 : V - 65536 = z := by rw [← hz]; unfold s16; rw [if_neg (by omega)]
     have g7 : decide (32767 < V) = true := decide_eq_true hb
     clear hz hb hVr
     go_wp2_with (at_builtin; refine Lib.wpList_append_run _ rfl _ _ _ _ rfl _ _ rfl rfl _ _ HR5.out ?_)
     go_roundw
     case rel => exact ⟨k + 1, c + 2, _, _, by omega, hce, by go_num, X5b, HRWb, X2c, HBc⟩
     case measure => simp [intOf]; omega
    ·have hz2 : V = z := by rw [← hz]; unfold s16; rw [if_pos (by omega)]
     subst hz2
     have g7 : decide (32767 < V) = false := decide_eq_false hb
     clear hz hb hVr
     go_wp2_with (at_builtin; refine Lib.wpList_append_run _ rfl _ _ _ _ rfl _ _ rfl rfl _ _ HR5.out ?_)
     go_roundw
     case rel => exact ⟨k + 1, c + 2, _, _, by omega, hce, by go_num, X5b, HRWb, X2c, HBc⟩
     case measure => simp [intOf]; omega
   ·obtain rfl : k = mm := by omega
    have hcs : ¬ c < s.size := by have := H8.out; have := HSZ.out; omega
    have hlen : ((List.range k).map (fun i => s16 (byt s (c4 + 2 * i) + 256 * byt s (c4 + 2 * i + 1)))).length = k := by simp
    have HUN : Hid (unB s = some ⟨kd, nm, nn, (List.range k).map (fun i => s16 (byt s (c4 + 2 * i) + 256 * byt s (c4 + 2 * i + 1)))⟩) := by
     have h1 := HC2.out; have h3 := HC4.out; have h6 := H8.out; have h7 := HSZ.out
     show _ = _
     unfold unB
     rw [HNL.out, if_neg (by omega), if_neg (by omega), HMM.out, if_neg (by omega), HKD.out, show nl + 2 = c2 by omega, HNN.out, HNM.out, show nl + 4 = c4 by omega]
     congr 2
     apply List.map_congr_left
     intro i hi
     have hi := List.mem_range.1 hi
     rw [byt_extract _ _ _ _ (by omega), byt_extract _ _ _ _ (by omega), Nat.add_assoc]
    obtain ⟨vs, hvs⟩ : ∃ vs, (List.range k).map (fun i => s16 (byt s (c4 + 2 * i) + 256 * byt s (c4 + 2 * i + 1))) = vs := ⟨_, rfl⟩
    rw [hvs] at hlen HUN HRW
    have hbs : B5 < wr.heap.size := X5.out.1.2.2.2.2
    obtain ⟨⟨c0', c1', c2', c3', -⟩, -⟩ := X5.out
    subst hlen
    clear hvs hc HC hk hkl
    go_wp2_with fail
    refine (opTextR_any wr ⟨kd, nm, nn, vs⟩ vo vc HRW.out.row (by dsimp only; omega)).mono ?_
    rintro e w3 ⟨rfl, hb3⟩
    have X2d := hide (X2.out.later hb3); have X5d := hide (X5.out.later hb3); have HBd := hide (HB.out.trans (hb3.mono HB.out.size)); have HROW := hide (HRW.out.later hb3)
    clear hb3 X2 X5 HB HRW c0' c1' c2' c3'
    obtain ⟨⟨r0, r1, r2, r3, -⟩, hfz⟩ := X2d.out
    have z0 := hfz 0; have z1 := hfz 1; have z2 := hfz 2; have z3 := hfz 3
    clear hfz
    obtain ⟨⟨c0', c1', c2', c3', -⟩, -⟩ := X5d.out
    by_cases hF : opF ⟨kd, nm, nn, vs⟩ = 0
    ·have HF := hide hF
     have HFIN := hide (opB_unB HUN.out)
     have hRow : ∀ v0 v1 v2 v3, RowAt (B5 + 1) ((((w3.setCell ⟨w.heap.size, 0, none⟩ v0).setCell ⟨w.heap.size, 1, none⟩ v1).setCell ⟨w.heap.size, 2, none⟩ v2).setCell ⟨w.heap.size, 3, none⟩ v3) vo vs.length vc vs := fun v0 v1 v2 v3 =>
      have hlt : w.heap.size < B5 + 1 := by omega
      ((((HROW.out.set (p := ⟨w.heap.size, 0, none⟩) hlt v0).set (p := ⟨w.heap.size, 1, none⟩) hlt v1).set (p := ⟨w.heap.size, 2, none⟩) hlt v2).set (p := ⟨w.heap.size, 3, none⟩) hlt v3)
     have HRR := hide hRow
     rw [hF]
     clear hF hRow
     go_wp2
     exact bodyPost_ret (v := .tuple #[.agg #[.int .i64 (kd : Int), .string nm, .int .i64 (nn : Int), .slice vo vs.length vc], .int .i64 0]) (by simp [results, Tryz.results17, go_sem, r0, r1, r2, r3]) rfl ⟨.inr ⟨⟨kd, nm, nn, vs⟩, vo, vc, HF.out, HFIN.out, rfl, B5 + 1, by omega, HRR.out _ _ _ _⟩, below_fill4 HBd.out (Nat.le_refl _) _ _ _ _⟩
    ·have HN := hide (unB_not HUN.out (.inl hF))
     obtain ⟨f, hf⟩ : ∃ f, opF ⟨kd, nm, nn, vs⟩ = f := ⟨_, rfl⟩
     rw [hf] at hF ⊢
     have hf0 : 0 < f := by omega
     clear hf hF
     go_wp2
     exact bodyPost_ret (v := .tuple #[.agg #[.int .i64 0, .string ⟨#[]⟩, .int .i64 0, .slice none 0 0], .int .i64 5]) (by simp [results, Tryz.results17, go_sem, r0, r1, r2, r3]) rfl ⟨.inl ⟨HN.out, rfl⟩, by first | exact HBd.out | exact below_fill4 HBd.out (Nat.le_refl _) _ _ _ _⟩
 ·have g8 : ((s.size : Int) != (sz : Int)) = true := by rw [bne_iff_ne]; omega
  have HN : Hid (∀ o, opF o = 0 → opB o ≠ s.data.toList) := hide (unB_none (by
   have h3 := HC4.out
   have h5 := H4.out
   unfold unB
   rw [HNL.out, if_neg (by omega), if_neg (by omega), HMM.out, if_pos (by omega)]))
  clear h8 hsz
  go_enter Tryz.func17, Tryz.ntmps17
  go_wp2
  exact bodyPost_ret (v := .tuple #[.agg #[.int .i64 0, .string ⟨#[]⟩, .int .i64 0, .slice none 0 0], .int .i64 5]) (by simp [results, Tryz.results17, go_sem, r0, r1, r2, r3]) rfl ⟨.inl ⟨HN.out, rfl⟩, by first | exact HB.out | exact below_fill4 HB.out (Nat.le_refl _) _ _ _ _⟩

end Go.Proofs.YtjdnhdcaifogmaaGreatDoor

/- The reference: are two operations the same? -/
namespace Go.Proofs.YtjdnhdcaifogmaaGreatDoor
open Go.RowKit

set_option linter.unusedSimpArgs false in
set_option maxRecDepth 100000 in
set_option maxHeartbeats 1600000 in
theorem sameOp_any (w : World) (o : OpV) (ao bo : Option Addr) (ac bc : Nat) (ha : RowS w (.slice ao o.v.length ac) o.v) (hb : RowS w (.slice bo o.v.length bc) o.v) (hl : o.v.length ≤ 1000) :
  Calls Tryz.prog 18 #[.agg #[.int .i64 o.kind, .string o.name, .int .i64 o.n, .slice ao o.v.length ac], .agg #[.int .i64 o.kind, .string o.name, .int .i64 o.n, .slice bo o.v.length bc]] w fun e w' => e = .returned (.bool true) ∧ Below w.heap.size w w' := by
 have hb1 := alloc_below w (.cells #[.int .i64 o.kind, .string o.name, .int .i64 o.n, .slice ao o.v.length ac] 46)
 have hb2 := alloc_below (w.alloc (.cells #[.int .i64 o.kind, .string o.name, .int .i64 o.n, .slice ao o.v.length ac] 46)) (.cells #[.int .i64 o.kind, .string o.name, .int .i64 o.n, .slice bo o.v.length bc] 46)
 have hf1 := (FourV.new w (.int .i64 o.kind) (.string o.name) (.int .i64 o.n) (.slice ao o.v.length ac) 46).later hb2
 have hf2 := FourV.new (w.alloc (.cells #[.int .i64 o.kind, .string o.name, .int .i64 o.n, .slice ao o.v.length ac] 46)) (.int .i64 o.kind) (.string o.name) (.int .i64 o.n) (.slice bo o.v.length bc) 46
 have hs : (w.alloc (.cells #[.int .i64 o.kind, .string o.name, .int .i64 o.n, .slice ao o.v.length ac] 46)).heap.size = w.heap.size + 1 := by simp
 rw [hs] at hf2
 have HB := hide (hb1.trans (hb2.mono hb1.size)); have X1 := hide hf1; have X2 := hide hf2; have HA := hide ha; have HBB := hide hb
 obtain ⟨a0, a1, a2, a3, -⟩ := hf1
 obtain ⟨b0, b1, b2, b3, -⟩ := hf2
 clear hb1 hb2 hs ha hb
 go_enter Tryz.func18, Tryz.ntmps18
 go_wp2_with fail
 generalize (w.alloc (.cells #[.int .i64 o.kind, .string o.name, .int .i64 o.n, .slice ao o.v.length ac] 46)).alloc (.cells #[.int .i64 o.kind, .string o.name, .int .i64 o.n, .slice bo o.v.length bc] 46) = W at *
 refine (sameNumbers_any W _ _ o.v o.v (HA.out.below HB.out (Nat.le_refl _)) (HBB.out.below HB.out (Nat.le_refl _)) (by omega)).mono ?_
 rintro e w1 ⟨rfl, h1⟩
 rw [decide_eq_true (rfl : o.v = o.v)]
 have HB1 := hide (HB.out.trans (h1.mono HB.out.size))
 clear a0 a1 a2 a3 b0 b1 b2 b3
 obtain ⟨a0, a1, a2, a3, -⟩ := X1.out.later h1
 obtain ⟨b0, b1, b2, b3, -⟩ := X2.out.later h1
 clear h1
 go_wp2
 go_ret
 exact ⟨rfl, HB1.out⟩

end Go.Proofs.YtjdnhdcaifogmaaGreatDoor
