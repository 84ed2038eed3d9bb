/- The reference: digits taken from digits; their order. -/
import Derived.Test.YtdedolkgcdlmeaaGreatDoorRefC
namespace Go.Proofs.YtdedolkgcdlmeaaGreatDoor
open Go.RowKit Limbs Digs

/-- So many places are taken. -/
def SInv (w wr : World) (a b : List Int) (k : Nat) (c : Int) (d : Value) (ds : List Int) : Prop :=
  wr.ownsRow w.heap.size 3 1 d ds.length (ds.map (Value.int .i64)) ∧ Below w.heap.size w wr ∧ DB ds ∧ ds.length = k ∧ dv ds = dv (a.take k) - dv (b.take k) + dp k * c ∧ 0 ≤ c ∧ c ≤ 1

theorem SInv.step {w wr w3 : World} {a b : List Int} {k : Nat} {c t c' : Int} {d d' : Value} {ds : List Int} (h : SInv w wr a b k c d ds) (ht : t = a.getD k 0 - c - b.getD k 0 + 10000 * c') (ht0 : 0 ≤ t ∧ t < 10000) (hc' : 0 ≤ c' ∧ c' ≤ 1)
    (hown : w3.ownsRow w.heap.size 3 1 d' (k + 1) (ds.map (Value.int .i64) ++ [.int .i64 t])) (hg : (wr.alloc (.cells #[.int .i64 t] 3)).grownBy w3 d.ownBlock) : SInv w w3 a b (k + 1) c' d' (ds ++ [t]) := by
  obtain ⟨h1, h2, h3, h4, h5, h6, h7⟩ := h
  have hbl := below_app h1 h2.size hg
  refine ⟨by rw [List.length_append, List.map_append, h4]; exact hown, h2.trans hbl, DB_append h3 ht0, by simp [h4], ?_, hc'.1, hc'.2⟩
  rw [dv_snoc, dv_take_succ, dv_take_succ, h4, h5]
  simp only [dp]
  have e1 : 10000 * dp k * c' = dp k * (10000 * c') := by rw [Int.mul_comm 10000, Int.mul_assoc]
  have e3 : dp k * t = dp k * a.getD k 0 - dp k * c - dp k * b.getD k 0 + dp k * (10000 * c') := by rw [ht, Int.mul_add, Int.mul_sub, Int.mul_sub]
  rw [e1]
  omega

set_option maxRecDepth 100000 in
set_option maxHeartbeats 1600000 in
theorem subDigits_any (w : World) (va vb : Value) (a b : List Int) (ha : Dig w va a) (hb : Dig w vb b) (hl : b.length ≤ a.length) (hle : dv b ≤ dv a) :
    Calls Tryz.prog 103 #[va, vb] w fun e w' => DigPost w (dv a - dv b) a.length e w' := by
  have HA := hide ha; have HB := hide hb
  obtain ⟨ao, acap, rfl, hacap, halen, hadb, -⟩ := ha
  obtain ⟨bo, bcap, rfl, hbcap, hblen, hbdb, -⟩ := hb
  have HLE := hide hle; clear hle
  obtain ⟨i0, hi, hz0, hz1, hz2⟩ := info_parts Tryz.infoInt
  go_enter Tryz.func103, Tryz.ntmps103
  go_wp2
  go_loopw [5, 6, 7] (fun d cc i wr => ∃ (k : Nat) (c : Int) (ds : List Int), k ≤ a.length ∧ i = .int .i64 k ∧ cc = .int .i64 c ∧ SInv w wr a b k c d ds) (fun _ _ i _ => a.length - (intOf i).toNat)
  case atStart => exact ⟨0, 0, [], by omega, rfl, rfl, World.ownsRow_nil _ _ _ _, Below.refl _ _, DB_nil, rfl, by simp [dv, dp], Int.le_refl _, by decide⟩
  case round =>
    obtain ⟨k, c, ds, hk, rfl, rfl, hinv⟩ := hrel
    have hc0 := hinv.2.2.2.2.2.1
    have hc1 := hinv.2.2.2.2.2.2
    have hdl := hinv.2.2.2.1
    have HBL := hide hinv.2.1
    by_cases hend : a.length ≤ k
    · obtain rfl : k = a.length := by omega
      have HF : Hid (DigPost w (dv a - dv b) a.length (.returned u5) wr) := by
        obtain ⟨h1, h2, h3, h4, h5, h6, h7⟩ := hinv
        refine ⟨_, ds, rfl, Dig.owns h1 h3 (by omega), ?_, by omega, h2⟩
        rw [dv_take_ge a (Nat.le_refl _), dv_take_ge b hl] at h5
        have hlt := dv_lt h3
        rw [h4] at hlt
        have hle := HLE.out
        rcases (by omega : c = 0 ∨ c = 1) with e | e <;> subst e
        · rw [h5]; omega
        · omega
      clear hinv
      go_wp2
      go_ret
      exact HF.out
    · have hx := hadb k
      have hy := hbdb k
      have hown := hinv.1
      have HST := hide (fun d' w3 t c' ht ht0 hc' ho hg => hinv.step (d' := d') (w3 := w3) (t := t) (c' := c') ht ht0 hc' ho hg)
      have HB' := hide (by obtain ⟨_, _, e, -, -, -, hc⟩ := HB.out.below HBL.out (Nat.le_refl _); simp only [Value.slice.injEq, true_and] at e; obtain ⟨rfl, rfl⟩ := e; exact hc)
      have HA' := hide (by obtain ⟨_, _, e, -, -, -, hc⟩ := HA.out.below HBL.out (Nat.le_refl _); simp only [Value.slice.injEq, true_and] at e; obtain ⟨rfl, rfl⟩ := e; exact hc)
      have HY0 := hide (fun h => getD_ge b k h)
      obtain ⟨ab, aoff, acur, afz, rfl, -, hac⟩ := HA'.out (by omega)
      have hca := hac k (by omega)
      clear hinv hac HA'
      generalize hxe : a.getD k 0 = x at *
      generalize hye : b.getD k 0 = y at *
      have HXE := hide hxe; clear hxe
      have HYE := hide hye; clear hye
      by_cases hb1 : k < b.length
      · by_cases ho : x - c - y < 0
        · have ho1 := ho
          obtain ⟨bb, boff, bcur, bfz, rfl, -, hbc⟩ := HB'.out (by omega)
          have hcb := hbc k hb1
          rw [HYE.out] at hcb
          clear hbc
          have HS := hide (fun d' w3 ho hg => HST.out d' w3 (x - c - y + 10000) 1 (by omega) (by omega) (by decide) ho hg)
          clear HST HB' HY0 HXE HYE
          have hdd : decide (x - c - y < 0) = true := decide_eq_true (by omega)
          have hde : decide (x - c < y) = true := decide_eq_true (by omega)
          go_wp2_with (at_builtin; refine wpList_append_lies _ rfl _ _ 38 rfl w.heap.size 3 i0 (.int .i64 0) 1 8 Tryz.underlying38 hi hz0 hz1 hz2 rfl (by decide) u5 ds.length (ds.map (Value.int .i64)) rfl (hown.alloc _) ⟨wr.heap.size, 0, none⟩ 1 1 [.int .i64 (x - c - y + 10000)] rfl rfl (World.news_of_block (heap_alloc_new wr _)) (fun u hu => by rw [List.mem_singleton] at hu; rw [hu]; rfl) (by decide) (by unfold maxLen; omega) (by omega) (by simp; have := HBL.out.size; omega) (wr.heap.size + 1) (by simp) ?_)
          intro g cap' w3 hown3 hgrow3 hat3 hlt3
          have HF := hide (HS.out _ _ hown3 hgrow3)
          clear hown3 hgrow3 hat3 hown HS
          go_wp2
          go_roundw
          case rel => exact ⟨k + 1, 1, _, by omega, by go_num, rfl, HF.out⟩
          case measure => simp [intOf]; omega
        · have ho1 := ho
          obtain ⟨bb, boff, bcur, bfz, rfl, -, hbc⟩ := HB'.out (by omega)
          have hcb := hbc k hb1
          rw [HYE.out] at hcb
          clear hbc
          have HS := hide (fun d' w3 ho hg => HST.out d' w3 (x - c - y) 0 (by omega) (by omega) (by decide) ho hg)
          clear HST HB' HY0 HXE HYE
          have hdd : decide (x - c - y < 0) = false := decide_eq_false (by omega)
          have hde : decide (x - c < y) = false := decide_eq_false (by omega)
          go_wp2_with (at_builtin; refine wpList_append_lies _ rfl _ _ 38 rfl w.heap.size 3 i0 (.int .i64 0) 1 8 Tryz.underlying38 hi hz0 hz1 hz2 rfl (by decide) u5 ds.length (ds.map (Value.int .i64)) rfl (hown.alloc _) ⟨wr.heap.size, 0, none⟩ 1 1 [.int .i64 (x - c - y)] rfl rfl (World.news_of_block (heap_alloc_new wr _)) (fun u hu => by rw [List.mem_singleton] at hu; rw [hu]; rfl) (by decide) (by unfold maxLen; omega) (by omega) (by simp; have := HBL.out.size; omega) (wr.heap.size + 1) (by simp) ?_)
          intro g cap' w3 hown3 hgrow3 hat3 hlt3
          have HF := hide (HS.out _ _ hown3 hgrow3)
          clear hown3 hgrow3 hat3 hown HS
          go_wp2
          go_roundw
          case rel => exact ⟨k + 1, 0, _, by omega, by go_num, rfl, HF.out⟩
          case measure => simp [intOf]; omega
      · by_cases ho : x - c < 0
        · have ho1 := ho
          obtain rfl : y = 0 := HY0.out (by omega)
          have HS := hide (fun d' w3 ho hg => HST.out d' w3 (x - c + 10000) 1 (by omega) (by omega) (by decide) ho hg)
          clear HST HB' HY0 HXE HYE
          have hdd : decide (x - c < 0) = true := decide_eq_true (by omega)
          have hde : decide (x < c) = true := decide_eq_true (by omega)
          go_wp2_with (at_builtin; refine wpList_append_lies _ rfl _ _ 38 rfl w.heap.size 3 i0 (.int .i64 0) 1 8 Tryz.underlying38 hi hz0 hz1 hz2 rfl (by decide) u5 ds.length (ds.map (Value.int .i64)) rfl (hown.alloc _) ⟨wr.heap.size, 0, none⟩ 1 1 [.int .i64 (x - c + 10000)] rfl rfl (World.news_of_block (heap_alloc_new wr _)) (fun u hu => by rw [List.mem_singleton] at hu; rw [hu]; rfl) (by decide) (by unfold maxLen; omega) (by omega) (by simp; have := HBL.out.size; omega) (wr.heap.size + 1) (by simp) ?_)
          intro g cap' w3 hown3 hgrow3 hat3 hlt3
          have HF := hide (HS.out _ _ hown3 hgrow3)
          clear hown3 hgrow3 hat3 hown HS
          go_wp2
          go_roundw
          case rel => exact ⟨k + 1, 1, _, by omega, by go_num, rfl, HF.out⟩
          case measure => simp [intOf]; omega
        · have ho1 := ho
          obtain rfl : y = 0 := HY0.out (by omega)
          have HS := hide (fun d' w3 ho hg => HST.out d' w3 (x - c) 0 (by omega) (by omega) (by decide) ho hg)
          clear HST HB' HY0 HXE HYE
          have hdd : decide (x - c < 0) = false := decide_eq_false (by omega)
          have hde : decide (x < c) = false := decide_eq_false (by omega)
          go_wp2_with (at_builtin; refine wpList_append_lies _ rfl _ _ 38 rfl w.heap.size 3 i0 (.int .i64 0) 1 8 Tryz.underlying38 hi hz0 hz1 hz2 rfl (by decide) u5 ds.length (ds.map (Value.int .i64)) rfl (hown.alloc _) ⟨wr.heap.size, 0, none⟩ 1 1 [.int .i64 (x - c)] rfl rfl (World.news_of_block (heap_alloc_new wr _)) (fun u hu => by rw [List.mem_singleton] at hu; rw [hu]; rfl) (by decide) (by unfold maxLen; omega) (by omega) (by simp; have := HBL.out.size; omega) (wr.heap.size + 1) (by simp) ?_)
          intro g cap' w3 hown3 hgrow3 hat3 hlt3
          have HF := hide (HS.out _ _ hown3 hgrow3)
          clear hown3 hgrow3 hat3 hown HS
          go_wp2
          go_roundw
          case rel => exact ⟨k + 1, 0, _, by omega, by go_num, rfl, HF.out⟩
          case measure => simp [intOf]; omega

theorem dcmp_lengths {a b : List Int} (ha : DB a) (hb : DB b) (na : Nrm a) (nb : Nrm b) (h : a.length ≠ b.length) : (if a.length < b.length then (-1 : Int) else 1) = cmpI (dv a) (dv b) := by
  by_cases h1 : a.length < b.length
  · rw [if_pos h1, cmpI_lt (dv_lt_of_length ha hb nb h1)]
  · rw [if_neg h1, cmpI_gt (dv_lt_of_length hb ha na (by omega))]

theorem dcmp_place {a b : List Int} (ha : DB a) (hb : DB b) (hl : a.length = b.length) {k : Nat} (hk : k < a.length) (hd : a.drop (k + 1) = b.drop (k + 1)) (hx : a.getD k 0 ≠ b.getD k 0) : cmpI (a.getD k 0) (b.getD k 0) = cmpI (dv a) (dv b) := by
  by_cases h1 : a.getD k 0 < b.getD k 0
  · rw [cmpI_lt h1, cmpI_lt (dv_lt_of_place ha hb hl hk hd h1)]
  · have h2 : b.getD k 0 < a.getD k 0 := by omega
    rw [cmpI_gt h2, cmpI_gt (dv_lt_of_place hb ha hl.symm (by omega) hd.symm h2)]

set_option maxRecDepth 100000 in
set_option maxHeartbeats 1600000 in
theorem cmpDigits_any (w : World) (va vb : Value) (a b : List Int) (ha : Dig w va a) (hb : Dig w vb b) (na : Nrm a) (nb : Nrm b) :
    Calls Tryz.prog 102 #[va, vb] w fun e w' => CmpPost w (cmpI (dv a) (dv b)) e w' := by
  obtain ⟨ao, acap, rfl, hacap, halen, hadb, hac⟩ := ha
  obtain ⟨bo, bcap, rfl, hbcap, hblen, hbdb, hbc⟩ := hb
  by_cases hl : a.length = b.length
  · have hne : ((a.length : Int) != (b.length : Int)) = false := by rw [bne_eq_false_iff_eq]; omega
    have HLL : Hid (a.length = b.length) := hl
    clear hl
    go_enter Tryz.func102, Tryz.ntmps102
    go_wp2
    go_loopw [5] (fun i wr => ∃ p nq : Nat, p ≤ a.length ∧ i = .int .i64 ((p : Int) - 1) ∧ wr = w.drewN nq ∧ Hid (a.drop p = b.drop p)) (fun i _ => (intOf i + 1).toNat)
    case atStart => exact ⟨a.length, 0, Nat.le_refl _, by go_num, by simp [World.drewN_zero], by show _ = _; rw [List.drop_length, HLL.out, List.drop_length]⟩
    case round =>
      obtain ⟨p, nq, hp, rfl, rfl, HD⟩ := hrel
      by_cases h0 : p = 0
      · subst h0
        have HK : Hid (cmpI (dv a) (dv b) = 0) := by
          have hd := HD.out
          rw [List.drop_zero, List.drop_zero] at hd
          show _ = _
          rw [hd]; exact cmpI_eq rfl
        go_wp2
        go_ret
        exact ⟨ret_i64 HK.out.symm, below_drewN (Below.refl _ _) _⟩
      · obtain ⟨k, rfl⟩ : ∃ k, p = k + 1 := ⟨p - 1, by omega⟩
        obtain ⟨ab, aoff, acur, afz, rfl, hab, hac⟩ := hac (by omega)
        obtain ⟨bb, boff, bcur, bfz, rfl, hbb, hbc⟩ := hbc (by have := HLL.out; omega)
        have hkb : k < b.length := by have := HLL.out; omega
        have hka : k < a.length := by omega
        have hca := hac k hka
        have hcb := hbc k hkb
        clear hac hbc hab hbb
        have HE : Hid (∀ h : a.getD k 0 = b.getD k 0, a.drop k = b.drop k) := fun h => drop_step HLL.out hka HD.out h
        have HN : Hid (∀ h : a.getD k 0 ≠ b.getD k 0, cmpI (a.getD k 0) (b.getD k 0) = cmpI (dv a) (dv b)) := fun h => dcmp_place hadb hbdb HLL.out hka HD.out h
        clear HD
        generalize a.getD k 0 = x at *
        generalize b.getD k 0 = y at *
        have hki : ((k + 1 : Nat) : Int) - 1 = (k : Int) := by omega
        rw [hki]
        by_cases hxy : x = y
        · subst hxy
          have HE' : Hid (a.drop k = b.drop k) := HE.out rfl
          clear HE HN
          go_wp2
          go_quiet (fail)
          go_wp2
          go_quiet (fail)
          go_wp2
          go_roundw
          case rel => exact ⟨k, _, by omega, by go_num, rfl, HE'⟩
          case measure => simp [intOf]
        · have HC := hide (HN.out hxy)
          clear HN HE
          by_cases hlt : x < y
          · have HR := hide (HC.out.symm.trans (cmpI_lt hlt))
            have hdx : decide (x < y) = true := decide_eq_true hlt
            clear HC hxy
            go_wp2
            go_quiet (fail)
            go_wp2
            go_ret
            exact ⟨ret_i64 HR.out.symm, below_drewN (below_drewN (Below.refl _ _) _) _⟩
          · have HR := hide (HC.out.symm.trans (cmpI_gt (show y < x by omega)))
            have hdx : decide (x < y) = false := decide_eq_false hlt
            have hdy : decide (y < x) = true := decide_eq_true (by omega)
            clear HC hxy
            go_wp2
            go_quiet (fail)
            go_wp2
            go_quiet (fail)
            go_wp2
            go_ret
            exact ⟨ret_i64 HR.out.symm, below_drewN (below_drewN (below_drewN (Below.refl _ _) _) _) _⟩
  · have HC : Hid _ := dcmp_lengths hadb hbdb na nb hl
    have hne : ((a.length : Int) != (b.length : Int)) = true := by rw [bne_iff_ne]; omega
    clear hac hbc
    by_cases hlt : a.length < b.length
    · rw [if_pos hlt] at HC
      have hd : decide ((a.length : Int) < (b.length : Int)) = true := decide_eq_true (by omega)
      go_enter Tryz.func102, Tryz.ntmps102
      go_wp2
      go_ret
      exact ⟨ret_i64 HC.out, Below.refl _ _⟩
    · rw [if_neg hlt] at HC
      have hd : decide ((a.length : Int) < (b.length : Int)) = false := decide_eq_false (by omega)
      go_enter Tryz.func102, Tryz.ntmps102
      go_wp2
      go_ret
      exact ⟨ret_i64 HC.out, Below.refl _ _⟩

end Go.Proofs.YtdedolkgcdlmeaaGreatDoor
