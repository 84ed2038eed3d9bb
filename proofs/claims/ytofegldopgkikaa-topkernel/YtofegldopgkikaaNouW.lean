/- mat.traced: of each place a row, and its unit behind it. -/
import Derived.Test.YtofegldopgkikaaTurnW
import Derived.Test.YtofegldopgkikaaOfN
import Derived.Test.YtofegldopgkikaaKerL
import Derived.Test.YtofegldopgkikaaBehL

namespace Go.Proofs.Ytofegldopgkikaa
open Go.RowKit Limbs

theorem ncells_len (qs : List (Nm × Int)) : (qs.flatMap ncells).length = qs.length * 2 := by
  induction qs with
  | nil => rfl
  | cons p qs ih => rw [List.flatMap_cons, List.length_append, ih, List.length_cons]; simp [ncells]; omega

theorem ncells_one (qs : List (Nm × Int)) (u : Value) (hu : u ∈ qs.flatMap ncells) : u.oneCell' = true := by
  obtain ⟨p, -, h⟩ := List.mem_flatMap.1 hu
  simp only [ncells, List.mem_cons, List.mem_nil_iff, or_false] at h
  rcases h with rfl | rfl <;> rfl

/-- A vector's numbers, with their limbs. -/
theorem VecN.rows {W : World} {P : Nat} {zs : List Int} {n : Nat} (h : VecN W (.slice (some ⟨P, 0, none⟩) zs.length zs.length) zs n) :
    ∃ qs : List (Nm × Int), qs.map (·.2) = zs ∧ (∀ j u, (qs.flatMap ncells)[j]? = some u → W.cell? ((⟨P, 0, none⟩ : Addr).add j) = some u) ∧ ∀ p ∈ qs, NumL W p.1.val p.2 n ∧ ∀ {w : World}, NewV w W P zs.length → NewSl w p.1.sl := by
  have key : ∀ i, i < zs.length → ∃ r : Nm, W.cell? ⟨P, i * 2, none⟩ = some (.bool r.neg) ∧ W.cell? ⟨P, i * 2 + 1, none⟩ = some (.slice r.o r.l r.c) ∧ NumL W r.val (zs.getD i 0) n := fun i hi => by
    obtain ⟨-, neg, o, l, c, h1, h2, h3⟩ := h.at i hi
    rw [Nat.zero_add] at h1 h2
    exact ⟨⟨neg, o, l, c⟩, h1, h2, h3⟩
  let f : Nat → Nm := fun i => if hi : i < zs.length then Classical.choose (key i hi) else ⟨false, none, 0, 0⟩
  have hf : ∀ i, i < zs.length → W.cell? ⟨P, i * 2, none⟩ = some (.bool (f i).neg) ∧ W.cell? ⟨P, i * 2 + 1, none⟩ = some (.slice (f i).o (f i).l (f i).c) ∧ NumL W (f i).val (zs.getD i 0) n := fun i hi => by
    have := Classical.choose_spec (key i hi)
    simpa only [f, dif_pos hi] using this
  let qs : List (Nm × Int) := (List.range zs.length).map fun i => (f i, zs.getD i 0)
  have hl : qs.length = zs.length := by simp [qs]
  have hq : ∀ i (hi : i < qs.length), qs[i] = (f i, zs.getD i 0) := fun i hi => by simp [qs]
  refine ⟨qs, ?_, fun j u hj => ?_, fun p hp => ?_⟩
  · apply List.ext_getElem (by rw [List.length_map, hl])
    intro i h1 h2
    rw [List.getElem_map, hq i (by omega), List.getD_eq_getElem?_getD, List.getElem?_eq_getElem h2]; rfl
  · have hjl : j < (qs.flatMap ncells).length := (List.getElem?_eq_some_iff.1 hj).1
    rw [ncells_len, hl] at hjl
    have ea : (⟨P, 0, none⟩ : Addr).add j = ⟨P, j, none⟩ := by unfold Addr.add; split <;> simp_all
    rw [ea]
    obtain ⟨e1, e2⟩ := ncells_at qs (j / 2) (by omega)
    rw [hq _ (by omega)] at e1 e2
    obtain ⟨c1, c2, -⟩ := hf (j / 2) (by omega)
    rcases (by omega : j = j / 2 * 2 ∨ j = j / 2 * 2 + 1) with e | e
    · rw [← e] at e1 c1
      rw [hj] at e1
      rw [c1, e1]
    · rw [← e] at e2 c2
      rw [hj] at e2
      rw [c2, e2]
  · obtain ⟨i, hi, rfl⟩ := List.getElem_of_mem hp
    rw [hq i hi]
    obtain ⟨c1, c2, c3⟩ := hf i (by omega)
    exact ⟨c3, fun hn => hn i (by omega) _ _ _ c2⟩

theorem Try.infoInt9 : (Try.prog.info? 3).map (fun i => (i.zero, i.size, i.bytes)) = some (some (.int .i64 0), 1, 8) := by kernel_rfl

theorem run_mkInts (m : Nat) (hm : m ≤ 1000) (W : World) : (Instr.makeSlice 31 (.int .i64 (m : Int)) (.int .i64 (m : Int))).run Try.prog W = .ok (.slice (some ⟨W.heap.size, 0, none⟩) m m) (W.alloc (.cells (madeCells #[.int .i64 0] m) 3)) := by
  obtain ⟨i0, hi, hz0, hz1, hz2⟩ := info_parts Try.infoInt9
  have h := run_make (P := Try.prog) W 31 3 i0 (.int .i64 0) Try.underlying31 hi hz0 .i64 .i64 m m (by omega) (by omega) (by rw [hz2]; omega) (by omega)
  rw [hz1, Int.toNat_natCast, Nat.mul_one] at h
  exact h

theorem unit_cells (n k : Nat) (hk : k < n) (j : Nat) (hj : j < n) : ((madeCells #[.int .i64 0] n).setIfInBounds k (.int .i64 1))[j]? = some (.int .i64 ((unitL n k).getD j 0)) := by
  rw [unitL_get n k j hj]
  by_cases e : j = k
  · subst e
    rw [if_pos rfl, Array.getElem?_setIfInBounds_self_of_lt (by simp [madeCells, hk])]
  · rw [if_neg e, Array.getElem?_setIfInBounds_ne (by omega)]
    simp [madeCells, hj, Nat.mod_one]

set_option linter.unusedSimpArgs false in
set_option maxRecDepth 100000 in
set_option maxHeartbeats 4000000 in
theorem traced_any (w : World) (va : Value) (n nv : Nat) (hs : List (List Int)) (ha : MatN w va hs nv) (hl : ∀ r ∈ hs, r.length = n) (hn1 : 1 ≤ n) (hn : n ≤ 100) (hm : hs.length ≤ 100) (h2 : 2 ≤ nv) :
    Calls Try.prog 18 #[va, .int .i64 (n : Int)] w fun e w' => ∃ u, e = .returned u ∧ MatN w' u (tracedL hs n) nv ∧ Below w.heap.size w w' := by
  obtain ⟨i0, hi, hz0, hz1, hz2⟩ := info_parts Try.infoNum
  have HT := hide (turned_any w va n nv hs ha hl hn hm)
  obtain ⟨ao, acap, rfl, -, -⟩ := ha
  clear hl
  have hmk := run_mkInts n (by omega)
  go_enter Try.func18, Try.ntmps18
  go_wp2_with fail
  refine HT.out.mono ?_
  rintro e w1 ⟨O, vs, ps, rfl, ho, hp⟩
  have HO0 := hide ho; have HP0 : Hid (∀ i, i < n → (ps i).map (·.2) = if i < 0 then colL hs i ++ unitL n i else colL hs i) := fun i hi => by rw [if_neg (Nat.not_lt_zero i)]; exact hp i hi
  clear ho hp HT
  go_wp2
  go_loopw [12] (fun x wr => ∃ (k : Nat) (vs : Nat → Value) (ps : Nat → List (Nm × Int)), k ≤ n ∧ x = .int .i64 k ∧ Hid (OutG w wr O n vs ps nv) ∧ Hid (∀ i, i < n → (ps i).map (·.2) = if i < k then colL hs i ++ unitL n i else colL hs i)) (fun x _ => n - (intOf x).toNat)
  case atStart => exact ⟨0, _, _, Nat.zero_le _, rfl, HO0, HP0⟩
  case round =>
    clear HO0 HP0 vs ps
    obtain ⟨k, vs, ps, hk, rfl, HOr, HD⟩ := hrel
    by_cases hkl : k < n
    · have hbu : Below wr.heap.size wr (wr.alloc (.cells ((madeCells #[.int .i64 0] n).setIfInBounds k (.int .i64 1)) 3)) := (Below.refl _ _).alloc (Nat.le_refl _) _
      have hun : k < (madeCells #[Value.int .i64 0] n).size := by simp [madeCells, hkl]
      have HO := hide (HOr.out.later hbu)
      have HUS0 : Hid (RowS (wr.alloc (.cells ((madeCells #[.int .i64 0] n).setIfInBounds k (.int .i64 1)) 3)) (.slice (some ⟨wr.heap.size, 0, none⟩) n n) (unitL n k)) := by
        refine ⟨_, _, by rw [unitL_len], by rw [unitL_len]; exact Nat.le_refl _, fun i => ?_, fun _ => ⟨_, _, rfl, by simp, fun i hi => ?_⟩⟩
        · by_cases h : i < n
          · rw [unitL_get n k i h]; split <;> decide
          · rw [List.getD_eq_getElem?_getD, List.getElem?_eq_none (by rw [unitL_len]; omega)]; decide
        · rw [unitL_len] at hi
          rw [Nat.zero_add, World.cell?_alloc_new]
          exact unit_cells n k hkl i hi
      clear hbu HOr
      go_wp2_with fail
      generalize hWX : wr.alloc (.cells ((madeCells #[.int .i64 0] n).setIfInBounds k (.int .i64 1)) 3) = wx at *
      have HUS := hide (HUS0.out.below (Below.refl wx.heap.size wx).drew (Nat.le_refl _))
      clear hWX HUS0
      have c5 := HO.out.cell k hkl
      obtain ⟨vo, vl, vc, hvk⟩ : ∃ vo vl vc, vs k = .slice vo vl vc := by
        rcases (HO.out.grow k hkl).1.2 with ⟨e1, -⟩ | ⟨g', cap', cur, e1, -⟩
        · exact ⟨_, _, _, e1⟩
        · exact ⟨_, _, _, e1⟩
      rw [hvk] at c5
      have hOlt := HO.out.lt
      have HVK := hide hvk
      have HPL : Hid ((ps k).length = hs.length) := by
        have h1 := congrArg List.length (HD.out k hkl)
        rw [if_neg (Nat.lt_irrefl _)] at h1
        unfold colL at h1
        rw [List.length_map, List.length_map] at h1
        exact h1
      have HON := hide (HO.out.own_ne hkl)
      clear hvk hun
      refine upto_start (S := (fun w' => w'.cell? ⟨O, k, none⟩ = some (.slice vo vl vc))) (k := 10) (by kernel_rfl) (by exact c5) (fun hHeld => ?_)
      refine upto_run (v := ?_) 0 20 [10] rfl rfl (by kernel_rfl) (by kernel_rfl) (by kernel_rfl) (by kernel_rfl) (by kernel_rfl) (fun _ _ _ h => h) (by rfl) ?_ (by assumption) ?_
      rotate_left
      · (intro w hSw; (try dsimp only at hSw); go_simp; with_reducible rfl)
      simp only [Act.put, List.setIfInBounds_toArray, List.set_cons_zero, List.set_cons_succ]
      refine upto_run (v := ?_) 1 21 [10] rfl rfl (by kernel_rfl) (by kernel_rfl) (by kernel_rfl) (by kernel_rfl) (by kernel_rfl) (fun _ _ _ h => h) (by rfl) ?_ (by assumption) ?_
      rotate_left
      · (intro w hSw; (try dsimp only at hSw); go_simp; with_reducible rfl)
      simp only [Act.put, List.setIfInBounds_toArray, List.set_cons_zero, List.set_cons_succ]
      refine upto_run (v := ?_) 2 22 [10] rfl rfl (by kernel_rfl) (by kernel_rfl) (by kernel_rfl) (by kernel_rfl) (by kernel_rfl) (fun _ _ _ h => h) (by rfl) ?_ (by assumption) ?_
      rotate_left
      · (intro w hSw; (try dsimp only at hSw); go_simp; with_reducible rfl)
      simp only [Act.put, List.setIfInBounds_toArray, List.set_cons_zero, List.set_cons_succ]
      refine upto_run (v := ?_) 3 23 [10] rfl rfl (by kernel_rfl) (by kernel_rfl) (by kernel_rfl) (by kernel_rfl) (by kernel_rfl) (fun _ _ _ h => h) (by rfl) ?_ (by assumption) ?_
      rotate_left
      · (intro w hSw; (try dsimp only at hSw); go_simp; with_reducible rfl)
      simp only [Act.put, List.setIfInBounds_toArray, List.set_cons_zero, List.set_cons_succ]
      refine upto_run (v := ?_) 4 24 [10] rfl rfl (by kernel_rfl) (by kernel_rfl) (by kernel_rfl) (by kernel_rfl) (by kernel_rfl) (fun _ _ _ h => h) (by rfl) ?_ (by assumption) ?_
      rotate_left
      · (intro w hSw; (try dsimp only at hSw); go_simp; with_reducible rfl)
      simp only [Act.put, List.setIfInBounds_toArray, List.set_cons_zero, List.set_cons_succ]
      refine upto_run (v := ?_) 5 25 [10] rfl rfl (by kernel_rfl) (by kernel_rfl) (by kernel_rfl) (by kernel_rfl) (by kernel_rfl) (fun _ _ _ h => h) (by rfl) ?_ (by assumption) ?_
      rotate_left
      · (intro w hSw; (try dsimp only at hSw); go_simp; with_reducible rfl)
      simp only [Act.put, List.setIfInBounds_toArray, List.set_cons_zero, List.set_cons_succ]
      refine upto_run (v := ?_) 6 26 [10] rfl rfl (by kernel_rfl) (by kernel_rfl) (by kernel_rfl) (by kernel_rfl) (by kernel_rfl) (fun _ _ _ h => h) (by rfl) ?_ (by assumption) ?_
      rotate_left
      · (intro w hSw; (try dsimp only at hSw); go_simp; with_reducible rfl)
      simp only [Act.put, List.setIfInBounds_toArray, List.set_cons_zero, List.set_cons_succ]
      refine upto_one 7 (by kernel_rfl) rfl (fun K hK => ?_)
      go_simp
      refine (ofV_new _ _ (unitL n k) (by exact HUS.out) (by rw [unitL_len]; omega)).mono ?_
      rintro e w2 ⟨P, rfl, hv2, hn2⟩
      have HV2 := hide hv2; have HN2 := hide hn2
      have hb2 : Below wx.heap.size wx w2 := ((Below.refl _ _).drew).trans hv2.below
      have HOA := hide (HO.out.later hb2)
      have d5 := (hb2.cell (p := ⟨O, k, none⟩) hOlt).trans c5
      have hus := HO.out.low.size
      have hx2 := hb2.size
      rw [unitL_len] at *
      clear hv2 hn2 hb2
      go_wp2_with fail
      refine hK.out _ _ (fun _ => d5) ?_
      clear hK K
      try simp only [Act.put, List.setIfInBounds_toArray, List.set_cons_zero, List.set_cons_succ]
      obtain ⟨qs, hqz, hqc, hqn⟩ := HV2.out.vec.rows
      have HQC := hide hqc; have HQN := hide hqn; have HQZ := hide hqz
      have hql : qs.length = n := by have := congrArg List.length hqz; rw [List.length_map, unitL_len] at this; exact this
      clear hqc hqn hqz
      refine upto_one 8 (by kernel_rfl) rfl (fun K hK => ?_)
      refine step_append_lies _ rfl (.tmp 25) (.tmp 27) 29 rfl w.heap.size 36 i0 (.agg #[.bool false, .slice none 0 0]) 2 32 (by kernel_rfl) hi hz0 hz1 hz2 rfl (by decide) (.slice vo vl vc) (ps k).length ((ps k).flatMap ncells) rfl (by have := (HOA.out.grow k hkl).1; rw [HVK.out] at this; exact this) ⟨P, 0, none⟩ n n (qs.flatMap ncells) rfl (by rw [ncells_len, hql]) HQC.out (fun u hu => ncells_one qs u hu) (by omega) (by unfold maxLen; have := HPL.out; omega) (by have := HPL.out; omega) (by omega) w2.heap.size (by first | rfl | simp) ?_
      intro g5 cap5 w5 hown5 hgrow5 hat5 hlt5
      have HO5 := hide hown5; have HG5 := hide hgrow5; have HA5 := hide hat5
      clear hown5 hgrow5 hat5 hlt5
      have e5 := HG5.out.cell d5 (by rw [← HVK.out]; exact HON.out)
      refine hK.out _ _ (fun _ => e5) ?_
      clear hK K
      simp only [Act.put, List.setIfInBounds_toArray, List.set_cons_zero, List.set_cons_succ]
      have hHeld5 : (fun w' => w'.cell? ⟨O, k, none⟩ = some (.slice vo vl vc)) w5 := e5
      clear hHeld
      refine upto_run (v := ?_) 9 29 [10] rfl rfl (by kernel_rfl) (by kernel_rfl) (by kernel_rfl) (by kernel_rfl) (by kernel_rfl) (fun _ _ _ h => h) (by rfl) ?_ (by assumption) ?_
      rotate_left
      · (intro w hSw; (try dsimp only at hSw); go_simp; with_reducible rfl)
      simp only [Act.put, List.setIfInBounds_toArray, List.set_cons_zero, List.set_cons_succ]
      have HP := hide (HOA.out.push hkl qs (fun p hp => (HQN.out p hp).1.mono h2) (fun i hi p hp a l c e h0 hb => by
        have h1 := (HQN.out p hp).2 (by rw [unitL_len]; exact HN2.out) a l c e
        have h2 := own_lt (HO.out.grow i hi) hb.symm
        have h3 : wx.heap.size ≤ a.block := h1
        omega) (L := (ps k).length + n) (by rw [hql]) HO5.out (by rw [HVK.out]; exact HG5.out) (by rw [HVK.out]; exact HA5.out.imp id fun h => by rw [h]; exact Nat.le_refl _))
      have ef : w5.frozen? ⟨O, k, none⟩ = false := by
        have h1 := HOA.out.thaw k
        rw [World.frozen?_of_block (a := ⟨O, k, none⟩) (HG5.out.block O HOA.out.lt (by rw [← HVK.out]; exact HON.out))]
        exact h1
      refine upto_one 10 (by kernel_rfl) rfl (fun K hK => ?_)
      go_simp
      refine hK.out _ _ (fun h => absurd h (by decide)) ?_
      clear hK K
      try simp only [Act.put, List.setIfInBounds_toArray, List.set_cons_zero, List.set_cons_succ]
      refine upto_done (by kernel_rfl) ?_
      have HD' : Hid (∀ i, i < n → (updN ps k (ps k ++ qs) i).map (·.2) = if i < k + 1 then colL hs i ++ unitL n i else colL hs i) := fun i hi => by
        by_cases e : i = k
        · rw [e, updN_self, List.map_append, HD.out k hkl, if_neg (Nat.lt_irrefl _), HQZ.out, if_pos (by omega)]
        · rw [updN_ne _ _ _ e, HD.out i hi]
          by_cases h : i < k
          · rw [if_pos h, if_pos (by omega)]
          · rw [if_neg h, if_neg (by omega)]
      clear c5 d5 e5 ef HO5 HG5 HA5 HOA HO HD hHeld5 HV2 HN2 HQC HQN HQZ HUS
      go_wp2
      go_roundw
      case rel => exact ⟨k + 1, _, _, by omega, by go_num, HP, HD'⟩
      case measure => simp [intOf]; omega
    · obtain rfl : k = n := by omega
      have HF := hide (HOr.out.mat (tracedL hs k) (tracedL_length hs k) (fun i hi => by rw [HD.out i hi, if_pos hi, tracedL_get hs k i hi]; rfl))
      have HB := hide HOr.out.low
      clear HOr HD
      go_wp2
      go_ret
      exact ⟨_, rfl, HF.out, HB.out⟩

end Go.Proofs.Ytofegldopgkikaa

/- mat.noughts: of rows those that are nought in the first places, without these. -/
namespace Go.Proofs.Ytofegldopgkikaa
open Go.RowKit Limbs

set_option linter.unusedSimpArgs false in
set_option maxRecDepth 100000 in
set_option maxHeartbeats 4000000 in
theorem noughts_any (w : World) (va : Value) (f n nv : Nat) (ts : List (List Int)) (ha : MatN w va ts nv) (hl : ∀ r ∈ ts, r.length = f + n) (h1 : 1 ≤ n) (h4 : f + n ≤ 100) (hm : ts.length ≤ 100) :
    Calls Try.prog 17 #[va, .int .i64 (f : Int)] w fun e w' => ∃ u, e = .returned u ∧ MatN w' u (behindL f ts) nv ∧ Below w.heap.size w w' := by
  obtain ⟨j0, hj, hy0, hy1, hy2⟩ := info_parts Try.infoVec
  have HA := hide ha; have HL := hide hl
  obtain ⟨ao, acap, rfl, -, -⟩ := ha
  clear hl
  go_enter Try.func17, Try.ntmps17
  go_wp2
  go_loopw [5, 9] (fun out i wr => ∃ (k : Nat) (qs : List (Value × List Int)), k ≤ ts.length ∧ i = .int .i64 k ∧ Hid (GrowV wr w.heap.size out qs nv) ∧ Hid (qs.map (·.2) = behindL f (ts.take k)) ∧ Hid (Below w.heap.size w wr)) (fun _ i _ => ts.length - (intOf i).toNat)
  case atStart => exact ⟨0, [], Nat.zero_le _, rfl, hide (GrowV.nil _ _ _), hide (by simp [behindL]), hide (Below.refl _ _)⟩
  case round =>
    obtain ⟨k, qs, hk, rfl, HGV, HQ, HBE⟩ := hrel
    have HQL : Hid (qs.length ≤ 100) := by
      have h1 := congrArg List.length HQ.out
      have h2 := behindL_short f ts k
      rw [List.length_map] at h1
      show qs.length ≤ 100
      omega
    by_cases hkl : k < ts.length
    · obtain ⟨rb, roff, _, e, lr, ru, cu, hru⟩ := HA.out.at k hkl
      simp only [Value.slice.injEq, true_and] at e
      obtain ⟨rfl, rfl⟩ := e
      have HLU : Hid (ts[k].length = f + n) := HL.out _ (List.getElem_mem hkl)
      have HSU := hide (behindL_succ f ts k hkl)
      generalize ts[k] = us at *
      obtain ⟨vb, voff, vcap, rfl⟩ := hru.form (by have := HLU.out; omega)
      have hcap : f + n ≤ vcap := by
        obtain ⟨_, _, e, h1, -⟩ := hru
        simp only [Value.slice.injEq, true_and] at e
        have := HLU.out
        omega
      have HU := hide (hru.below HBE.out (Nat.le_refl _))
      have HD := hide (HU.out.drop (n := f) (m := n) HLU.out.symm (by omega))
      rw [HLU.out] at cu
      have c1 := (HBE.out.cell (p := ⟨rb, roff + k, none⟩) lr).trans cu
      clear hru cu
      go_wp2_with fail
      refine (firstV_any wr _ us nv (by have := HU.out; rw [HLU.out] at this; exact this) (by have := HLU.out; omega)).mono ?_
      rintro e w1 ⟨rfl, hb1⟩
      have HB1 := hide (HBE.out.trans (hb1.mono HBE.out.size))
      have HG1 := hide (HGV.out.later hb1)
      have HD1 := hide (HD.out.below hb1 (Nat.le_refl _))
      have c2 := (hb1.cell (p := ⟨rb, roff + k, none⟩) (Nat.lt_of_lt_of_le lr HBE.out.size)).trans c1
      clear hb1 HGV HD HU c1
      by_cases hf : (f : Int) ≤ first us
      · have g1 : decide ((f : Int) ≤ first us) = true := decide_eq_true hf
        have HQ' : Hid ((qs ++ [((.slice (some ⟨vb, voff + f * 2, none⟩) n (vcap - f) : Value), us.drop f)]).map (·.2) = behindL f (ts.take (k + 1))) := by
          show _ = _
          rw [List.map_append, HQ.out, HSU.out, if_pos hf]; rfl
        have hown := HG1.out.own
        have hall := HG1.out.all.later ((Below.refl _ _).alloc (Nat.le_refl _) (.cells #[.slice (some ⟨vb, voff + f * 2, none⟩) n (vcap - f)] 29))
        have hbs := HB1.out.size
        have g2 : ¬ (f : Int) < 0 := by omega
        clear hf
        go_wp2_with (at_builtin; refine wpList_append_sl rfl _ _ 23 rfl w.heap.size 29 j0 24 (by kernel_rfl) hj hy0 hy1 hy2 u5 qs.length (qs.map (·.1)) rfl (hown.alloc _) hall ⟨w1.heap.size, 0, none⟩ 1 (some ⟨vb, voff + f * 2, none⟩) n (vcap - f) rfl (World.news_of_block (heap_alloc_new w1 _)) (by unfold maxLen; have := HQL.out; omega) (by have := HQL.out; omega) (by simp; omega) ?_)
        intro g cap' w5 hown5 hgrow5 hall5
        have HG5 := hide (growV_snoc (HG1.out.later ((Below.refl _ _).alloc (Nat.le_refl _) _)) (HD1.out.below ((Below.refl _ _).alloc (Nat.le_refl _) _) (Nat.le_refl _)) hown5 hgrow5 hall5)
        have HB5 := hide ((HB1.out.alloc HB1.out.size _).trans (grownV_below (HG1.out.later ((Below.refl _ _).alloc (Nat.le_refl _) _)) (by simp; omega) hgrow5))
        clear hown hall hown5 hgrow5 hall5 HG1 HD1 HB1 c2
        go_wp2
        go_roundw
        case rel => exact ⟨k + 1, _, by omega, by go_num, HG5, HQ', HB5⟩
        case measure => simp [intOf]; omega
      · have g1 : decide ((f : Int) ≤ first us) = false := decide_eq_false hf
        have HQ' : Hid (qs.map (·.2) = behindL f (ts.take (k + 1))) := by
          show _ = _
          rw [HQ.out, HSU.out, if_neg hf, List.append_nil]
        clear hf
        go_wp2
        go_roundw
        case rel => exact ⟨k + 1, _, by omega, by go_num, HG1, HQ', HB1⟩
        case measure => simp [intOf]; omega
    · obtain rfl : k = ts.length := by omega
      have HF : Hid (MatN wr u5 (behindL f ts) nv) := by
        have := HGV.out.mat
        rw [HQ.out, List.take_length] at this
        exact this
      clear HGV HQ
      go_wp2
      go_ret
      exact ⟨_, rfl, HF.out, HBE.out⟩

end Go.Proofs.Ytofegldopgkikaa
