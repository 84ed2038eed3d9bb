/- lattice.behind: of rows those that are nought in the first places, without these. -/
import Derived.Test.YtdedolkgcdlmeaaGreatDoorLatS
import Derived.Test.YtdedolkgcdlmeaaGreatDoorBehL
namespace Go.Proofs.YtdedolkgcdlmeaaGreatDoor
open Go.RowKit Limbs

set_option linter.unusedSimpArgs false in
set_option maxRecDepth 100000 in
set_option maxHeartbeats 4000000 in
theorem behind_any (w : World) (va : Value) (n nv : Nat) (ts : List (List Int)) (ha : MatN w va ts nv) (hl : ∀ r ∈ ts, r.length = n + n) (h1 : 1 ≤ n) (h4 : n ≤ 4) (hm : ts.length ≤ 100) :
    Calls Tryz.prog 83 #[va, .int .i64 (n : Int)] w fun e w' => ∃ u, e = .returned u ∧ MatN w' u (behindL n ts) nv ∧ Below w.heap.size w w' := by
  obtain ⟨j0, hj, hy0, hy1, hy2⟩ := info_parts Tryz.infoVec
  have HA := hide ha; have HL := hide hl
  obtain ⟨ao, acap, rfl, -, -⟩ := ha
  clear hl
  go_enter Tryz.func83, Tryz.ntmps83
  go_wp2
  go_loopw [5, 9] (fun out i wr => ∃ (k : Nat) (qs : List (Value × List Int)), k ≤ ts.length ∧ i = .int .i64 k ∧ Hid (GrowV wr w.heap.size out qs nv) ∧ Hid (qs.map (·.2) = behindL n (ts.take k)) ∧ Hid (Below w.heap.size w wr)) (fun _ i _ => ts.length - (intOf i).toNat)
  case atStart => exact ⟨0, [], Nat.zero_le _, rfl, hide (GrowV.nil _ _ _), hide (by simp [behindL]), hide (Below.refl _ _)⟩
  case round =>
    obtain ⟨k, qs, hk, rfl, HGV, HQ, HBE⟩ := hrel
    have HQL : Hid (qs.length ≤ 100) := by
      have h1 := congrArg List.length HQ.out
      have h2 := behindL_short n ts k
      rw [List.length_map] at h1
      show qs.length ≤ 100
      omega
    by_cases hkl : k < ts.length
    · obtain ⟨rb, roff, _, e, lr, ru, cu, hru⟩ := HA.out.at k hkl
      simp only [Value.slice.injEq, true_and] at e
      obtain ⟨rfl, rfl⟩ := e
      have HLU : Hid (ts[k].length = n + n) := HL.out _ (List.getElem_mem hkl)
      have HSU := hide (behindL_succ n ts k hkl)
      generalize ts[k] = us at *
      obtain ⟨vb, voff, vcap, rfl⟩ := hru.form (by have := HLU.out; omega)
      have hcap : n + n ≤ vcap := by
        obtain ⟨_, _, e, h1, -⟩ := hru
        simp only [Value.slice.injEq, true_and] at e
        have := HLU.out
        omega
      have HU := hide (hru.below HBE.out (Nat.le_refl _))
      have HD := hide (HU.out.drop (n := n) (m := n) HLU.out.symm (by omega))
      rw [HLU.out] at cu
      have c1 := (HBE.out.cell (p := ⟨rb, roff + k, none⟩) lr).trans cu
      clear hru cu
      go_wp2_with fail
      refine (firstV_any wr _ us nv (by have := HU.out; rw [HLU.out] at this; exact this) (by have := HLU.out; omega)).mono ?_
      rintro e w1 ⟨rfl, hb1⟩
      have HB1 := hide (HBE.out.trans (hb1.mono HBE.out.size))
      have HG1 := hide (HGV.out.later hb1)
      have HD1 := hide (HD.out.below hb1 (Nat.le_refl _))
      have c2 := (hb1.cell (p := ⟨rb, roff + k, none⟩) (Nat.lt_of_lt_of_le lr HBE.out.size)).trans c1
      clear hb1 HGV HD HU c1
      by_cases hf : (n : Int) ≤ first us
      · have g1 : decide ((n : Int) ≤ first us) = true := decide_eq_true hf
        have HQ' : Hid ((qs ++ [((.slice (some ⟨vb, voff + n * 2, none⟩) n (vcap - n) : Value), us.drop n)]).map (·.2) = behindL n (ts.take (k + 1))) := by
          show _ = _
          rw [List.map_append, HQ.out, HSU.out, if_pos hf]; rfl
        have hown := HG1.out.own
        have hall := HG1.out.all.later ((Below.refl _ _).alloc (Nat.le_refl _) (.cells #[.slice (some ⟨vb, voff + n * 2, none⟩) n (vcap - n)] 72))
        have hbs := HB1.out.size
        have g2 : ¬ (n : Int) < 0 := by omega
        clear hf
        go_wp2_with (at_builtin; refine wpList_append_sl rfl _ _ 23 rfl w.heap.size 72 j0 24 (by kernel_rfl) hj hy0 hy1 hy2 u5 qs.length (qs.map (·.1)) rfl (hown.alloc _) hall ⟨w1.heap.size, 0, none⟩ 1 (some ⟨vb, voff + n * 2, none⟩) n (vcap - n) rfl (World.news_of_block (heap_alloc_new w1 _)) (by unfold maxLen; have := HQL.out; omega) (by have := HQL.out; omega) (by simp; omega) ?_)
        intro g cap' w5 hown5 hgrow5 hall5
        have HG5 := hide (growV_snoc (HG1.out.later ((Below.refl _ _).alloc (Nat.le_refl _) _)) (HD1.out.below ((Below.refl _ _).alloc (Nat.le_refl _) _) (Nat.le_refl _)) hown5 hgrow5 hall5)
        have HB5 := hide ((HB1.out.alloc HB1.out.size _).trans (grownV_below (HG1.out.later ((Below.refl _ _).alloc (Nat.le_refl _) _)) (by simp; omega) hgrow5))
        clear hown hall hown5 hgrow5 hall5 HG1 HD1 HB1 c2
        go_wp2
        go_roundw
        case rel => exact ⟨k + 1, _, by omega, by go_num, HG5, HQ', HB5⟩
        case measure => simp [intOf]; omega
      · have g1 : decide ((n : Int) ≤ first us) = false := decide_eq_false hf
        have HQ' : Hid (qs.map (·.2) = behindL n (ts.take (k + 1))) := by
          show _ = _
          rw [HQ.out, HSU.out, if_neg hf, List.append_nil]
        clear hf
        go_wp2
        go_roundw
        case rel => exact ⟨k + 1, _, by omega, by go_num, HG1, HQ', HB1⟩
        case measure => simp [intOf]; omega
    · obtain rfl : k = ts.length := by omega
      have HF : Hid (MatN wr u5 (behindL n ts) nv) := by
        have := HGV.out.mat
        rw [HQ.out, List.take_length] at this
        exact this
      clear HGV HQ
      go_wp2
      go_ret
      exact ⟨_, rfl, HF.out, HBE.out⟩

end Go.Proofs.YtdedolkgcdlmeaaGreatDoor
