/- Are the rows of a lattice in the one form? Those that are. -/
import Derived.Test.YtdedolkgcdlmeaaGreatDoorLatA
namespace Go.Proofs.YtdedolkgcdlmeaaGreatDoor
open Go.RowKit Limbs

set_option maxRecDepth 100000 in
set_option maxHeartbeats 1600000 in
theorem latForm_yes (w : World) (v : Value) (hs : List (List Int)) (n nv : Nat) (p : Nat → Nat) (hv : MatN w v hs nv) (hF : FormL n hs p) (hn : n ≤ 1000) (hl : hs.length ≤ 1000) :
    Calls Tryz.prog 75 #[v] w fun e w' => e = .returned (.bool true) ∧ Below w.heap.size w w' := by
  have HV := hide hv; have HF := hide hF
  obtain ⟨ao, cap, rfl, -, -⟩ := hv
  clear hF
  go_enter Tryz.func75, Tryz.ntmps75
  go_wp2
  go_loopw [3, 8] (fun last i wr => ∃ k : Nat, k ≤ hs.length ∧ i = .int .i64 k ∧ last = .int .i64 (lastP p k) ∧ Hid (Below w.heap.size w wr)) (fun _ i _ => hs.length - (intOf i).toNat)
  case atStart => exact ⟨0, Nat.zero_le _, rfl, rfl, hide (Below.refl _ _)⟩
  case round =>
    obtain ⟨k, hk, rfl, rfl, HBE⟩ := hrel
    by_cases hkl : k < hs.length
    · have hmat := HV.out.below HBE.out (Nat.le_refl _)
      obtain ⟨b, off, _, e, hlt, u, cu, hu⟩ := hmat.at k hkl
      simp only [Value.slice.injEq, true_and] at e
      obtain ⟨rfl, rfl⟩ := e
      have HM := hide hmat
      have hcap : hs.length ≤ cap := by
        obtain ⟨_, _, e, h1, -⟩ := hmat
        simp only [Value.slice.injEq, true_and] at e
        rw [e.2]; exact h1
      clear hmat
      obtain ⟨f1, f2, f3⟩ := HF.out.first hkl
      have hlen := HF.out.len _ (List.getElem_mem hkl)
      have hlast := HF.out.last hkl
      have hrg := lastP_range HF.out (Nat.le_of_lt hkl)
      have HNX : Hid (lastP p (k + 1) = (p k : Int)) := by show _ = _; unfold lastP; rw [if_neg (by omega), Nat.add_sub_cancel]
      obtain ⟨rb, roff, rcap, rfl⟩ := hu.form (by omega)
      have HU := hide hu
      have HALL : Hid (∀ i (h : i < (hs.take k).length), p k < (hs.take k)[i].length ∧ 0 ≤ (hs.take k)[i].getD (p k) 0 ∧ (hs.take k)[i].getD (p k) 0 < hs[k].getD (p k) 0) := by
        intro i hi
        have hik : i < k := by rw [List.length_take] at hi; omega
        rw [List.getElem_take]
        have := HF.out.red hik hkl
        have h2 := HF.out.len _ (List.getElem_mem (show i < hs.length by omega))
        exact ⟨by omega, this.1, this.2⟩
      have hlu := (hu.at (p k) (by omega)).1
      have hqz : p k < hs[k].length := by omega
      have hzl : hs[k].length ≤ 1000 := by omega
      generalize hq : p k = q at *
      generalize hs[k] = zs at *
      generalize lastP p k = lp at *
      have HL := hide hlen; have HQ := hide hq; have HF1 := hide f1
      clear hlen hq f1 hu
      go_wp2_with fail
      refine (firstV_any wr _ zs nv (by exact HU.out) (by omega)).mono ?_
      rintro e w1 ⟨rfl, hb1⟩
      rw [HF1.out]
      have HB1 := hide (HBE.out.trans (hb1.mono HBE.out.size))
      have HU1 := hide (HU.out.below hb1 (Nat.le_refl _))
      have HM1 := hide ((HM.out.below hb1 (Nat.le_refl _)).take hkl)
      have cu1 := (hb1.cell (p := ⟨b, off + k, none⟩) hlt).trans cu
      obtain ⟨lu1, rn, ro, rl, rc, r0, r1, rnum⟩ := HU1.out.at q hqz
      have hneg : rn = false := by
        have := rnum.sgn
        cases rn
        · rfl
        · have := this.1 rfl; omega
      subst hneg
      have hlt1 : b < w1.heap.size := Nat.lt_of_lt_of_le hlt hb1.size
      have g1 : decide ((q : Int) ≤ lp) = false := decide_eq_false (by omega)
      have g2 : decide ((q : Int) < 0) = false := decide_eq_false (by omega)
      have hkc : k ≤ cap := by omega
      have hq1000 : q ≤ 1000 := by omega
      have HRN := hide rnum
      clear rnum hb1 HU HBE cu hlt hlu HF1 HM
      go_wp2_with fail
      go_region_held3 (fun w' => w'.cell? ⟨b, off + k, none⟩ = some (.slice (some ⟨rb, roff, none⟩) zs.length rcap) ∧ w'.cell? ⟨rb, roff + q * 2, none⟩ = some (.bool false) ∧ w'.cell? ⟨rb, roff + q * 2 + 1, none⟩ = some (.slice ro rl rc)) (go_keep)
        (first
          | (go_at_call 110; refine (lessAhead_yes _ _ (hs.take k) nv (by exact HM1.out.below (Below.refl _ _).drew (Nat.le_refl _)) q false ro rl rc (zs.getD q 0) (by exact HRN.out.below (Below.refl _ _).drew (Nat.le_refl _)) HALL.out (by rw [List.length_take]; omega) hq1000).mono ?_; rintro e w2 ⟨rfl, hb2⟩; have p2 := (hb2.cell (p := ⟨b, off + k, none⟩) (by simp; omega)).trans cu1; have p3 := (hb2.cell (p := ⟨rb, roff + q * 2, none⟩) (by simp; omega)).trans r0; have p4 := (hb2.cell (p := ⟨rb, roff + q * 2 + 1, none⟩) (by simp; omega)).trans r1; have HB2 := hide (show Below w1.heap.size w1 w2 from (Below.refl _ _).drew.trans (hb2.mono (by simp))); clear hb2))
      have HB3 := hide (HB1.out.trans (HB2.out.mono HB1.out.size))
      clear p2 p3 p4 r0 r1 cu1 HB2 HB1 HRN HM1 HALL
      go_wp2
      go_roundw
      case rel => exact ⟨k + 1, by omega, by go_num, by rw [HNX.out], HB3⟩
      case measure => simp [intOf]; omega
    · obtain rfl : k = hs.length := by omega
      go_wp2
      go_ret
      exact ⟨rfl, HBE.out⟩

end Go.Proofs.YtdedolkgcdlmeaaGreatDoor
