/- Are rows in the one form? Those that are. -/
import Derived.Test.YtjblidoilphifacDoorHermite
import Derived.Test.YtjblidoilphifacDoorBez
namespace Go.Proofs.YtjblidoilphifacDoor
open Go.RowKit Limbs

theorem first_eq : ∀ (zs : List Int) (k : Nat), k < zs.length → (∀ j, j < k → zs.getD j 0 = 0) → zs.getD k 0 ≠ 0 → first zs = k
  | [], k, hk, _, _ => absurd hk (by simp)
  | z :: zs, 0, _, _, hne => by
    have : z ≠ 0 := by simpa using hne
    rw [first, if_neg this]; rfl
  | z :: zs, k + 1, hk, h0, hne => by
    have e : z = 0 := by simpa using h0 0 (by omega)
    have ih := first_eq zs k (by simpa using hk) (fun j hj => by simpa using h0 (j + 1) (by omega)) (by simpa using hne)
    rw [first, if_pos e, ih, if_neg (by omega)]
    omega

theorem FormL.first {n : Nat} {hs : List (List Int)} {p : Nat → Nat} (h : FormL n hs p) {k : Nat} (hk : k < hs.length) : first hs[k] = p k ∧ p k < n ∧ 0 < hs[k].getD (p k) 0 := by
  have hlen := h.len _ (List.getElem_mem hk)
  have h1 := h.form.lt k hk
  have h2 := h.form.pos k hk
  have h3 := h.form.zero k
  simp only [getD_row hk] at h2 h3
  exact ⟨first_eq _ _ (by omega) (fun j hj => h3 j hk hj) (by omega), h1, h2⟩

theorem FormL.red {n : Nat} {hs : List (List Int)} {p : Nat → Nat} (h : FormL n hs p) {i k : Nat} (hik : i < k) (hk : k < hs.length) : 0 ≤ (hs[i]'(by omega)).getD (p k) 0 ∧ (hs[i]'(by omega)).getD (p k) 0 < hs[k].getD (p k) 0 := by
  have := h.form.red i k hik hk
  simpa only [getD_row hk, getD_row (show i < hs.length by omega)] using this

/-- The pivot's place of the row ahead. -/
def lastP (p : Nat → Nat) (k : Nat) : Int := if k = 0 then -1 else (p (k - 1) : Int)

theorem FormL.last {n : Nat} {hs : List (List Int)} {p : Nat → Nat} (h : FormL n hs p) {k : Nat} (hk : k < hs.length) : lastP p k < (p k : Int) := by
  unfold lastP
  split
  · omega
  · have := h.form.inc (k - 1) k (by omega) hk
    omega

theorem lastP_range {n : Nat} {hs : List (List Int)} {p : Nat → Nat} (h : FormL n hs p) {k : Nat} (hk : k ≤ hs.length) : -1 ≤ lastP p k ∧ lastP p k < (n : Int) + 1 := by
  unfold lastP
  split
  · omega
  · have := h.form.lt (k - 1) (by omega)
    omega

set_option maxRecDepth 100000 in
set_option maxHeartbeats 1600000 in
theorem form_any (w : World) (v : Value) (hs : List (List Int)) (n nv : Nat) (p : Nat → Nat) (hv : MatN w v hs nv) (hF : FormL n hs p) (hn : n ≤ 1000) (hl : hs.length ≤ 1000) :
    Calls Tryd.prog 21 #[v] w fun e w' => e = .returned (.bool true) ∧ Below w.heap.size w w' := by
  have HV := hide hv; have HF := hide hF
  obtain ⟨ao, cap, rfl, -, -⟩ := hv
  clear hF
  go_enter Tryd.func21, Tryd.ntmps21
  go_wp2
  go_loopw [3, 4] (fun last i wr => ∃ k : Nat, k ≤ hs.length ∧ i = .int .i64 k ∧ last = .int .i64 (lastP p k) ∧ Hid (Below w.heap.size w wr)) (fun _ i _ => hs.length - (intOf i).toNat)
  case atStart => exact ⟨0, Nat.zero_le _, rfl, rfl, hide (Below.refl _ _)⟩
  case round =>
    obtain ⟨k, hk, rfl, rfl, HBE⟩ := hrel
    by_cases hkl : k < hs.length
    · obtain ⟨b, off, _, e, hlt, u, cu, hu⟩ := (HV.out.below HBE.out (Nat.le_refl _)).at k hkl
      simp only [Value.slice.injEq, true_and] at e
      obtain ⟨rfl, rfl⟩ := e
      obtain ⟨f1, f2, f3⟩ := HF.out.first hkl
      have hlen := HF.out.len _ (List.getElem_mem hkl)
      have hlast := HF.out.last hkl
      have hrg := lastP_range HF.out (Nat.le_of_lt hkl)
      have HNX : Hid (lastP p (k + 1) = (p k : Int)) := by show _ = _; unfold lastP; rw [if_neg (by omega), Nat.add_sub_cancel]
      obtain ⟨rb, roff, rcap, rfl⟩ := hu.form (by omega)
      have HU := hide hu
      have HRED := hide (fun j (hj : j < k) => HF.out.red hj hkl)
      have hlu := (hu.at (p k) (by omega)).1
      have hqz : p k < hs[k].length := by omega
      have hzl : hs[k].length ≤ 1000 := by omega
      generalize hq : p k = q at *
      generalize hs[k] = zs at *
      generalize lastP p k = lp at *
      have HL := hide hlen; have HQ := hide hq; have HF1 := hide f1
      clear hlen hq f1 hu
      go_wp2_with fail
      refine (firstV_any wr _ zs nv (by exact HU.out) (by omega)).mono ?_
      rintro e w1 ⟨rfl, hb1⟩
      rw [HF1.out]
      have HB1 := hide (HBE.out.trans (hb1.mono HBE.out.size))
      have HU1 := hide (HU.out.below hb1 (Nat.le_refl _))
      have cu1 := (hb1.cell (p := ⟨b, off + k, none⟩) hlt).trans cu
      obtain ⟨lu1, rn, ro, rl, rc, r0, r1, rnum⟩ := HU1.out.at q hqz
      have hneg : rn = false := by
        have := rnum.sgn
        cases rn
        · rfl
        · have := this.1 rfl; omega
      subst hneg
      have hlt1 : b < w1.heap.size := Nat.lt_of_lt_of_le hlt hb1.size
      have g1 : decide ((q : Int) ≤ lp) = false := decide_eq_false (by omega)
      have g2 : decide ((q : Int) < 0) = false := decide_eq_false (by omega)
      have HRN := hide rnum
      clear rnum hb1 HU HBE cu hlt hlu HF1
      go_wp2
      go_loopw [6] (fun i wr => ∃ j : Nat, j ≤ k ∧ i = .int .i64 j ∧ Hid (Below w1.heap.size w1 wr)) (fun i _ => k - (intOf i).toNat)
      case atStart => exact ⟨0, Nat.zero_le _, rfl, hide (Below.refl _ _)⟩
      case round =>
        obtain ⟨j, hj, rfl, HBI⟩ := hrel
        by_cases hjk : j < k
        · have hjl : j < hs.length := by omega
          obtain ⟨_, _, _, e, -, x, cx, hx⟩ := (HV.out.below (HB1.out.trans (HBI.out.mono HB1.out.size)) (Nat.le_refl _)).at j hjl
          simp only [Value.slice.injEq, Option.some.injEq, Addr.mk.injEq, and_true, true_and] at e
          obtain ⟨⟨rfl, rfl⟩, rfl⟩ := e
          have hxl : q < hs[j].length := by have := HF.out.len _ (List.getElem_mem hjl); have := HL.out; omega
          obtain ⟨hr1, hr2⟩ := HRED.out j hjk
          obtain ⟨xb, xoff, xcap, rfl⟩ := hx.form (by omega)
          obtain ⟨lx, xn, xo, xl, xc, x0, x1, xnum⟩ := hx.at q hxl
          have hneg : xn = false := by
            have := xnum.sgn
            cases xn
            · rfl
            · have := this.1 rfl; omega
          subst hneg
          have cu2 := (HBI.out.cell (p := ⟨b, off + k, none⟩) hlt1).trans cu1
          have q0 := (HBI.out.cell (p := ⟨rb, roff + q * 2, none⟩) lu1).trans r0
          have q1 := (HBI.out.cell (p := ⟨rb, roff + q * 2 + 1, none⟩) lu1).trans r1
          have hlb : b < wr.heap.size := Nat.lt_of_lt_of_le hlt1 HBI.out.size
          have hlr : rb < wr.heap.size := Nat.lt_of_lt_of_le lu1 HBI.out.size
          have HXN := hide xnum
          have HRN2 := hide (HRN.out.below HBI.out (Nat.le_refl _))
          have HCM : Hid (cmpI (hs[j].getD q 0) (zs.getD q 0) = -1) := if_pos hr2
          clear xnum hx hr1 hr2 r0 r1 cu1
          generalize hs[j].getD q 0 = xv at *
          generalize hs[j].length = xlen at *
          have hbx : Below wr.heap.size wr (wr.alloc (.cells #[.bool false, .slice xo xl xc] 24)) := (Below.refl _ _).alloc (Nat.le_refl _) _
          have HBX := hide hbx
          have c0 : (wr.alloc (.cells #[.bool false, .slice xo xl xc] 24)).cell? ⟨wr.heap.size, 0, none⟩ = some (.bool false) := by rw [World.cell?_alloc_new]; rfl
          have c1 : (wr.alloc (.cells #[.bool false, .slice xo xl xc] 24)).cell? ⟨wr.heap.size, 1, none⟩ = some (.slice xo xl xc) := by rw [World.cell?_alloc_new]; rfl
          have c2 := (hbx.cell (p := ⟨b, off + k, none⟩) hlb).trans cu2
          have c3 := (hbx.cell (p := ⟨rb, roff + q * 2, none⟩) hlr).trans q0
          have c4 := (hbx.cell (p := ⟨rb, roff + q * 2 + 1, none⟩) hlr).trans q1
          have HXB := hide (HXN.out.below hbx (Nat.le_refl _))
          have HRB := hide (HRN2.out.below hbx (Nat.le_refl _))
          clear hbx HXN HRN2
          go_wp2_with fail
          go_region_held3 (fun w' => w'.cell? ⟨wr.heap.size, 0, none⟩ = some (.bool false) ∧ w'.cell? ⟨wr.heap.size, 1, none⟩ = some (.slice xo xl xc) ∧ w'.cell? ⟨b, off + k, none⟩ = some (.slice (some ⟨rb, roff, none⟩) zs.length rcap) ∧ w'.cell? ⟨rb, roff + q * 2, none⟩ = some (.bool false) ∧ w'.cell? ⟨rb, roff + q * 2 + 1, none⟩ = some (.slice ro rl rc)) (go_keep)
            (first
              | (go_at_call 31; refine (compare_any _ _ _ xv (zs.getD q 0) nv nv (by exact HXB.out) (by exact HRB.out)).mono ?_; rintro e w2 ⟨rfl, hb2⟩; have p0 := (hb2.cell (p := ⟨wr.heap.size, 0, none⟩) (by simp)).trans c0; have p1 := (hb2.cell (p := ⟨wr.heap.size, 1, none⟩) (by simp)).trans c1; have p2 := (hb2.cell (p := ⟨b, off + k, none⟩) (by simp; omega)).trans c2; have p3 := (hb2.cell (p := ⟨rb, roff + q * 2, none⟩) (by simp; omega)).trans c3; have p4 := (hb2.cell (p := ⟨rb, roff + q * 2 + 1, none⟩) (by simp; omega)).trans c4; have HB2 := hide (show Below wr.heap.size wr w2 from HBX.out.drew.trans (hb2.mono (by simp))); clear hb2; rw [HCM.out]))
          have HB3 := hide (HBI.out.trans (HB2.out.mono HBI.out.size))
          clear p0 p1 p2 p3 p4 c0 c1 c2 c3 c4 q0 q1 cu2 cx x0 x1 HB2 HBI HXB HRB HCM
          go_wp2
          go_roundw
          case rel => exact ⟨j + 1, by omega, by go_num, HB3⟩
          case measure => simp [intOf]; omega
        · obtain rfl : j = k := by omega
          have HB2 := hide (HB1.out.trans (HBI.out.mono HB1.out.size))
          clear HBI HB1 cu1 r0 r1
          go_wp2
          go_roundw
          case rel => exact ⟨j + 1, by omega, by go_num, by rw [HNX.out], HB2⟩
          case measure => simp [intOf]; omega
    · obtain rfl : k = hs.length := by omega
      go_wp2
      go_ret
      exact ⟨rfl, HBE.out⟩

end Go.Proofs.YtjblidoilphifacDoor
