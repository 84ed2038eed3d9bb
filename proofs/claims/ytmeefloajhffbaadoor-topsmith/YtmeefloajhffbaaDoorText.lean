/- TopSmith: invariants, and the one form. -/
import Derived.Test.YtmeefloajhffbaaDoorTsP
import Derived.Test.YtmeefloajhffbaaDoorMeetB
import Derived.Test.YtmeefloajhffbaaDoorDetU
import Derived.Deep.Cut
import Derived.Deep.CutRange
import Derived.Deep.CutBlock
import Derived.Test.YtmeefloajhffbaaDoorVecW
import Derived.Test.YtmeefloajhffbaaDoorMats
import Derived.Test.YtmeefloajhffbaaDoorGroups
import Derived.Test.YtmeefloajhffbaaDoorDivL

namespace Go.Proofs.YtmeefloajhffbaaDoor
open Go.RowKit Limbs

set_option linter.unusedSimpArgs false in
set_option maxRecDepth 100000 in
set_option maxHeartbeats 6400000 in
theorem topSmith_C (w W : World) (mo : Option Addr) (mcap : Nat) (nI : Int) (rss : List (List Raw)) (r : Bool) (hbe : Below w.heap.size w W) (hC : MatC w (.slice mo rss.length mcap) rss) (hr : r = true ↔ LightP rss nI) (sl2 sl3 sl4 sl5 sl6 sl8 sl9 sl10 sl11 sl12 sl13 sl14 sl15 sl16 sl17 sl18 sl19 sl20 sl21 sl22 sl23 sl24 sl25 sl26 sl27 sl28 sl29 sl30 sl31 sl32 sl33 sl34 sl35 sl36 sl37 sl38 sl39 sl40 sl41 sl42 sl43 sl44 sl45 sl46 sl47 sl48 sl49 sl50 sl51 sl52 sl53 sl54 sl55 sl56 sl57 sl58 sl59 sl60 sl61 sl62 sl63 sl64 sl65 sl66 sl67 sl68 sl69 sl70 sl71 sl72 sl73 sl74 sl75 sl76 sl77 sl78 sl79 sl80 sl81 sl82 sl83 sl84 sl85 sl86 sl87 sl88 sl89 sl90 sl91 sl92 sl93 sl94 sl95 sl96 sl97 sl98 sl99 sl100 sl101 sl102 sl103 sl104 sl105 sl106 sl107 sl108 sl109 sl110 sl111 sl112 sl113 sl114 sl115 sl116 sl117 sl118 sl119 sl120 sl121 sl122 sl123 sl124 sl125 sl126 sl127 sl128 sl129 sl130 sl131 sl132 sl133 sl134 sl135 sl136 sl137 sl138 sl139 sl140 sl141 sl142 sl143 sl144 sl145 sl146 sl147 sl148 sl149 sl150 sl151 sl152 sl153 sl154 sl155 sl156 sl157 sl158 sl159 sl160 sl161 sl162 sl163 sl164 sl165 sl166 sl167 sl168 sl169 sl170 sl171 sl172 sl173 sl174 sl175 sl176 sl177 sl178 sl179 sl180 sl181 sl182 sl183 sl184 sl185 sl186 sl187 sl188 sl189 sl190 sl191 sl192 sl193 sl194 sl195 sl196 sl197 sl198 sl199 sl200 sl201 sl202 sl203 sl204 sl205 sl206 sl207 sl208 sl209 sl210 sl211 sl212 : Value) :
    (Code.tl (Code.tl (Code.tl (Code.tl ((Tryd.f4.body).getD .skip))))).wp Tryd.prog (bodyPost Tryd.prog Tryd.f4 (fun e w' => e = .returned (.bool true) ∧ Below w.heap.size w w')) ⟨#[(.slice mo rss.length mcap), (.int .i64 nI), sl2, sl3, sl4, sl5, sl6, (.bool r), sl8, sl9, sl10, sl11, sl12, sl13, sl14, sl15, sl16, sl17, sl18, sl19, sl20, sl21, sl22, sl23, sl24, sl25, sl26, sl27, sl28, sl29, sl30, sl31, sl32, sl33, sl34, sl35, sl36, sl37, sl38, sl39, sl40, sl41, sl42, sl43, sl44, sl45, sl46, sl47, sl48, sl49, sl50, sl51, sl52, sl53, sl54, sl55, sl56, sl57, sl58, sl59, sl60, sl61, sl62, sl63, sl64, sl65, sl66, sl67, sl68, sl69, sl70, sl71, sl72, sl73, sl74, sl75, sl76, sl77, sl78, sl79, sl80, sl81, sl82, sl83, sl84, sl85, sl86, sl87, sl88, sl89, sl90, sl91, sl92, sl93, sl94, sl95, sl96, sl97, sl98, sl99, sl100, sl101, sl102, sl103, sl104, sl105, sl106, sl107, sl108, sl109, sl110, sl111, sl112, sl113, sl114, sl115, sl116, sl117, sl118, sl119, sl120, sl121, sl122, sl123, sl124, sl125, sl126, sl127, sl128, sl129, sl130, sl131, sl132, sl133, sl134, sl135, sl136, sl137, sl138, sl139, sl140, sl141, sl142, sl143, sl144, sl145, sl146, sl147, sl148, sl149, sl150, sl151, sl152, sl153, sl154, sl155, sl156, sl157, sl158, sl159, sl160, sl161, sl162, sl163, sl164, sl165, sl166, sl167, sl168, sl169, sl170, sl171, sl172, sl173, sl174, sl175, sl176, sl177, sl178, sl179, sl180, sl181, sl182, sl183, sl184, sl185, sl186, sl187, sl188, sl189, sl190, sl191, sl192, sl193, sl194, sl195, sl196, sl197, sl198, sl199, sl200, sl201, sl202, sl203, sl204, sl205, sl206, sl207, sl208, sl209, sl210, sl211, sl212], []⟩ W := by
  simp only [Code.tl, Tryd.f4, Option.getD_some]
  have HC := hide hC; have HR := hide hr; have HBE := hide hbe
  clear hC hr hbe
  cases r
  · clear HR
    go_wp2
    go_ret
    exact ⟨rfl, HBE.out⟩
  · obtain ⟨hlm, h6, hck⟩ := HR.out.1 rfl
    clear HR
    obtain ⟨hn1, hn8, -, hrs⟩ := checkedM_nil.1 hck
    obtain ⟨n, rfl⟩ : ∃ n : Nat, nI = (n : Int) := ⟨nI.toNat, by omega⟩
    have hlv := (lightM_parts hlm).2
    have hMN := (HC.out.light hlv).toN (n := 8) (fun rs h => (hrs rs h).2) (fun rs h => lightV_eight (hlv rs h))
    obtain ⟨ms, hms⟩ : ∃ ms, rss.map (·.map Raw.z) = ms := ⟨_, rfl⟩
    have hlen : rss.length = ms.length := by rw [← hms, List.length_map]
    have hml : ∀ us ∈ ms, us.length = n := fun us h => by
      rw [← hms] at h
      obtain ⟨rs, h1, rfl⟩ := List.mem_map.1 h
      rw [List.length_map]
      have := (hrs rs h1).1
      omega
    rw [hms, hlen] at hMN
    rw [hlen] at h6
    rw [hlen]
    have HM := hide hMN; have HML := hide hml
    clear hms hlen hlv hlm hck hrs HC hMN hml
    by_cases hm4 : ms.length ≤ 4
    · have g1 : decide ((4 : Int) < (ms.length : Int)) = false := decide_eq_false (by omega)
      by_cases hn4 : n ≤ 4
      · have g2 : decide ((4 : Int) < (n : Int)) = false := decide_eq_false (by omega)
        have g2' : ¬ ((4 : Int) < (n : Int)) := by omega
        by_cases hm0 : ms.length = 0
        · have g3 : ((ms.length : Int) == 0) = true := by rw [beq_iff_eq]; omega
          go_wp2
          go_ret
          exact ⟨rfl, HBE.out⟩
        · have g3 : ((ms.length : Int) == 0) = false := by rw [beq_eq_false_iff_ne]; omega
          have hm1 : 1 ≤ ms.length := by omega
          replace hn1 : 1 ≤ n := by omega
          have HMW := hide (HM.out.below HBE.out (Nat.le_refl _))
          go_wp2_with fail
          refine (smith_any W _ ms n 8 HMW.out HML.out hn1 (by omega) (by omega) (roomS8 n (by omega))).mono ?_
          rintro e w1 ⟨P1, M, ys, hs, fs, p, D, rfl, f1, a1, v1, c1, t1, -, hdi, hM⟩
          have hyl := c1.len
          have HV1 := hide v1.vec; have HB1 := hide v1.below
          have HPOS : Hid (∀ i, i < ys.length → 0 < ys.getD i 0) := fun i hi => c1.pos i (by rw [← hyl]; exact hi)
          have HCH : Hid (∀ i j, i < j → j < ys.length → ∃ p, ys.getD j 0 = p * ys.getD i 0) := fun i j h1 h2 => c1.chain i (by rw [← hyl]; omega) j h1 (by rw [← hyl]; exact h2)
          have HDV : Hid (∀ k g, Dv k ms.length n (ent ms) g ↔ Dv k ys.length ys.length (dgM fun i => ys.getD i 0) g) := fun k g => smith_dv f1 a1 HML.out t1 c1 k g
          have HDET : Hid (ms.length = n → ys.length = n → (if det n (ent ms) < 0 then -det n (ent ms) else det n (ent ms)) = prodN ys.length (fun i => ys.getD i 0)) := fun h1 h2 => by
            have h3 : hs.length = n := by omega
            have h4 := det_diag h1 HML.out (sq_of f1 h3) a1
            have h5 := c1.prod
            rw [hdi h3, ← hyl] at h5
            rw [h5]
            exact h4
          have HF := hide f1; have HA := hide a1; have HYL := hide hyl
          have hyn : ys.length ≤ n := by rw [hyl]; exact f1.short
          rw [← hyl]
          clear f1 a1 v1 c1 t1 hdi hyl
          go_wp2_with fail
          refine (hermite_any w1 _ ms n 8 (HMW.out.below HB1.out (Nat.le_refl _)) HML.out hn1 (by omega) (by omega) (nb_ok n (by omega)).1).mono ?_
          rintro e w2 ⟨vh, hs2, p2, rfl, h1, h2, h3, h4, h5⟩
          obtain rfl : hs2 = hs := formL_one h4 HF.out (h5.trans HA.out.symm)
          obtain ⟨ho, hcap, rfl, -, -⟩ := h1
          rw [← HYL.out]
          have HB2 := hide (HB1.out.trans (h3.mono HB1.out.size)); have HV2 := hide (HV1.out.below h3 (Nat.le_refl _))
          clear h2 h3 h4 h5 HV1 HB1
          have HBV := hide (HBE.out.trans (HB2.out.mono HBE.out.size))
          go_upto_region 11 with fail
          go_cut [11] from 23 (fun v wc => ∃ PB, v = .pointer (some ⟨PB, 0, none⟩) ∧ PI w2 wc PB M 0 ys)
          case first =>
            go_wp2_with fail
            refine (of_any w2 1 (by decide) (by decide)).mono ?_
            rintro e w3 ⟨v3, rfl, hv3, hb3⟩
            obtain ⟨⟨pn, pO, pL, pC⟩, rfl⟩ := hv3.nm
            have hN3 := below_new w3 (.cells #[.bool pn, .slice pO pL pC] 26)
            have HPI : Hid (PI w2 (w3.alloc (.cells #[.bool pn, .slice pO pL pC] 26)) w3.heap.size M 0 ys) := ⟨hb3.trans (hN3.mono hb3.size), hb3.size, pn, pO, pL, pC, BoxL.new w3 _ _ _, (hv3.below hN3 (Nat.le_refl _)).mono (by omega)⟩
            clear hv3 hb3 hN3
            go_wp2
            go_meet
            case rel => exact ⟨_, rfl, HPI.out⟩
          case rest =>
          obtain ⟨PB, rfl, hI⟩ := hcut
          apply_assumption
          exact topSmith_P w _ w2 mo (some ⟨P1, 0, none⟩) mcap ys.length PB n M ms ys HBV.out HM.out HML.out hn1 hn4 hm1 hm4 (by omega) hyn (by have := HV2.out; exact this) hM hI HDET.out HPOS.out HCH.out HDV.out _ _ _ _ _ _ _ _ _ _ _ _ _ _ _ _ _ _ _ _ _ _ _ _ _ _ _ _ _ _ _ _ _ _ _ _ _ _ _ _ _ _ _ _ _ _ _ _ _ _ _ _ _ _ _ _ _ _ _ _ _ _ _ _ _ _ _ _ _ _ _ _ _ _ _ _ _ _ _ _ _ _ _ _ _ _ _ _ _ _ _ _ _ _ _ _ _ _ _ _ _ _ _ _ _ _ _ _ _ _ _ _ _ _ _ _ _ _ _ _ _ _ _ _ _ _ _ _ _ _ _ _ _ _ _ _ _ _ _ _ _ _ _ _ _ _ _ _ _ _ _ _ _ _ _ _ _ _ _ _ _ _ _ _ _ _ _ _ _ _ _ _ _ _ _ _ _ _ _ _ _ _ _ _ _ _ _ _ _ _ _ _ _ _ _ _ _ _ _ _ _ _ _ _ _ _ _ _ _
      · have g2 : decide ((4 : Int) < (n : Int)) = true := decide_eq_true (by omega)
        go_wp2
        go_ret
        exact ⟨rfl, HBE.out⟩
    · have g1 : decide ((4 : Int) < (ms.length : Int)) = true := decide_eq_true (by omega)
      go_wp2
      go_ret
      exact ⟨rfl, HBE.out⟩

end Go.Proofs.YtmeefloajhffbaaDoor

/- Two rows, written out. -/
namespace Go.Proofs.YtmeefloajhffbaaDoor
open Go.RowKit Limbs

theorem two_rowsD (w : World) (va vb : Value) (xs ys : List Int) (n : Nat) (ha : VecN w va xs n) (hb : VecN w vb ys n) : MatN (w.alloc (.cells #[va, vb] 32)) (.slice (some ⟨w.heap.size, 0, none⟩) 2 2) [xs, ys] n := by
  have hbA : Below w.heap.size w (w.alloc (.cells #[va, vb] 32)) := (Below.refl _ _).alloc (Nat.le_refl _) _
  refine ⟨_, _, rfl, Nat.le_refl _, fun _ => ⟨_, _, rfl, by simp, fun i zs hi => ?_⟩⟩
  have hlt := (List.getElem?_eq_some_iff.1 hi).1
  match i, hlt with
  | 0, _ =>
    simp only [List.getElem?_cons_zero, Option.some.injEq] at hi
    subst hi
    exact ⟨va, by rw [World.cell?_alloc_new]; rfl, ha.below hbA (Nat.le_refl _)⟩
  | 1, _ =>
    simp only [List.getElem?_cons_succ, List.getElem?_cons_zero, Option.some.injEq] at hi
    subst hi
    exact ⟨vb, by rw [World.cell?_alloc_new]; rfl, hb.below hbA (Nat.le_refl _)⟩

theorem row_twoD (w : World) (x y : Int) (hx : -1000 ≤ x ∧ x ≤ 1000) (hy : -1000 ≤ y ∧ y ≤ 1000) : RowS (w.alloc (.cells #[.int .i64 x, .int .i64 y] 3)) (.slice (some ⟨w.heap.size, 0, none⟩) 2 2) [x, y] := by
  refine ⟨_, _, rfl, Nat.le_refl _, fun i => ?_, fun _ => ⟨_, _, rfl, by simp, fun i hi => ?_⟩⟩
  · match i with
    | 0 => simp; omega
    | 1 => simp; omega
    | i + 2 => simp
  · match i, hi with
    | 0, _ => rw [World.cell?_alloc_new]; rfl
    | 1, _ => rw [World.cell?_alloc_new]; rfl

end Go.Proofs.YtmeefloajhffbaaDoor

/- A number's text. -/
namespace Go.Proofs.YtmeefloajhffbaaDoor
open Go.RowKit Limbs

/-- so many decimal digits of a number -/
def pad : Nat → Nat → List UInt8
  | 0, _ => []
  | k + 1, g => pad k (g / 10) ++ [UInt8.ofNat (48 + g % 10)]

theorem pad_length (k g : Nat) : (pad k g).length = k := by
  induction k generalizing g with
  | zero => rfl
  | succ k ih => simp [pad, ih]

theorem decDigits_pad (k : Nat) : ∀ q g : Nat, 1 ≤ q → g < 10 ^ k → Lib.decDigits (q * 10 ^ k + g) = Lib.decDigits q ++ pad k g := by
  induction k with
  | zero => intro q g _ hg; have : g = 0 := by simpa using hg
            subst this; simp [pad]
  | succ k ih =>
    intro q g hq hg
    have e1 : q * 10 ^ (k + 1) = 10 * (q * 10 ^ k) := by rw [Nat.pow_succ, ← Nat.mul_assoc, Nat.mul_comm]
    have e0 : 0 < q * 10 ^ k := Nat.mul_pos (by omega) (Nat.pow_pos (by decide))
    have hg' : g / 10 < 10 ^ k := by rw [Nat.pow_succ] at hg; omega
    rw [Lib.decDigits, dif_neg (by omega)]
    have e2 : (q * 10 ^ (k + 1) + g) / 10 = q * 10 ^ k + g / 10 := by omega
    have e3 : (q * 10 ^ (k + 1) + g) % 10 = g % 10 := by omega
    rw [e2, e3, ih q (g / 10) hq hg', List.append_assoc]
    rfl

theorem decDigits_len (u : Nat) : (Lib.decDigits u).length ≤ u + 1 ∧ 1 ≤ (Lib.decDigits u).length := by
  induction u using Nat.strongRecOn with
  | _ u ih =>
    rw [Lib.decDigits]
    by_cases h : u < 10
    · rw [dif_pos h]; simp
    · rw [dif_neg h]
      have := ih (u / 10) (by omega)
      simp
      omega

theorem nine (g : Nat) (hg : g < 1000000000) : (Lib.decDigits (1000000000 + g)).drop 1 = pad 9 g := by
  have := decDigits_pad 9 1 g (Nat.le_refl _) hg
  rw [show 1 * 10 ^ 9 + g = 1000000000 + g by omega] at this
  rw [this, Lib.decDigits_one (by decide)]
  rfl

theorem group_digits (q g : Nat) (hq : 1 ≤ q) (hg : g < 1000000000) : Lib.decDigits (q * 1000000000 + g) = Lib.decDigits q ++ pad 9 g := decDigits_pad 9 q g hq hg

theorem gv_nonneg {gs : List Int} (h : ∀ g ∈ gs, 0 ≤ g ∧ g < 1000000000) : 0 ≤ gv gs := by
  induction gs with
  | nil => simp [gv]
  | cons x xs ih => have := ih fun g hg => h g (by simp [hg]); have := h x (by simp); simp only [gv]; omega

theorem gv_pos {gs : List Int} (h : ∀ g ∈ gs, 0 ≤ g ∧ g < 1000000000) (hl : gs.length ≠ 0) (hn : gs.getD (gs.length - 1) 0 ≠ 0) : 0 < gv gs := by
  induction gs with
  | nil => simp at hl
  | cons x xs ih =>
    have hx := h x (by simp)
    have hxs : ∀ g ∈ xs, 0 ≤ g ∧ g < 1000000000 := fun g hg => h g (by simp [hg])
    have h0 := gv_nonneg hxs
    simp only [gv]
    by_cases e : xs.length = 0
    · have : xs = [] := List.eq_nil_of_length_eq_zero e
      subst this
      simp at hn
      simp [gv]; omega
    · have := ih hxs e (by
        have e2 : (x :: xs).length - 1 = (xs.length - 1) + 1 := by simp; omega
        rw [e2, List.getD_cons_succ] at hn; exact hn)
      omega

/-- the digits of the groups from a place on -/
theorem text_step {gs : List Int} (h : ∀ g ∈ gs, 0 ≤ g ∧ g < 1000000000) (hn : gs.getD (gs.length - 1) 0 ≠ 0) {p : Nat} (hp : p + 1 < gs.length) :
    Lib.decDigits (gv (gs.drop p)).toNat = Lib.decDigits (gv (gs.drop (p + 1))).toNat ++ pad 9 (gs.getD p 0).toNat := by
  have hm : gs.getD p 0 ∈ gs := by rw [List.getD_eq_getElem?_getD, List.getElem?_eq_getElem (by omega)]; exact List.getElem_mem _
  have hg := h _ hm
  have hd : ∀ g ∈ gs.drop (p + 1), 0 ≤ g ∧ g < 1000000000 := fun g hg => h g (List.mem_of_mem_drop hg)
  have hl : (gs.drop (p + 1)).length = gs.length - (p + 1) := List.length_drop
  have h1 := gv_pos hd (by omega) (by rw [getD_drop, hl, show p + 1 + (gs.length - (p + 1) - 1) = gs.length - 1 by omega]; exact hn)
  have e : gs.drop p = gs.getD p 0 :: gs.drop (p + 1) := drop_cons_getD gs p (by omega)
  rw [e]
  simp only [gv]
  rw [← group_digits _ _ (by omega) (by omega)]
  congr 1
  omega

/-- what the number's text is -/
def txt (z : Int) : List UInt8 := Lib.itoa z

/-- The text comes back. -/
def TextPost (w : World) (z : Int) (e : Ending) (w' : World) : Prop := e = .returned (.string ⟨(txt z).toArray⟩) ∧ Below w.heap.size w w'

end Go.Proofs.YtmeefloajhffbaaDoor
