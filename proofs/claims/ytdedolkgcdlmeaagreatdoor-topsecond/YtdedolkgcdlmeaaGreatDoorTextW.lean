/- The walk that makes a number's text, over what strconv.Itoa answers. -/
import Derived.Test.YtdedolkgcdlmeaaGreatDoorText
import Derived.Lib.IndexBytes
namespace Go.Proofs.YtdedolkgcdlmeaaGreatDoor
open Go.RowKit Limbs

/-- what strconv.Itoa is asked for here -/
def ItoaOk (w : World) (z : Int) : Prop :=
  ∀ (W : World) (k : Nat), Below w.heap.size w W → k < 10000000000 → (k < 100 ∨ 100 ≤ z.natAbs) →
    Calls Tryz.prog 120 #[.int .i64 k] W fun e w' => e = .returned (.string ⟨(Lib.decDigits k).toArray⟩) ∧ Below W.heap.size W w'

/-- The sign ahead. -/
def sgnB (neg : Bool) : List UInt8 := if neg = true then [45] else []

theorem gv_low {gs : List Int} (h : ∀ g ∈ gs, 0 ≤ g ∧ g < 1000000000) (top : Nat) (hl : gs.length = top + 1) : gp top * gs.getD top 0 ≤ gv gs := by
  induction gs generalizing top with
  | nil => simp at hl
  | cons x xs ih =>
    have hx := h x (by simp)
    have hxs : ∀ g ∈ xs, 0 ≤ g ∧ g < 1000000000 := fun g hg => h g (by simp [hg])
    cases top with
    | zero =>
      have := gv_nonneg hxs
      simp [gv, gp]; omega
    | succ top =>
      have := ih hxs top (by simpa using hl)
      rw [List.getD_cons_succ]
      simp only [gv, gp]
      rw [Int.mul_assoc]
      omega

theorem builder_below {T e : TypeId} {B b : Nat} {bs : List Value} {w w' : World} (h : Lib.IsBuilderF T e B b bs w) (hb : Below w.heap.size w w') : Lib.IsBuilderF T e B b bs w' := by
  have hg : w.grownBy w' none := ⟨hb.os, hb.tape, hb.output, hb.size, fun k hk _ => hb.block k hk⟩
  have key : ∀ p, Lib.BuilderAtF T e B b p bs w → Lib.BuilderAtF T e B b p bs w' := fun p hp => by
    have hlt := hp.lt
    obtain ⟨hB, v, hbk, hown, hne⟩ := hp
    exact ⟨hB, v, by rw [hb.block b hlt]; exact hbk, hown.kept hg (by cases v.ownBlock <;> simp), hne⟩
  exact h.elim (fun x => .inl (key _ x)) (fun x => .inr (key _ x))

set_option maxRecDepth 100000 in
set_option maxHeartbeats 1000000 in
theorem text_gen (w : World) (va : Value) (z : Int) (n : Nat) (ha : NumL w va z n) (hn : n ≤ 900000) (hz : z ≠ 0) (hIt : ItoaOk w z) :
    Calls Tryz.prog 92 #[va] w fun e w' => TextPost w z e w' := by
  have HN := hide ha
  obtain ⟨an, sa, a, rfl, hla, nra, hza, hx, hna⟩ := ha
  have HA := hide hla
  obtain ⟨ao, acap, rfl, hac, halen, halb, -⟩ := hla
  have hane : a.length ≠ 0 := fun h => hz (by rw [hx, (lv_zero_iff halb nra).2 h]; split <;> rfl)
  have hpos := lv_pos halb nra hane
  have HX := hide hx; clear hx
  have HI := hide hIt; clear hIt
  have hd0 : decide (z = 0) = false := decide_eq_false hz
  go_enter Tryz.func92, Tryz.ntmps92
  go_wp2_with fail
  have hB := box_new w (.bool an) (.slice ao a.length acap) 29 w.heap.size rfl
  have hb0 : Below w.heap.size w (w.alloc (.cells #[.bool an, .slice ao a.length acap] 29)) := (Below.refl _ _).alloc (Nat.le_refl _) _
  have hs0 : w.heap.size < (w.alloc (.cells #[.bool an, .slice ao a.length acap] 29)).heap.size := by simp
  generalize w.alloc (.cells #[.bool an, .slice ao a.length acap] 29) = W at *
  refine (zero_any W _ z n (HN.out.below hb0 (Nat.le_refl _))).mono ?_
  rintro e w2 ⟨rfl, hb2⟩
  rw [hd0]
  replace hB := hB.later hb2 hs0
  replace hb0 := hb0.trans (hb2.mono hb0.size)
  have hs2 := Nat.lt_of_lt_of_le hs0 hb2.size
  clear hb2 hs0
  obtain ⟨p0, p1, -, -⟩ := hB
  go_wp2_with fail
  refine (digitGroups_any w2 _ a (HA.out.below hb0 (Nat.le_refl _)) nra).mono ?_
  rintro e w3 ⟨v, gs, rfl, hown, hb3, hgv, hg9, hlast, hgl⟩
  have hgne : gs.length ≠ 0 := fun h => by rw [List.eq_nil_of_length_eq_zero h] at hgv; simp [gv] at hgv; omega
  replace hlast := hlast.resolve_left hgne
  obtain ⟨top, htop⟩ : ∃ top, gs.length = top + 1 := ⟨gs.length - 1, by omega⟩
  obtain ⟨g, cap, rfl, hgb, hglt⟩ := hown.form (by omega)
  have hcells := fun i hi => hown.cellAt i hi
  rw [htop] at hcells hgl hlast ⊢
  rw [Nat.add_sub_cancel] at hlast
  have HC : Hid (∀ i, i < top + 1 → w3.cell? ⟨g, i, none⟩ = some (.int .i64 (gs.getD i 0))) := fun i hi => by
    rw [hcells i (by omega), List.getElem?_map, List.getElem?_eq_getElem (by omega)]
    simp [List.getD_eq_getElem?_getD, show i < gs.length by omega]
  clear hcells hown
  have q0 : w3.cell? ⟨w.heap.size, 0, none⟩ = some (.bool an) := (hb3.cell (p := ⟨w.heap.size, 0, none⟩) hs2).trans p0
  have hbw3 := hb0.trans (hb3.mono hb0.size)
  have HV := hide hgv; have HG9 := hide hg9; have HLast := hide hlast; have HTop := hide htop
  clear hgv hg9 hlast htop p0 p1 hb3
  have hs3 : w.heap.size < w3.heap.size := by have := hbw3.size; omega
  have hct := HC.out top (by omega)
  obtain ⟨gt, HGT⟩ : ∃ gt, Hid (gt = gs.getD top 0) := ⟨_, rfl⟩
  rw [← HGT.out] at hct
  have hgt : 0 < gt ∧ gt < 1000000000 := by
    have := HG9.out (gs.getD top 0) (by rw [List.getD_eq_getElem?_getD, List.getElem?_eq_getElem (by have := HTop.out; omega)]; exact List.getElem_mem _)
    have h2 := HLast.out
    rw [HGT.out]; omega
  have hbu := Lib.IsBuilderF.of (Lib.fresh_isBuilder 165 5 w3)
  have hbb : Below w3.heap.size w3 (w3.alloc (.cells #[.pointer none, .slice none 0 0] 165)) := (Below.refl _ _).alloc (Nat.le_refl _) _
  have HBU := hide hbu
  clear hbu
  have HEND : Hid (∀ w9, Below w3.heap.size w3 w9 → TextPost w z (.returned (.string ⟨(sgnB an ++ Lib.decDigits (gv (gs.drop 0)).toNat).toArray⟩)) w9) := fun w9 h9 => by
    refine ⟨?_, hbw3.trans (h9.mono hbw3.size)⟩
    have e : txt z = sgnB an ++ Lib.decDigits (gv (gs.drop 0)).toNat := by
      rw [List.drop_zero, ← HV.out]
      unfold txt sgnB Lib.itoa
      have := HX.out
      cases an
      · simp at this ⊢; rw [this, if_neg (by omega)]
      · simp at this ⊢; rw [this, if_pos (by omega)]; simp
        congr 1; omega
    rw [e]
  have HIT : Hid (∀ (W : World) (k : Nat), Below w3.heap.size w3 W → k < 10000000000 → (k < 100 ∨ top ≠ 0 ∨ 100 ≤ gt) → Calls Tryz.prog 120 #[.int .i64 k] W fun e w' => e = .returned (.string ⟨(Lib.decDigits k).toArray⟩) ∧ Below W.heap.size W w') := fun W k hW hk hc => by
    refine HI.out W k (hbw3.trans (hW.mono hbw3.size)) hk ?_
    rcases hc with hc | hc
    · exact .inl hc
    · right
      have h1 := gv_low HG9.out top HTop.out
      rw [← HGT.out, ← HV.out] at h1
      have h2 : 100 ≤ lv a := by
        rcases hc with hc | hc
        · have h3 := gp_mono (m := 1) (n := top) (by omega)
          have h4 : gp top * 1 ≤ gp top * gt := Int.mul_le_mul_of_nonneg_left (by omega) (by have := gp_pos top; omega)
          simp [gp] at h3
          omega
        · have h3 := gp_pos top
          have h4 : 1 * gt ≤ gp top * gt := Int.mul_le_mul_of_nonneg_right (by omega) (by omega)
          omega
      have := HX.out
      split at this <;> omega
  have HTXT : Hid (∀ p, p + 1 < gs.length → Lib.decDigits (gv (gs.drop p)).toNat = Lib.decDigits (gv (gs.drop (p + 1))).toNat ++ pad 9 (gs.getD p 0).toNat) := fun p hp => text_step HG9.out (by rw [HTop.out, Nat.add_sub_cancel]; exact HLast.out) hp
  have HT0 : Hid (Lib.decDigits (gv (gs.drop top)).toNat = Lib.decDigits gt.toNat) := by
    show _ = _
    rw [drop_cons_getD gs top (by have := HTop.out; omega), List.drop_eq_nil_of_le (by have := HTop.out; omega), ← HGT.out]
    simp [gv]
  have HG : Hid (∀ p, p < top + 1 → 0 ≤ gs.getD p 0 ∧ gs.getD p 0 < 1000000000) := fun p hp => HG9.out _ (by rw [List.getD_eq_getElem?_getD, List.getElem?_eq_getElem (by have := HTop.out; omega)]; exact List.getElem_mem _)
  obtain ⟨gn, hgn⟩ : ∃ gn : Nat, gt = (gn : Int) := Int.eq_ofNat_of_zero_le (by omega)
  subst hgn
  clear HI HN HA HX HGT HV HG9 HLast
  have hgn1 : gn < 1000000000 := by omega
  have hdl := (decDigits_len gn).1
  have hctA : ∀ W', Below w3.heap.size w3 W' → W'.cell? ⟨g, top, none⟩ = some (.int .i64 (gn : Int)) := fun W' h => (h.cell (p := ⟨g, top, none⟩) hglt).trans hct
  have HCT := hide hctA
  clear hctA hct
  cases an
  · have HBF : Hid (Lib.IsBuilderF 165 5 w3.heap.size w3.heap.size (Lib.byteCells (sgnB false)) (w3.alloc (.cells #[.pointer none, .slice none 0 0] 165))) := HBU.out
    have hctb := HCT.out _ hbb
    go_wp2_with fail
    generalize w3.alloc (.cells #[.pointer none, .slice none 0 0] 165) = wb at *
    clear hctb q0
    refine (HIT.out wb gn hbb (by omega) (by omega)).mono ?_
    rintro e w5 ⟨rfl, hb5⟩
    go_wp2_with fail
    refine (Go.Proofs.Tryz.Builder_WriteString_k w3.heap.size w3.heap.size _ _ _ (builder_below HBF.out hb5) (by simp [Lib.byteCells, sgnB, ByteArray.size]; omega) (by have := hbb.size; have := hb5.size; omega)).mono ?_
    rintro e w6 ⟨rfl, hbu6, hb6, -⟩
    have hs6 : (Lib.byteCells (sgnB false) ++ Lib.strCells ⟨(Lib.decDigits gn).toArray⟩) = Lib.byteCells (sgnB false ++ Lib.decDigits (gv (gs.drop (top - 0))).toNat) := by
      rw [Nat.sub_zero, HT0.out, Lib.byteCells_append]; rfl
    rw [hs6] at hbu6
    have HB6 := hide (show Lib.IsBuilderF 165 5 w3.heap.size w3.heap.size _ w6 from .inr hbu6)
    have hbw6 := (hbb.trans (hb5.mono hbb.size)).trans hb6
    have hll : (sgnB false ++ Lib.decDigits (gv (gs.drop (top - 0))).toNat).length ≤ 1000000100 := by rw [Nat.sub_zero, HT0.out]; simp [sgnB]; omega
    clear hbu6 hs6 hb6 hb5 HBF HBU hbb
    go_wp2
    go_loopw [25] (fun i wr => ∃ k : Nat, k ≤ top ∧ i = .int .i64 k ∧ Hid (Lib.IsBuilderF 165 5 w3.heap.size w3.heap.size (Lib.byteCells (sgnB false ++ Lib.decDigits (gv (gs.drop (top - k))).toNat)) wr) ∧ Below w3.heap.size w3 wr ∧ (sgnB false ++ Lib.decDigits (gv (gs.drop (top - k))).toNat).length ≤ 1000000100 + 9 * k) (fun i _ => top - (intOf i).toNat)
    case atStart => exact ⟨0, Nat.zero_le _, rfl, HB6, hbw6, hll⟩
    case round =>
      obtain ⟨k, hk, rfl, HBK, hbk, hlk⟩ := hrel
      by_cases hlt : k < top
      · obtain ⟨p, hp⟩ : ∃ p, p = top - 1 - k := ⟨_, rfl⟩
        have hP : (top : Int) - 1 - (k : Int) = (p : Int) := by omega
        have hpl : p < top + 1 := by omega
        have hcp := (hbk.cell (p := ⟨g, p, none⟩) hglt).trans (HC.out p hpl)
        have hg := HG.out p hpl
        have HST := hide (HTXT.out p (by have := HTop.out; omega))
        have HKE := hide (show top - k = p + 1 by omega)
        have HKE2 := hide (show top - (k + 1) = p by omega)
        obtain ⟨q, hq⟩ : ∃ q : Nat, gs.getD p 0 = (q : Int) := Int.eq_ofNat_of_zero_le hg.1
        rw [hq] at hcp hg HST
        clear hp hq
        go_wp2_with fail
        rw [show (1000000000 : Int) + (q : Int) = ((1000000000 + q : Nat) : Int) by omega]
        refine (HIT.out wr (1000000000 + q) hbk (by omega) (by omega)).mono ?_
        rintro e w7 ⟨rfl, hb7⟩
        have hdq := (decDigits_len (1000000000 + q)).2
        have HN9 := hide (nine q (by omega))
        obtain ⟨s, HSs⟩ : ∃ s : ByteArray, Hid (s = ⟨(Lib.decDigits (1000000000 + q)).toArray⟩) := ⟨_, rfl⟩
        have hs1 : 1 ≤ s.size := by rw [HSs.out]; simpa [ByteArray.size] using hdq
        rw [← HSs.out]
        have hcell9 : Lib.strCells (s.extract 1 s.size) = Lib.byteCells (pad 9 q) := by
          rw [Lib.strCells_eq, Lib.extract_to_end, HSs.out]
          show Lib.byteCells ((Lib.decDigits (1000000000 + q)).toArray.toList.drop 1) = _
          rw [List.toList_toArray, HN9.out]
        have hsz9 : (s.extract 1 s.size).size = 9 := by
          have := Lib.strCells_length (s.extract 1 s.size)
          rw [hcell9, Lib.byteCells_length, pad_length] at this
          exact this.symm
        have HC9 := hide hcell9; have HZ9 := hide hsz9
        clear hcell9 hsz9 hdq
        go_wp2_with fail
        refine (Go.Proofs.Tryz.Builder_WriteString_k w3.heap.size w3.heap.size _ _ _ (builder_below HBK.out hb7) (by rw [HZ9.out, Lib.byteCells_length]; omega) (by have := hbk.size; have := hb7.size; omega)).mono ?_
        rintro e w8 ⟨rfl, hbu8, hb8, -⟩
        rw [HC9.out, ← Lib.byteCells_append, List.append_assoc, HKE.out] at hbu8
        have hst := HST.out
        rw [Int.toNat_natCast] at hst
        rw [← hst] at hbu8
        have HB8 : Hid (Lib.IsBuilderF 165 5 w3.heap.size w3.heap.size (Lib.byteCells (sgnB false ++ Lib.decDigits (gv (gs.drop (top - (k + 1)))).toNat)) w8) := by rw [HKE2.out]; exact .inr hbu8
        have hbw8 := (hbk.trans (hb7.mono hbk.size)).trans hb8
        have hl8 : (sgnB false ++ Lib.decDigits (gv (gs.drop (top - (k + 1)))).toNat).length ≤ 1000000100 + 9 * (k + 1) := by
          rw [HKE2.out, hst, ← List.append_assoc, List.length_append, pad_length]
          rw [HKE.out] at hlk
          omega
        clear hbu8 hst hb8 hb7 HST
        go_wp2
        go_roundw
        case rel => exact ⟨k + 1, by omega, by go_num, HB8, hbw8, hl8⟩
        case measure => simp [intOf]; omega
      · obtain rfl : k = top := by omega
        rw [Nat.sub_self] at HBK
        go_wp2_with fail
        refine (Go.Proofs.Tryz.Builder_String_any_k w3.heap.size w3.heap.size _ _ HBK.out hbk.size).mono ?_
        rintro e w8 ⟨rfl, -, hb8, -⟩
        have HF := hide (HEND.out w8 (hbk.trans hb8))
        go_wp2
        go_ret
        exact HF.out
  · go_wp2_with fail
    refine (Go.Proofs.Tryz.Builder_WriteByte_k w3.heap.size w3.heap.size [] 45 _ HBU.out (by decide) (by simp)).mono ?_
    rintro e wb ⟨rfl, hbu2, hbb2, -⟩
    have HBF : Hid (Lib.IsBuilderF 165 5 w3.heap.size w3.heap.size (Lib.byteCells (sgnB true)) wb) := .inr hbu2
    replace hbb := hbb.trans hbb2
    clear hbu2 hbb2
    have hctb := HCT.out _ hbb
    go_wp2_with fail
    clear hctb q0
    refine (HIT.out wb gn hbb (by omega) (by omega)).mono ?_
    rintro e w5 ⟨rfl, hb5⟩
    go_wp2_with fail
    refine (Go.Proofs.Tryz.Builder_WriteString_k w3.heap.size w3.heap.size _ _ _ (builder_below HBF.out hb5) (by simp [Lib.byteCells, sgnB, ByteArray.size]; omega) (by have := hbb.size; have := hb5.size; omega)).mono ?_
    rintro e w6 ⟨rfl, hbu6, hb6, -⟩
    have hs6 : (Lib.byteCells (sgnB true) ++ Lib.strCells ⟨(Lib.decDigits gn).toArray⟩) = Lib.byteCells (sgnB true ++ Lib.decDigits (gv (gs.drop (top - 0))).toNat) := by
      rw [Nat.sub_zero, HT0.out, Lib.byteCells_append]; rfl
    rw [hs6] at hbu6
    have HB6 := hide (show Lib.IsBuilderF 165 5 w3.heap.size w3.heap.size _ w6 from .inr hbu6)
    have hbw6 := (hbb.trans (hb5.mono hbb.size)).trans hb6
    have hll : (sgnB true ++ Lib.decDigits (gv (gs.drop (top - 0))).toNat).length ≤ 1000000100 := by rw [Nat.sub_zero, HT0.out]; simp [sgnB]; omega
    clear hbu6 hs6 hb6 hb5 HBF HBU hbb
    go_wp2
    go_loopw [25] (fun i wr => ∃ k : Nat, k ≤ top ∧ i = .int .i64 k ∧ Hid (Lib.IsBuilderF 165 5 w3.heap.size w3.heap.size (Lib.byteCells (sgnB true ++ Lib.decDigits (gv (gs.drop (top - k))).toNat)) wr) ∧ Below w3.heap.size w3 wr ∧ (sgnB true ++ Lib.decDigits (gv (gs.drop (top - k))).toNat).length ≤ 1000000100 + 9 * k) (fun i _ => top - (intOf i).toNat)
    case atStart => exact ⟨0, Nat.zero_le _, rfl, HB6, hbw6, hll⟩
    case round =>
      obtain ⟨k, hk, rfl, HBK, hbk, hlk⟩ := hrel
      by_cases hlt : k < top
      · obtain ⟨p, hp⟩ : ∃ p, p = top - 1 - k := ⟨_, rfl⟩
        have hP : (top : Int) - 1 - (k : Int) = (p : Int) := by omega
        have hpl : p < top + 1 := by omega
        have hcp := (hbk.cell (p := ⟨g, p, none⟩) hglt).trans (HC.out p hpl)
        have hg := HG.out p hpl
        have HST := hide (HTXT.out p (by have := HTop.out; omega))
        have HKE := hide (show top - k = p + 1 by omega)
        have HKE2 := hide (show top - (k + 1) = p by omega)
        obtain ⟨q, hq⟩ : ∃ q : Nat, gs.getD p 0 = (q : Int) := Int.eq_ofNat_of_zero_le hg.1
        rw [hq] at hcp hg HST
        clear hp hq
        go_wp2_with fail
        rw [show (1000000000 : Int) + (q : Int) = ((1000000000 + q : Nat) : Int) by omega]
        refine (HIT.out wr (1000000000 + q) hbk (by omega) (by omega)).mono ?_
        rintro e w7 ⟨rfl, hb7⟩
        have hdq := (decDigits_len (1000000000 + q)).2
        have HN9 := hide (nine q (by omega))
        obtain ⟨s, HSs⟩ : ∃ s : ByteArray, Hid (s = ⟨(Lib.decDigits (1000000000 + q)).toArray⟩) := ⟨_, rfl⟩
        have hs1 : 1 ≤ s.size := by rw [HSs.out]; simpa [ByteArray.size] using hdq
        rw [← HSs.out]
        have hcell9 : Lib.strCells (s.extract 1 s.size) = Lib.byteCells (pad 9 q) := by
          rw [Lib.strCells_eq, Lib.extract_to_end, HSs.out]
          show Lib.byteCells ((Lib.decDigits (1000000000 + q)).toArray.toList.drop 1) = _
          rw [List.toList_toArray, HN9.out]
        have hsz9 : (s.extract 1 s.size).size = 9 := by
          have := Lib.strCells_length (s.extract 1 s.size)
          rw [hcell9, Lib.byteCells_length, pad_length] at this
          exact this.symm
        have HC9 := hide hcell9; have HZ9 := hide hsz9
        clear hcell9 hsz9 hdq
        go_wp2_with fail
        refine (Go.Proofs.Tryz.Builder_WriteString_k w3.heap.size w3.heap.size _ _ _ (builder_below HBK.out hb7) (by rw [HZ9.out, Lib.byteCells_length]; omega) (by have := hbk.size; have := hb7.size; omega)).mono ?_
        rintro e w8 ⟨rfl, hbu8, hb8, -⟩
        rw [HC9.out, ← Lib.byteCells_append, List.append_assoc, HKE.out] at hbu8
        have hst := HST.out
        rw [Int.toNat_natCast] at hst
        rw [← hst] at hbu8
        have HB8 : Hid (Lib.IsBuilderF 165 5 w3.heap.size w3.heap.size (Lib.byteCells (sgnB true ++ Lib.decDigits (gv (gs.drop (top - (k + 1)))).toNat)) w8) := by rw [HKE2.out]; exact .inr hbu8
        have hbw8 := (hbk.trans (hb7.mono hbk.size)).trans hb8
        have hl8 : (sgnB true ++ Lib.decDigits (gv (gs.drop (top - (k + 1)))).toNat).length ≤ 1000000100 + 9 * (k + 1) := by
          rw [HKE2.out, hst, ← List.append_assoc, List.length_append, pad_length]
          rw [HKE.out] at hlk
          omega
        clear hbu8 hst hb8 hb7 HST
        go_wp2
        go_roundw
        case rel => exact ⟨k + 1, by omega, by go_num, HB8, hbw8, hl8⟩
        case measure => simp [intOf]; omega
      · obtain rfl : k = top := by omega
        rw [Nat.sub_self] at HBK
        go_wp2_with fail
        refine (Go.Proofs.Tryz.Builder_String_any_k w3.heap.size w3.heap.size _ _ HBK.out hbk.size).mono ?_
        rintro e w8 ⟨rfl, -, hb8, -⟩
        have HF := hide (HEND.out w8 (hbk.trans hb8))
        go_wp2
        go_ret
        exact HF.out

end Go.Proofs.YtdedolkgcdlmeaaGreatDoor
