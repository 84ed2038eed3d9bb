/- The walk that makes a number's text, over what strconv.Itoa answers. -/
import Derived.Test.YtmeefloajhffbaaDoorText
import Derived.Lib.IndexBytes
import Derived.Shelf.LaysM
import Derived.Shelf.Strconv.Itoa3
import Derived.Test.YtmeefloajhffbaaDoorProg

namespace Go.Proofs.YtmeefloajhffbaaDoor
open Go.RowKit Limbs

/-- what strconv.Itoa is asked for here -/
def ItoaOk (w : World) (z : Int) : Prop :=
  ∀ (W : World) (k : Nat), Below w.heap.size w W → k < 10000000000 → (k < 100 ∨ 100 ≤ z.natAbs) →
    Calls Tryd.prog 29 #[.int .i64 k] W fun e w' => e = .returned (.string ⟨(Lib.decDigits k).toArray⟩) ∧ Below W.heap.size W w'

/-- The sign ahead. -/
def sgnB (neg : Bool) : List UInt8 := if neg = true then [45] else []

theorem gv_low {gs : List Int} (h : ∀ g ∈ gs, 0 ≤ g ∧ g < 1000000000) (top : Nat) (hl : gs.length = top + 1) : gp top * gs.getD top 0 ≤ gv gs := by
  induction gs generalizing top with
  | nil => simp at hl
  | cons x xs ih =>
    have hx := h x (by simp)
    have hxs : ∀ g ∈ xs, 0 ≤ g ∧ g < 1000000000 := fun g hg => h g (by simp [hg])
    cases top with
    | zero =>
      have := gv_nonneg hxs
      simp [gv, gp]; omega
    | succ top =>
      have := ih hxs top (by simpa using hl)
      rw [List.getD_cons_succ]
      simp only [gv, gp]
      rw [Int.mul_assoc]
      omega

theorem builder_below {T e : TypeId} {B b : Nat} {bs : List Value} {w w' : World} (h : Lib.IsBuilderF T e B b bs w) (hb : Below w.heap.size w w') : Lib.IsBuilderF T e B b bs w' := by
  have hg : w.grownBy w' none := ⟨hb.os, hb.tape, hb.output, hb.size, fun k hk _ => hb.block k hk⟩
  have key : ∀ p, Lib.BuilderAtF T e B b p bs w → Lib.BuilderAtF T e B b p bs w' := fun p hp => by
    have hlt := hp.lt
    obtain ⟨hB, v, hbk, hown, hne⟩ := hp
    exact ⟨hB, v, by rw [hb.block b hlt]; exact hbk, hown.kept hg (by cases v.ownBlock <;> simp), hne⟩
  exact h.elim (fun x => .inl (key _ x)) (fun x => .inr (key _ x))

set_option maxRecDepth 100000 in
set_option maxHeartbeats 1000000 in
theorem text_gen (w : World) (va : Value) (z : Int) (n : Nat) (ha : NumL w va z n) (hn : n ≤ 900000) (hz : z ≠ 0) (hIt : ItoaOk w z) :
    Calls Tryd.prog 7 #[va] w fun e w' => TextPost w z e w' := by
  have HN := hide ha
  obtain ⟨an, sa, a, rfl, hla, nra, hza, hx, hna⟩ := ha
  have HA := hide hla
  obtain ⟨ao, acap, rfl, hac, halen, halb, -⟩ := hla
  have hane : a.length ≠ 0 := fun h => hz (by rw [hx, (lv_zero_iff halb nra).2 h]; split <;> rfl)
  have hpos := lv_pos halb nra hane
  have HX := hide hx; clear hx
  have HI := hide hIt; clear hIt
  have hd0 : decide (z = 0) = false := decide_eq_false hz
  go_enter Tryd.func7, Tryd.ntmps7
  go_wp2_with fail
  have hB := box_new w (.bool an) (.slice ao a.length acap) 26 w.heap.size rfl
  have hb0 : Below w.heap.size w (w.alloc (.cells #[.bool an, .slice ao a.length acap] 26)) := (Below.refl _ _).alloc (Nat.le_refl _) _
  have hs0 : w.heap.size < (w.alloc (.cells #[.bool an, .slice ao a.length acap] 26)).heap.size := by simp
  generalize w.alloc (.cells #[.bool an, .slice ao a.length acap] 26) = W at *
  refine (zero_any W _ z n (HN.out.below hb0 (Nat.le_refl _))).mono ?_
  rintro e w2 ⟨rfl, hb2⟩
  rw [hd0]
  replace hB := hB.later hb2 hs0
  replace hb0 := hb0.trans (hb2.mono hb0.size)
  have hs2 := Nat.lt_of_lt_of_le hs0 hb2.size
  clear hb2 hs0
  obtain ⟨p0, p1, -, -⟩ := hB
  go_wp2_with fail
  refine (digitGroups_any w2 _ a (HA.out.below hb0 (Nat.le_refl _)) nra).mono ?_
  rintro e w3 ⟨v, gs, rfl, hown, hb3, hgv, hg9, hlast, hgl⟩
  have hgne : gs.length ≠ 0 := fun h => by rw [List.eq_nil_of_length_eq_zero h] at hgv; simp [gv] at hgv; omega
  replace hlast := hlast.resolve_left hgne
  obtain ⟨top, htop⟩ : ∃ top, gs.length = top + 1 := ⟨gs.length - 1, by omega⟩
  obtain ⟨g, cap, rfl, hgb, hglt⟩ := hown.form (by omega)
  have hcells := fun i hi => hown.cellAt i hi
  rw [htop] at hcells hgl hlast ⊢
  rw [Nat.add_sub_cancel] at hlast
  have HC : Hid (∀ i, i < top + 1 → w3.cell? ⟨g, i, none⟩ = some (.int .i64 (gs.getD i 0))) := fun i hi => by
    rw [hcells i (by omega), List.getElem?_map, List.getElem?_eq_getElem (by omega)]
    simp [List.getD_eq_getElem?_getD, show i < gs.length by omega]
  clear hcells hown
  have q0 : w3.cell? ⟨w.heap.size, 0, none⟩ = some (.bool an) := (hb3.cell (p := ⟨w.heap.size, 0, none⟩) hs2).trans p0
  have hbw3 := hb0.trans (hb3.mono hb0.size)
  have HV := hide hgv; have HG9 := hide hg9; have HLast := hide hlast; have HTop := hide htop
  clear hgv hg9 hlast htop p0 p1 hb3
  have hs3 : w.heap.size < w3.heap.size := by have := hbw3.size; omega
  have hct := HC.out top (by omega)
  obtain ⟨gt, HGT⟩ : ∃ gt, Hid (gt = gs.getD top 0) := ⟨_, rfl⟩
  rw [← HGT.out] at hct
  have hgt : 0 < gt ∧ gt < 1000000000 := by
    have := HG9.out (gs.getD top 0) (by rw [List.getD_eq_getElem?_getD, List.getElem?_eq_getElem (by have := HTop.out; omega)]; exact List.getElem_mem _)
    have h2 := HLast.out
    rw [HGT.out]; omega
  have hbu := Lib.IsBuilderF.of (Lib.fresh_isBuilder 62 5 w3)
  have hbb : Below w3.heap.size w3 (w3.alloc (.cells #[.pointer none, .slice none 0 0] 62)) := (Below.refl _ _).alloc (Nat.le_refl _) _
  have HBU := hide hbu
  clear hbu
  have HEND : Hid (∀ w9, Below w3.heap.size w3 w9 → TextPost w z (.returned (.string ⟨(sgnB an ++ Lib.decDigits (gv (gs.drop 0)).toNat).toArray⟩)) w9) := fun w9 h9 => by
    refine ⟨?_, hbw3.trans (h9.mono hbw3.size)⟩
    have e : txt z = sgnB an ++ Lib.decDigits (gv (gs.drop 0)).toNat := by
      rw [List.drop_zero, ← HV.out]
      unfold txt sgnB Lib.itoa
      have := HX.out
      cases an
      · simp at this ⊢; rw [this, if_neg (by omega)]
      · simp at this ⊢; rw [this, if_pos (by omega)]; simp
        congr 1; omega
    rw [e]
  have HIT : Hid (∀ (W : World) (k : Nat), Below w3.heap.size w3 W → k < 10000000000 → (k < 100 ∨ top ≠ 0 ∨ 100 ≤ gt) → Calls Tryd.prog 29 #[.int .i64 k] W fun e w' => e = .returned (.string ⟨(Lib.decDigits k).toArray⟩) ∧ Below W.heap.size W w') := fun W k hW hk hc => by
    refine HI.out W k (hbw3.trans (hW.mono hbw3.size)) hk ?_
    rcases hc with hc | hc
    · exact .inl hc
    · right
      have h1 := gv_low HG9.out top HTop.out
      rw [← HGT.out, ← HV.out] at h1
      have h2 : 100 ≤ lv a := by
        rcases hc with hc | hc
        · have h3 := gp_mono (m := 1) (n := top) (by omega)
          have h4 : gp top * 1 ≤ gp top * gt := Int.mul_le_mul_of_nonneg_left (by omega) (by have := gp_pos top; omega)
          simp [gp] at h3
          omega
        · have h3 := gp_pos top
          have h4 : 1 * gt ≤ gp top * gt := Int.mul_le_mul_of_nonneg_right (by omega) (by omega)
          omega
      have := HX.out
      split at this <;> omega
  have HTXT : Hid (∀ p, p + 1 < gs.length → Lib.decDigits (gv (gs.drop p)).toNat = Lib.decDigits (gv (gs.drop (p + 1))).toNat ++ pad 9 (gs.getD p 0).toNat) := fun p hp => text_step HG9.out (by rw [HTop.out, Nat.add_sub_cancel]; exact HLast.out) hp
  have HT0 : Hid (Lib.decDigits (gv (gs.drop top)).toNat = Lib.decDigits gt.toNat) := by
    show _ = _
    rw [drop_cons_getD gs top (by have := HTop.out; omega), List.drop_eq_nil_of_le (by have := HTop.out; omega), ← HGT.out]
    simp [gv]
  have HG : Hid (∀ p, p < top + 1 → 0 ≤ gs.getD p 0 ∧ gs.getD p 0 < 1000000000) := fun p hp => HG9.out _ (by rw [List.getD_eq_getElem?_getD, List.getElem?_eq_getElem (by have := HTop.out; omega)]; exact List.getElem_mem _)
  obtain ⟨gn, hgn⟩ : ∃ gn : Nat, gt = (gn : Int) := Int.eq_ofNat_of_zero_le (by omega)
  subst hgn
  clear HI HN HA HX HGT HV HG9 HLast
  have hgn1 : gn < 1000000000 := by omega
  have hdl := (decDigits_len gn).1
  have hctA : ∀ W', Below w3.heap.size w3 W' → W'.cell? ⟨g, top, none⟩ = some (.int .i64 (gn : Int)) := fun W' h => (h.cell (p := ⟨g, top, none⟩) hglt).trans hct
  have HCT := hide hctA
  clear hctA hct
  cases an
  · have HBF : Hid (Lib.IsBuilderF 62 5 w3.heap.size w3.heap.size (Lib.byteCells (sgnB false)) (w3.alloc (.cells #[.pointer none, .slice none 0 0] 62))) := HBU.out
    have hctb := HCT.out _ hbb
    go_wp2_with fail
    generalize w3.alloc (.cells #[.pointer none, .slice none 0 0] 62) = wb at *
    clear hctb q0
    refine (HIT.out wb gn hbb (by omega) (by omega)).mono ?_
    rintro e w5 ⟨rfl, hb5⟩
    go_wp2_with fail
    refine (Go.Proofs.Tryd.Builder_WriteString_k w3.heap.size w3.heap.size _ _ _ (builder_below HBF.out hb5) (by simp [Lib.byteCells, sgnB, ByteArray.size]; omega) (by have := hbb.size; have := hb5.size; omega)).mono ?_
    rintro e w6 ⟨rfl, hbu6, hb6, -⟩
    have hs6 : (Lib.byteCells (sgnB false) ++ Lib.strCells ⟨(Lib.decDigits gn).toArray⟩) = Lib.byteCells (sgnB false ++ Lib.decDigits (gv (gs.drop (top - 0))).toNat) := by
      rw [Nat.sub_zero, HT0.out, Lib.byteCells_append]; rfl
    rw [hs6] at hbu6
    have HB6 := hide (show Lib.IsBuilderF 62 5 w3.heap.size w3.heap.size _ w6 from .inr hbu6)
    have hbw6 := (hbb.trans (hb5.mono hbb.size)).trans hb6
    have hll : (sgnB false ++ Lib.decDigits (gv (gs.drop (top - 0))).toNat).length ≤ 1000000100 := by rw [Nat.sub_zero, HT0.out]; simp [sgnB]; omega
    clear hbu6 hs6 hb6 hb5 HBF HBU hbb
    go_wp2
    go_loopw [25] (fun i wr => ∃ k : Nat, k ≤ top ∧ i = .int .i64 k ∧ Hid (Lib.IsBuilderF 62 5 w3.heap.size w3.heap.size (Lib.byteCells (sgnB false ++ Lib.decDigits (gv (gs.drop (top - k))).toNat)) wr) ∧ Below w3.heap.size w3 wr ∧ (sgnB false ++ Lib.decDigits (gv (gs.drop (top - k))).toNat).length ≤ 1000000100 + 9 * k) (fun i _ => top - (intOf i).toNat)
    case atStart => exact ⟨0, Nat.zero_le _, rfl, HB6, hbw6, hll⟩
    case round =>
      obtain ⟨k, hk, rfl, HBK, hbk, hlk⟩ := hrel
      by_cases hlt : k < top
      · obtain ⟨p, hp⟩ : ∃ p, p = top - 1 - k := ⟨_, rfl⟩
        have hP : (top : Int) - 1 - (k : Int) = (p : Int) := by omega
        have hpl : p < top + 1 := by omega
        have hcp := (hbk.cell (p := ⟨g, p, none⟩) hglt).trans (HC.out p hpl)
        have hg := HG.out p hpl
        have HST := hide (HTXT.out p (by have := HTop.out; omega))
        have HKE := hide (show top - k = p + 1 by omega)
        have HKE2 := hide (show top - (k + 1) = p by omega)
        obtain ⟨q, hq⟩ : ∃ q : Nat, gs.getD p 0 = (q : Int) := Int.eq_ofNat_of_zero_le hg.1
        rw [hq] at hcp hg HST
        clear hp hq
        go_wp2_with fail
        rw [show (1000000000 : Int) + (q : Int) = ((1000000000 + q : Nat) : Int) by omega]
        refine (HIT.out wr (1000000000 + q) hbk (by omega) (by omega)).mono ?_
        rintro e w7 ⟨rfl, hb7⟩
        have hdq := (decDigits_len (1000000000 + q)).2
        have HN9 := hide (nine q (by omega))
        obtain ⟨s, HSs⟩ : ∃ s : ByteArray, Hid (s = ⟨(Lib.decDigits (1000000000 + q)).toArray⟩) := ⟨_, rfl⟩
        have hs1 : 1 ≤ s.size := by rw [HSs.out]; simpa [ByteArray.size] using hdq
        rw [← HSs.out]
        have hcell9 : Lib.strCells (s.extract 1 s.size) = Lib.byteCells (pad 9 q) := by
          rw [Lib.strCells_eq, Lib.extract_to_end, HSs.out]
          show Lib.byteCells ((Lib.decDigits (1000000000 + q)).toArray.toList.drop 1) = _
          rw [List.toList_toArray, HN9.out]
        have hsz9 : (s.extract 1 s.size).size = 9 := by
          have := Lib.strCells_length (s.extract 1 s.size)
          rw [hcell9, Lib.byteCells_length, pad_length] at this
          exact this.symm
        have HC9 := hide hcell9; have HZ9 := hide hsz9
        clear hcell9 hsz9 hdq
        go_wp2_with fail
        refine (Go.Proofs.Tryd.Builder_WriteString_k w3.heap.size w3.heap.size _ _ _ (builder_below HBK.out hb7) (by rw [HZ9.out, Lib.byteCells_length]; omega) (by have := hbk.size; have := hb7.size; omega)).mono ?_
        rintro e w8 ⟨rfl, hbu8, hb8, -⟩
        rw [HC9.out, ← Lib.byteCells_append, List.append_assoc, HKE.out] at hbu8
        have hst := HST.out
        rw [Int.toNat_natCast] at hst
        rw [← hst] at hbu8
        have HB8 : Hid (Lib.IsBuilderF 62 5 w3.heap.size w3.heap.size (Lib.byteCells (sgnB false ++ Lib.decDigits (gv (gs.drop (top - (k + 1)))).toNat)) w8) := by rw [HKE2.out]; exact .inr hbu8
        have hbw8 := (hbk.trans (hb7.mono hbk.size)).trans hb8
        have hl8 : (sgnB false ++ Lib.decDigits (gv (gs.drop (top - (k + 1)))).toNat).length ≤ 1000000100 + 9 * (k + 1) := by
          rw [HKE2.out, hst, ← List.append_assoc, List.length_append, pad_length]
          rw [HKE.out] at hlk
          omega
        clear hbu8 hst hb8 hb7 HST
        go_wp2
        go_roundw
        case rel => exact ⟨k + 1, by omega, by go_num, HB8, hbw8, hl8⟩
        case measure => simp [intOf]; omega
      · obtain rfl : k = top := by omega
        rw [Nat.sub_self] at HBK
        go_wp2_with fail
        refine (Go.Proofs.Tryd.Builder_String_any_k w3.heap.size w3.heap.size _ _ HBK.out hbk.size).mono ?_
        rintro e w8 ⟨rfl, -, hb8, -⟩
        have HF := hide (HEND.out w8 (hbk.trans hb8))
        go_wp2
        go_ret
        exact HF.out
  · go_wp2_with fail
    refine (Go.Proofs.Tryd.Builder_WriteByte_k w3.heap.size w3.heap.size [] 45 _ HBU.out (by decide) (by simp)).mono ?_
    rintro e wb ⟨rfl, hbu2, hbb2, -⟩
    have HBF : Hid (Lib.IsBuilderF 62 5 w3.heap.size w3.heap.size (Lib.byteCells (sgnB true)) wb) := .inr hbu2
    replace hbb := hbb.trans hbb2
    clear hbu2 hbb2
    have hctb := HCT.out _ hbb
    go_wp2_with fail
    clear hctb q0
    refine (HIT.out wb gn hbb (by omega) (by omega)).mono ?_
    rintro e w5 ⟨rfl, hb5⟩
    go_wp2_with fail
    refine (Go.Proofs.Tryd.Builder_WriteString_k w3.heap.size w3.heap.size _ _ _ (builder_below HBF.out hb5) (by simp [Lib.byteCells, sgnB, ByteArray.size]; omega) (by have := hbb.size; have := hb5.size; omega)).mono ?_
    rintro e w6 ⟨rfl, hbu6, hb6, -⟩
    have hs6 : (Lib.byteCells (sgnB true) ++ Lib.strCells ⟨(Lib.decDigits gn).toArray⟩) = Lib.byteCells (sgnB true ++ Lib.decDigits (gv (gs.drop (top - 0))).toNat) := by
      rw [Nat.sub_zero, HT0.out, Lib.byteCells_append]; rfl
    rw [hs6] at hbu6
    have HB6 := hide (show Lib.IsBuilderF 62 5 w3.heap.size w3.heap.size _ w6 from .inr hbu6)
    have hbw6 := (hbb.trans (hb5.mono hbb.size)).trans hb6
    have hll : (sgnB true ++ Lib.decDigits (gv (gs.drop (top - 0))).toNat).length ≤ 1000000100 := by rw [Nat.sub_zero, HT0.out]; simp [sgnB]; omega
    clear hbu6 hs6 hb6 hb5 HBF HBU hbb
    go_wp2
    go_loopw [25] (fun i wr => ∃ k : Nat, k ≤ top ∧ i = .int .i64 k ∧ Hid (Lib.IsBuilderF 62 5 w3.heap.size w3.heap.size (Lib.byteCells (sgnB true ++ Lib.decDigits (gv (gs.drop (top - k))).toNat)) wr) ∧ Below w3.heap.size w3 wr ∧ (sgnB true ++ Lib.decDigits (gv (gs.drop (top - k))).toNat).length ≤ 1000000100 + 9 * k) (fun i _ => top - (intOf i).toNat)
    case atStart => exact ⟨0, Nat.zero_le _, rfl, HB6, hbw6, hll⟩
    case round =>
      obtain ⟨k, hk, rfl, HBK, hbk, hlk⟩ := hrel
      by_cases hlt : k < top
      · obtain ⟨p, hp⟩ : ∃ p, p = top - 1 - k := ⟨_, rfl⟩
        have hP : (top : Int) - 1 - (k : Int) = (p : Int) := by omega
        have hpl : p < top + 1 := by omega
        have hcp := (hbk.cell (p := ⟨g, p, none⟩) hglt).trans (HC.out p hpl)
        have hg := HG.out p hpl
        have HST := hide (HTXT.out p (by have := HTop.out; omega))
        have HKE := hide (show top - k = p + 1 by omega)
        have HKE2 := hide (show top - (k + 1) = p by omega)
        obtain ⟨q, hq⟩ : ∃ q : Nat, gs.getD p 0 = (q : Int) := Int.eq_ofNat_of_zero_le hg.1
        rw [hq] at hcp hg HST
        clear hp hq
        go_wp2_with fail
        rw [show (1000000000 : Int) + (q : Int) = ((1000000000 + q : Nat) : Int) by omega]
        refine (HIT.out wr (1000000000 + q) hbk (by omega) (by omega)).mono ?_
        rintro e w7 ⟨rfl, hb7⟩
        have hdq := (decDigits_len (1000000000 + q)).2
        have HN9 := hide (nine q (by omega))
        obtain ⟨s, HSs⟩ : ∃ s : ByteArray, Hid (s = ⟨(Lib.decDigits (1000000000 + q)).toArray⟩) := ⟨_, rfl⟩
        have hs1 : 1 ≤ s.size := by rw [HSs.out]; simpa [ByteArray.size] using hdq
        rw [← HSs.out]
        have hcell9 : Lib.strCells (s.extract 1 s.size) = Lib.byteCells (pad 9 q) := by
          rw [Lib.strCells_eq, Lib.extract_to_end, HSs.out]
          show Lib.byteCells ((Lib.decDigits (1000000000 + q)).toArray.toList.drop 1) = _
          rw [List.toList_toArray, HN9.out]
        have hsz9 : (s.extract 1 s.size).size = 9 := by
          have := Lib.strCells_length (s.extract 1 s.size)
          rw [hcell9, Lib.byteCells_length, pad_length] at this
          exact this.symm
        have HC9 := hide hcell9; have HZ9 := hide hsz9
        clear hcell9 hsz9 hdq
        go_wp2_with fail
        refine (Go.Proofs.Tryd.Builder_WriteString_k w3.heap.size w3.heap.size _ _ _ (builder_below HBK.out hb7) (by rw [HZ9.out, Lib.byteCells_length]; omega) (by have := hbk.size; have := hb7.size; omega)).mono ?_
        rintro e w8 ⟨rfl, hbu8, hb8, -⟩
        rw [HC9.out, ← Lib.byteCells_append, List.append_assoc, HKE.out] at hbu8
        have hst := HST.out
        rw [Int.toNat_natCast] at hst
        rw [← hst] at hbu8
        have HB8 : Hid (Lib.IsBuilderF 62 5 w3.heap.size w3.heap.size (Lib.byteCells (sgnB true ++ Lib.decDigits (gv (gs.drop (top - (k + 1)))).toNat)) w8) := by rw [HKE2.out]; exact .inr hbu8
        have hbw8 := (hbk.trans (hb7.mono hbk.size)).trans hb8
        have hl8 : (sgnB true ++ Lib.decDigits (gv (gs.drop (top - (k + 1)))).toNat).length ≤ 1000000100 + 9 * (k + 1) := by
          rw [HKE2.out, hst, ← List.append_assoc, List.length_append, pad_length]
          rw [HKE.out] at hlk
          omega
        clear hbu8 hst hb8 hb7 HST
        go_wp2
        go_roundw
        case rel => exact ⟨k + 1, by omega, by go_num, HB8, hbw8, hl8⟩
        case measure => simp [intOf]; omega
      · obtain rfl : k = top := by omega
        rw [Nat.sub_self] at HBK
        go_wp2_with fail
        refine (Go.Proofs.Tryd.Builder_String_any_k w3.heap.size w3.heap.size _ _ HBK.out hbk.size).mono ?_
        rintro e w8 ⟨rfl, -, hb8, -⟩
        have HF := hide (HEND.out w8 (hbk.trans hb8))
        go_wp2
        go_ret
        exact HF.out

end Go.Proofs.YtmeefloajhffbaaDoor

/- strconv.Itoa in general, laid at this translation. -/
namespace Go.Proofs
open Go.Shelf Go.RowKit Go.Sort
def Tryd.laysM171_ren : Go.Shelf.Ren := ⟨fun | 171 => 29 | 243 => 51 | 246 => 70 | 283 => 80 | 284 => 81 | 285 => 82 | 286 => 83 | 129 => 87 | 317 => 86 | 318 => 88 | 319 => 89 | 320 => 90 | 337 => 91 | 338 => 92 | n => n, fun | 3 => 3 | 9 => 9 | 2 => 2 | 4 => 4 | 171 => 113 | 0 => 0 | 53 => 71 | 37 => 60 | 5 => 5 | 173 => 116 | 212 => 122 | 51 => 69 | 20 => 20 | 213 => 123 | 46 => 73 | 232 => 125 | 233 => 126 | n => n, fun | 17 => 1 | 18 => 2 | 19 => 3 | n => n⟩
theorem Tryd.laysM171 : Go.Proofs.LaysM.n171 Tryd.prog Tryd.laysM171_ren := {
  mixed := by kernel_rfl
  f129 := Tryd.func87.trans (congrArg some (by kernel_rfl))
  f171 := Tryd.func29.trans (congrArg some (by kernel_rfl))
  f243 := Tryd.func51.trans (congrArg some (by kernel_rfl))
  f246 := Tryd.func70.trans (congrArg some (by kernel_rfl))
  f283 := Tryd.func80.trans (congrArg some (by kernel_rfl))
  f284 := Tryd.func81.trans (congrArg some (by kernel_rfl))
  f285 := Tryd.func82.trans (congrArg some (by kernel_rfl))
  f286 := Tryd.func83.trans (congrArg some (by kernel_rfl))
  f317 := Tryd.func86.trans (congrArg some (by kernel_rfl))
  f318 := Tryd.func88.trans (congrArg some (by kernel_rfl))
  f319 := Tryd.func89.trans (congrArg some (by kernel_rfl))
  f320 := Tryd.func90.trans (congrArg some (by kernel_rfl))
  f337 := Tryd.func91.trans (congrArg some (by kernel_rfl))
  f338 := Tryd.func92.trans (congrArg some (by kernel_rfl))
  t0 := Tryd.underlying0
  a0 := Tryd.isAgg0
  z0 := Tryd.sizeOf0
  v0 := Tryd.zeroValue0
  t2 := Tryd.underlying2
  a2 := Tryd.isAgg2
  z2 := Tryd.sizeOf2
  v2 := Tryd.zeroValue2
  t3 := Tryd.underlying3
  a3 := Tryd.isAgg3
  z3 := Tryd.sizeOf3
  v3 := Tryd.zeroValue3
  t4 := Tryd.underlying4
  a4 := Tryd.isAgg4
  z4 := Tryd.sizeOf4
  v4 := Tryd.zeroValue4
  t5 := Tryd.underlying5
  a5 := Tryd.isAgg5
  z5 := Tryd.sizeOf5
  v5 := Tryd.zeroValue5
  t9 := Tryd.underlying9
  a9 := Tryd.isAgg9
  z9 := Tryd.sizeOf9
  v9 := Tryd.zeroValue9
  t20 := Tryd.underlying20
  a20 := Tryd.isAgg20
  z20 := Tryd.sizeOf20
  v20 := Tryd.zeroValue20
  t37 := Tryd.underlying60
  a37 := Tryd.isAgg60
  z37 := Tryd.sizeOf60
  v37 := Tryd.zeroValue60
  t46 := Tryd.underlying73
  a46 := Tryd.isAgg73
  z46 := Tryd.sizeOf73
  v46 := Tryd.zeroValue73
  t51 := Tryd.underlying69
  a51 := Tryd.isAgg69
  z51 := Tryd.sizeOf69
  v51 := Tryd.zeroValue69
  t53 := Tryd.underlying71
  a53 := Tryd.isAgg71
  z53 := Tryd.sizeOf71
  v53 := Tryd.zeroValue71
  t171 := Tryd.underlying113
  a171 := Tryd.isAgg113
  z171 := Tryd.sizeOf113
  v171 := Tryd.zeroValue113
  t173 := Tryd.underlying116
  a173 := Tryd.isAgg116
  z173 := Tryd.sizeOf116
  v173 := Tryd.zeroValue116
  t212 := Tryd.underlying122
  a212 := Tryd.isAgg122
  z212 := Tryd.sizeOf122
  v212 := Tryd.zeroValue122
  t213 := Tryd.underlying123
  a213 := Tryd.isAgg123
  z213 := Tryd.sizeOf123
  t232 := Tryd.underlying125
  a232 := Tryd.isAgg125
  z232 := Tryd.sizeOf125
  v232 := Tryd.zeroValue125
  t233 := Tryd.underlying126
  a233 := Tryd.isAgg126
  z233 := Tryd.sizeOf126
  v233 := Tryd.zeroValue126
  g17 := by kernel_rfl
  g18 := by kernel_rfl
  g19 := by kernel_rfl
  i0 := by kernel_rfl
  i2 := by kernel_rfl
  i3 := by kernel_rfl
  i4 := by kernel_rfl
  i5 := by kernel_rfl
  i9 := by kernel_rfl
  i20 := by kernel_rfl
  i37 := by kernel_rfl
  i46 := by kernel_rfl
  i51 := by kernel_rfl
  i53 := by kernel_rfl
  i171 := by kernel_rfl
  i173 := by kernel_rfl
  i212 := by kernel_rfl
  i232 := by kernel_rfl
  i233 := by kernel_rfl
  m17 := by kernel_rfl
  m18 := by kernel_rfl
  m19 := by kernel_rfl }
open Go.RowKit Go.Sort Go.Lib in
theorem Tryd.strconv_Itoa (n : Int) (h0 : -9223372036854775808 ≤ n) (h1 : n ≤ 9223372036854775807) (w : World) (htab : Lib.TabIs Tryd.prog w "internal/strconv.uint64pow10" .u64 Lib.pow10Tab) :
    Calls Tryd.prog 29 #[.int .i64 n] w fun e w' => e = .returned (.string ⟨(Lib.itoa n).toArray⟩) ∧ ∃ k os, w' = grow (w.drewN k) os := Any.strconv_Itoa Tryd.laysM171 n h0 h1 w htab
end Go.Proofs

/- The text of a number of any size, where the library's table of powers of ten is laid. -/
namespace Go.Proofs.YtmeefloajhffbaaDoor
open Go.RowKit Limbs

/-- The table is laid. -/
def Tab (w : World) : Prop := Lib.TabIs Tryd.prog w "internal/strconv.uint64pow10" .u64 Lib.pow10Tab

theorem Tab.below {w w' : World} (h : Tab w) (hb : Below w.heap.size w w') : Tab w' := by
  unfold Tab Lib.TabIs World.var? at h ⊢
  obtain ⟨g, hg⟩ : ∃ g, Tryd.prog.globalNamed "internal/strconv.uint64pow10" = some g := by
    cases hg : Tryd.prog.globalNamed "internal/strconv.uint64pow10" with
    | none => rw [hg] at h; cases h
    | some g => exact ⟨g, rfl⟩
  rw [hg] at h ⊢
  simp only [Option.bind_some] at h ⊢
  have hlt : g < w.heap.size := by
    rcases Nat.lt_or_ge g w.heap.size with h' | h'
    · exact h'
    · rw [Array.getElem?_eq_none h'] at h; cases h
  rw [hb.block g hlt]
  exact h

theorem itoa_ok {w : World} (ht : Tab w) (z : Int) : ItoaOk w z := fun W k hb hk _ => by
  refine (Go.Proofs.Tryd.strconv_Itoa k (by omega) (by omega) W (ht.below hb)).mono ?_
  rintro e w' ⟨rfl, n, os, rfl⟩
  refine ⟨by rw [Lib.itoa_nonneg], rfl, rfl, rfl, by simp [Go.Sort.grow], fun j hj => ?_⟩
  simp [Go.Sort.grow, Array.getElem?_append, hj]

theorem text_any (w : World) (va : Value) (z : Int) (n : Nat) (ht : Tab w) (ha : NumL w va z n) (hn : n ≤ 900000) (hz : z ≠ 0) :
    Calls Tryd.prog 7 #[va] w fun e w' => TextPost w z e w' := text_gen w va z n ha hn hz (itoa_ok ht z)

end Go.Proofs.YtmeefloajhffbaaDoor

/- TopSmith: the closed fact; the whole way. -/
namespace Go.Proofs.YtmeefloajhffbaaDoor
open Go.RowKit Limbs

theorem closed_equ : Equ 2 (ent [[2, 0], [0, 3]]) (dgM fun i => ([1, 6] : List Int).getD i 0) := by
  rw [dg_blk [1, 6] (k := 0) (h := 1) (by decide)]
  refine Equ.trans (Equ.of (B := blkM (fun i => ([1, 6] : List Int).getD i 0) 0 1 2 0 0 3) fun i j hi hj => ?_) (chain_equ (k := 0) (h := 1) (by decide) (by decide) (x := -1) (y := 1) (p := 2) (q := 3) rfl rfl rfl rfl)
  match i, j, hi, hj with
  | 0, 0, _, _ => decide
  | 0, 1, _, _ => decide
  | 1, 0, _, _ => decide
  | 1, 1, _, _ => decide

theorem closed_smith {hs fs : List (List Int)} {p : Nat → Nat} {ys : List Int} {D : Int} (F : FormL 2 hs p) (a : Alikes 2 (InL hs) (InL [[2, 0], [0, 3]])) (T : TurnF 2 hs fs) (C : ChI hs.length ys D (ent fs) hs.length (hs.length + 1)) : ys = [1, 6] := by
  refine inv_one (fun i hi => C.pos i (by rw [← C.len]; exact hi)) (fun i hi => ?_) (fun i j h1 h2 => C.chain i (by rw [← C.len]; omega) j h1 (by rw [← C.len]; exact h2)) (fun i j h1 h2 => ?_) fun k g => ?_
  · match i, hi with
    | 0, _ => decide
    | 1, _ => decide
  · have h3 : j < 2 := h2
    obtain ⟨rfl, rfl⟩ : i = 0 ∧ j = 1 := by omega
    exact ⟨6, rfl⟩
  · have h1 := smith_dv F a (fun us h => by simp only [List.mem_cons, List.mem_nil_iff, or_false] at h; rcases h with rfl | rfl <;> rfl) T C k g
    exact h1.symm.trans ⟨fun h => Dv.equ (r := 2) h closed_equ, fun h => Dv.equ (r := 2) h closed_equ.symm⟩

set_option linter.unusedSimpArgs false in
set_option maxRecDepth 100000 in
set_option maxHeartbeats 6400000 in
theorem topSmith_any (w : World) (ht : Tab w) (vm : Value) (nI : Int) {rss : List (List Raw)} (hC : MatC w vm rss) :
    Calls Tryd.prog 4 #[vm, .int .i64 nI] w fun e w' => e = .returned (.bool true) ∧ Below w.heap.size w w' := by
  have HT := hide ht; have HC := hide hC
  obtain ⟨mo, mcap, rfl, -, -, -⟩ := hC
  clear ht
  obtain ⟨r, hr⟩ : ∃ r : Bool, r = true ↔ LightP rss nI := by
    by_cases h : LightP rss nI
    · exact ⟨true, fun _ => h, fun _ => rfl⟩
    · exact ⟨false, fun h' => (by cases h'), fun h' => absurd h' h⟩
  have HR := hide hr
  clear hr
  have HO1 := hide (ofV_any _ _ [2, 0] (row_twoD w 2 0 (by decide) (by decide)) (by decide))
  have HB1 := hide (below_new w (.cells #[.int .i64 2, .int .i64 0] 3))
  go_enter Tryd.func4, Tryd.ntmps4
  go_wp2_with fail
  refine HO1.out.mono ?_
  rintro e w1 ⟨P1, rfl, ho1⟩
  have hb1 := HB1.out.trans (ho1.below.mono (by simp))
  have HV1 := hide ho1.vec
  have HBw1 := hide hb1
  rw [show ([2, 0] : List Int).length = 2 from rfl]
  rw [show ([2, 0] : List Int).length = 2 from rfl] at HV1
  have HO2 := hide (ofV_any _ _ [0, 3] (row_twoD w1 0 3 (by decide) (by decide)) (by decide))
  have HB1a := hide (below_new w1 (.cells #[.int .i64 0, .int .i64 3] 3))
  clear ho1 hb1 HO1 HB1
  go_wp2_with fail
  refine HO2.out.mono ?_
  rintro e w2 ⟨P2, rfl, ho2⟩
  have hb2 := HB1a.out.trans (ho2.below.mono (by simp))
  have HV2 := hide ho2.vec
  have HV1' := hide (HV1.out.below hb2 (Nat.le_refl _))
  have HBw2 := hide (HBw1.out.trans (hb2.mono HBw1.out.size))
  rw [show ([0, 3] : List Int).length = 2 from rfl]
  rw [show ([0, 3] : List Int).length = 2 from rfl] at HV2
  have HM2 := hide (two_rowsD w2 _ _ [2, 0] [0, 3] 2 HV1'.out HV2.out)
  have hN2 := below_new w2 (.cells #[.slice (some ⟨P1, 0, none⟩) 2 2, .slice (some ⟨P2, 0, none⟩) 2 2] 32)
  have HBw3 := hide (HBw2.out.trans (hN2.mono HBw2.out.size))
  clear ho2 hb2 hN2 HO2 HB1a HV1 HV2 HV1' HBw1 HBw2
  go_wp2_with fail
  generalize (w2.alloc (.cells #[.slice (some ⟨P1, 0, none⟩) 2 2, .slice (some ⟨P2, 0, none⟩) 2 2] 32)) = W3 at *
  refine (smith_any W3 _ [[2, 0], [0, 3]] 2 2 HM2.out (fun us h => by simp only [List.mem_cons, List.mem_nil_iff, or_false] at h; rcases h with rfl | rfl <;> rfl) (by decide) (by decide) (by decide) (by decide)).mono ?_
  rintro e w4 ⟨P4, M4, ys4, hs4, fs4, p4, D4, rfl, f4, a4, v4, c4, t4, -, -, hM4⟩
  have hy := closed_smith f4 a4 t4 c4
  have hyl : hs4.length = 2 := by rw [← c4.len, hy]; rfl
  have hv := v4.vec
  rw [hy] at hv
  obtain ⟨lz, an, ao, al, ac, z0, z1, nz⟩ := hv.at 1 (by decide)
  have HB4 := hide (HBw3.out.trans (v4.below.mono HBw3.out.size))
  have NZ : Hid (NumL w4 (.agg #[.bool an, .slice ao al ac]) 6 M4) := nz
  rw [Nat.zero_add] at z0 z1
  rw [hyl]
  clear f4 a4 v4 c4 t4 hy hyl hv nz HBw3 HM2
  go_wp2_with fail
  refine (text_any w4 _ 6 _ (HT.out.below HB4.out) (by exact NZ.out) (by omega) (by decide)).mono ?_
  rintro e w6 ⟨rfl, hb6⟩
  rw [show txt 6 = [54] by decide +kernel]
  have HB6 := hide (HB4.out.trans (hb6.mono HB4.out.size))
  clear hb6 HB4 NZ z0 z1
  go_upto_region 4 with fail
  go_cut [7] from 23 (fun v wc => v = .bool r ∧ Below w6.heap.size w6 wc)
  case first =>
    go_wp2_with fail
    refine (lightT_any w6 _ rss nI (HC.out.below HB6.out) r HR.out).mono ?_
    rintro e w7 ⟨rfl, hb7⟩
    have HB7 := hide hb7
    clear hb7
    go_wp2
    go_meet
    case rel => exact ⟨rfl, HB7.out⟩
  case rest =>
  obtain ⟨rfl, hb7⟩ := hcut
  apply_assumption
  exact topSmith_C w _ mo mcap nI rss r (HB6.out.trans (hb7.mono HB6.out.size)) HC.out HR.out _ _ _ _ _ _ _ _ _ _ _ _ _ _ _ _ _ _ _ _ _ _ _ _ _ _ _ _ _ _ _ _ _ _ _ _ _ _ _ _ _ _ _ _ _ _ _ _ _ _ _ _ _ _ _ _ _ _ _ _ _ _ _ _ _ _ _ _ _ _ _ _ _ _ _ _ _ _ _ _ _ _ _ _ _ _ _ _ _ _ _ _ _ _ _ _ _ _ _ _ _ _ _ _ _ _ _ _ _ _ _ _ _ _ _ _ _ _ _ _ _ _ _ _ _ _ _ _ _ _ _ _ _ _ _ _ _ _ _ _ _ _ _ _ _ _ _ _ _ _ _ _ _ _ _ _ _ _ _ _ _ _ _ _ _ _ _ _ _ _ _ _ _ _ _ _ _ _ _ _ _ _ _ _ _ _ _ _ _ _ _ _ _ _ _ _ _ _ _ _ _ _ _ _ _ _ _ _ _ _

end Go.Proofs.YtmeefloajhffbaaDoor
