/- mat.Smith of what rows make nought of: nothing but 1. -/
import Derived.Test.YtofegldopgkikaaSmA
import Derived.Test.YtofegldopgkikaaSmB
import Derived.Test.YtofegldopgkikaaCopyV
import Derived.Test.YtofegldopgkikaaTurnW
import Derived.Test.YtofegldopgkikaaFormP
import Derived.Test.YtofegldopgkikaaVecX

namespace Go.Proofs.Ytofegldopgkikaa
open Go.RowKit Limbs

/-- For each row a vector of which that one makes 1, the others nought. -/
def Dual (ks : List (List Int)) (n : Nat) : Prop := ∀ i, i < ks.length → ∃ w : Nat → Int, ∀ l, l < ks.length → sumN n (fun j => ent ks l j * w j) = if l = i then 1 else 0

theorem VecO.ones {w W : World} {P r n : Nat} (h : VecO w W P (List.replicate r 1) n) : VecO w W P (List.replicate r 1) 2 :=
  ⟨h.vec.tight fun j hj => by rw [List.length_replicate] at hj; rw [ones_get r j hj]; decide, h.low, h.below, h.blk⟩

theorem idL_alone (r : Nat) : aloneTo (idL r) (fun k => k) r (idL r).length := fun i hi b h1 h2 => by
  have h1' : i < b := h1
  rw [idL_length] at hi
  unfold ent
  rw [idL_get r i hi, unitL_get r i b h2, if_neg (by omega)]

theorem idL_piv (r : Nat) : pivL (idL r) (fun k => k) = List.replicate r 1 := by
  apply List.ext_getElem (by rw [pivL_len, idL_length, List.length_replicate])
  intro k h1 h2
  have h3 : k < r := by simpa using h2
  have e := pivL_get (idL r) (fun k => k) k (by rw [idL_length]; exact h3)
  unfold ent at e
  rw [idL_get r k h3, unitL_get r k k h3, if_pos rfl, List.getD_eq_getElem?_getD, List.getElem?_eq_getElem h1, Option.getD_some] at e
  rw [e, List.getElem_replicate]

theorem ks_piv {ks : List (List Int)} {n : Nat} {q : Nat → Nat} (hd : Dual ks n) (F : FormL n ks q) (h : aloneTo ks q n ks.length) : pivL ks q = List.replicate ks.length 1 := by
  apply List.ext_getElem (by rw [pivL_len, List.length_replicate])
  intro k h1 h2
  have h3 : k < ks.length := by simpa using h2
  have e := pivL_get ks q k h3
  rw [alone_one hd F k h3 fun b hb hne => by
    by_cases hlt : b < q k
    · exact F.form.zero k b h3 hlt
    · exact h k h3 b (by omega) hb, List.getD_eq_getElem?_getD, List.getElem?_eq_getElem h1, Option.getD_some] at e
  rw [e, List.getElem_replicate]

def SmPost (w : World) (r : Nat) (e : Ending) (w' : World) : Prop :=
  ∃ P, e = .returned (.tuple #[.slice (some ⟨P, 0, none⟩) r r, .nilIface]) ∧ VecO w w' P (List.replicate r 1) 2

set_option linter.unusedSimpArgs false in
set_option maxRecDepth 100000 in
set_option maxHeartbeats 3200000 in
theorem smith_ones (w : World) (v : Value) (ks : List (List Int)) (n nv : Nat) {q : Nat → Nat} (hv : MatN w v ks nv) (F : FormL n ks q) (hd : Dual ks n) (hn1 : 1 ≤ n) (hn : n ≤ 8) (hm : ks.length ≤ 8) (hN : nbK n (n * nv + 2) nv n ≤ 100000) (hN2 : nbK ks.length (ks.length * nv + 2) nv ks.length ≤ 100000) :
    Calls Try.prog 12 #[v, .int .i64 (n : Int)] w fun e w' => SmPost w ks.length e w' := by
  have HC := hide (checkM_ok w v ks n nv hv hn1 hn (by omega) F.len)
  have HV := hide hv; have HF := hide F; have HD := hide hd; have HN := hide hN; have HN2 := hide hN2
  obtain ⟨ao, cap, rfl, -, -⟩ := hv
  clear F hd hN hN2
  go_enter Try.func12, Try.ntmps12
  go_wp2_with fail
  refine HC.out.mono ?_
  rintro e w1 ⟨rfl, hbe1⟩
  have HE1 := hide hbe1
  clear hbe1 HC
  go_wp2_with fail
  refine (oneForm_any w1 _ ks n nv (HV.out.below HE1.out (Nat.le_refl _)) HF.out.len hn1 (by omega) (by omega) HN.out).mono ?_
  rintro e w2 ⟨u2, hs, p, rfl, h1, h2, h3, h4, h5⟩
  obtain rfl : hs = ks := formL_one h4 HF.out h5
  have HU2 := hide (h1.tight HV.out.abs)
  have HE2 := hide (HE1.out.trans (h3.mono HE1.out.size))
  obtain ⟨ho, hcap, rfl, -, -⟩ := h1
  clear h2 h3 h4 h5 HE1 p
  go_wp2
  go_loopw [7, 8, 29] (fun u pl t wr => (t = undef ∧ pl = .int .i64 n ∧ Hid (MatN wr u hs nv) ∧ Hid (Below w.heap.size w wr)) ∨ (t = .int .i64 (hs.length : Int) ∧ pl = .int .i64 (hs.length : Int) ∧ Hid (MatN wr u (idL hs.length) (hs.length * nv + 2)) ∧ Hid (Below w.heap.size w wr))) (fun _ _ t _ => match t with | .int _ _ => 0 | _ => 1)
  case atStart => exact .inl ⟨rfl, rfl, HU2, HE2⟩
  case round =>
    clear HU2 HE2
    rcases hrel with ⟨rfl, rfl, HU, HE⟩ | ⟨rfl, rfl, HU, HE⟩
    · have HPA := hide (pivotsAlone_any wr _ n nv hs q HU.out HF.out (by omega) (by omega))
      go_wp2_with fail
      refine HPA.out.mono ?_
      rintro e w3 ⟨r, rfl, hr, hb3⟩
      have HU3 := hide (HU.out.below hb3 (Nat.le_refl _))
      have HE3 := hide (HE.out.trans (hb3.mono HE.out.size))
      clear hb3 HPA HU HE
      cases r with
      | true =>
        have HPV := hide (ks_piv HD.out HF.out (hr.1 rfl))
        clear hr
        go_wp2_with fail
        refine (pivots_any w3 _ n nv hs q HU3.out HF.out (by omega) (by omega)).mono ?_
        rintro e w4 ⟨P, rfl, hv4⟩
        rw [HPV.out] at hv4 ⊢
        rw [List.length_replicate]
        have HV4 := hide (hv4.ones.since HE3.out)
        clear hv4
        go_wp2_with fail
        refine (chained_ones w w4 P hs.length HV4.out (by omega)).mono ?_
        rintro e w5 ⟨rfl, hv5⟩
        have HV5 := hide hv5
        clear hv5 HV4
        go_wp2
        go_ret2
        exact ⟨P, rfl, HV5.out⟩
      | false =>
        have hlen : 1 ≤ hs.length := by
          by_cases h0 : hs.length = 0
          · exact absurd (hr.2 fun i hi => by omega) (by decide)
          · omega
        clear hr
        obtain ⟨uo, ucap, hu, -, -⟩ := HU3.out
        subst hu
        go_wp2_with fail
        refine (turned_any w3 _ n nv hs HU3.out HF.out.len (by omega) (by omega)).mono ?_
        rintro e w4 ⟨O, vs, ps, rfl, ho4, hp4⟩
        have HM4 := hide (ho4.mat (colsL hs n) (colsL_length hs n) (fun i hi => by rw [hp4 i hi, colsL_get hs n i hi]; rfl))
        have HE4 := hide (HE3.out.trans (ho4.low.mono HE3.out.size))
        clear ho4 hp4 HE3
        go_wp2_with fail
        refine (oneForm_any w4 _ (colsL hs n) hs.length nv HM4.out (colsL_len hs n) hlen (by omega) (by rw [colsL_length]; omega) HN2.out).mono ?_
        rintro e w5 ⟨u5, fs, p5, rfl, g1, g2, g3, g4, g5⟩
        obtain rfl : fs = idL hs.length := cols_one HD.out g4 g5
        have HU5 := hide g1
        have HE5 := hide (HE4.out.trans (g3.mono HE4.out.size))
        clear g1 g2 g3 g4 g5 HE4 HM4
        go_wp2
        go_roundw
        case rel => exact .inr ⟨rfl, rfl, HU5, HE5⟩
        case measure => exact Nat.zero_lt_one
    · have HID := hide (idL_form hs.length)
      have HIL := hide (idL_length hs.length)
      have HPA := hide (pivotsAlone_any wr _ hs.length (hs.length * nv + 2) (idL hs.length) (fun k => k) HU.out HID.out (by omega) (by rw [HIL.out]; omega))
      go_wp2_with fail
      refine HPA.out.mono ?_
      rintro e w3 ⟨r, rfl, hr, hb3⟩
      obtain rfl : r = true := hr.2 (idL_alone _)
      have HU3 := hide (HU.out.below hb3 (Nat.le_refl _))
      have HE3 := hide (HE.out.trans (hb3.mono HE.out.size))
      have HPV := hide (idL_piv hs.length)
      clear hb3 HPA HU HE hr
      go_wp2_with fail
      refine (pivots_any w3 _ hs.length (hs.length * nv + 2) (idL hs.length) (fun k => k) HU3.out HID.out (by omega) (by rw [HIL.out]; omega)).mono ?_
      rintro e w4 ⟨P, rfl, hv4⟩
      rw [HPV.out] at hv4 ⊢
      rw [List.length_replicate]
      have HV4 := hide (hv4.ones.since HE3.out)
      clear hv4
      go_wp2_with fail
      refine (chained_ones w w4 P hs.length HV4.out (by omega)).mono ?_
      rintro e w5 ⟨rfl, hv5⟩
      have HV5 := hide hv5
      clear hv5 HV4
      go_wp2
      go_ret2
      exact ⟨P, rfl, HV5.out⟩

end Go.Proofs.Ytofegldopgkikaa

/- Numbers and vectors whose limbs are new. -/
namespace Go.Proofs.Ytofegldopgkikaa
open Go.RowKit Limbs

/-- A number whose limbs lie there. -/
def SignPost (w : World) (z : Int) (n : Nat) (ao : Option Addr) (cap : Nat) (e : Ending) (w' : World) : Prop := NumPost w z n e w' ∧ ∃ b l, e = .returned (.agg #[.bool b, .slice ao l cap])

set_option maxHeartbeats 400000 in
theorem signed_new (w : World) (neg : Bool) (ao : Option Addr) (cap : Nat) (zs : List Int) (n : Nat) (h : Lim w (.slice ao zs.length cap) zs) (hn : zs.length ≤ n) :
    Calls Try.prog 23 #[.bool neg, .slice ao zs.length cap] w fun e w' => SignPost w (if neg = true then - lv zs else lv zs) n ao cap e w' := by
  have HL : Hid (Lim w (.slice ao zs.length cap) zs) := h
  obtain ⟨ao', cap', hv, hcap, hlen, hlb, hc⟩ := h
  simp only [Value.slice.injEq, true_and] at hv
  obtain ⟨rfl, rfl⟩ := hv
  clear hc
  go_enter Try.func23, Try.ntmps23
  go_wp2_with fail
  refine (trim_any _ _ _ zs (HL.out.below ((Below.refl _ _).alloc (Nat.le_refl _) _) (Nat.le_refl _))).mono ?_
  rintro e w' ⟨m, hm, rfl, hv, hnr, rfl⟩
  have HV : Hid (lv (zs.take m) = lv zs) := hv
  clear hv
  have hl : (zs.take m).length = m := by rw [List.length_take]; omega
  have HL2 := HL.out.take m hm
  cases neg
  · have HF : Hid (NumPost w (lv zs) n (.returned (.agg #[.bool false, .slice ao m cap])) (w.alloc (Obj.cells #[Value.bool false, .slice ao m cap] 36))) :=
      ⟨_, rfl, ⟨false, _, zs.take m, rfl, HL2.below ((Below.refl _ _).alloc (Nat.le_refl _) _) (Nat.le_refl _), hnr, fun _ => rfl, HV.out.symm, by omega⟩, (Below.refl _ _).alloc (Nat.le_refl _) _⟩
    go_wp2
    exact bodyPost_ret (v := .agg #[.bool false, .slice ao m cap]) (by simp [results, Try.results23, go_sem]) rfl ⟨HF.out, _, _, rfl⟩
  · by_cases h0 : m = 0
    · subst h0
      have HF : Hid (NumPost w (-lv zs) n (.returned (.agg #[.bool false, .slice ao 0 cap])) (w.alloc (Obj.cells #[Value.bool false, .slice ao 0 cap] 36))) :=
        ⟨_, rfl, ⟨false, _, zs.take 0, rfl, HL2.below ((Below.refl _ _).alloc (Nat.le_refl _) _) (Nat.le_refl _), hnr, fun _ => rfl, by have := HV.out; simp [lv] at this ⊢; omega, by omega⟩, (Below.refl _ _).alloc (Nat.le_refl _) _⟩
      go_wp2
      exact bodyPost_ret (v := .agg #[.bool false, .slice ao 0 cap]) (by simp [results, Try.results23, go_sem]) rfl ⟨HF.out, _, _, rfl⟩
    · have HF : Hid (NumPost w (-lv zs) n (.returned (.agg #[.bool true, .slice ao m cap])) (w.alloc (Obj.cells #[Value.bool true, .slice ao m cap] 36))) :=
        ⟨_, rfl, ⟨true, _, zs.take m, rfl, HL2.below ((Below.refl _ _).alloc (Nat.le_refl _) _) (Nat.le_refl _), hnr, fun h => absurd h (by omega), by rw [if_pos rfl, HV.out], by omega⟩, (Below.refl _ _).alloc (Nat.le_refl _) _⟩
      have hd : decide (0 < m) = true := by simp; omega
      go_wp2
      exact bodyPost_ret (v := .agg #[.bool true, .slice ao m cap]) (by simp [results, Try.results23, go_sem]) rfl ⟨HF.out, _, _, rfl⟩

set_option maxHeartbeats 800000 in
theorem of_new (w : World) (n : Int) (h0 : -9223372036854775808 ≤ n) (h1 : n ≤ 9223372036854775807) :
    Calls Try.prog 14 #[.int .i64 n] w fun e w' => IntPost w n 2 e w' := by
  by_cases hn : n < 0
  · have hw : IntKind.u64.wrap (-IntKind.u64.wrap n) = -n := by rw [IntKind.wrap_u64, IntKind.wrap_u64]; omega
    have hw2 : -n / 4294967296 % 4294967296 = -n / 4294967296 := by omega
    have HN := hide (lv_two (-n))
    go_enter Try.func14, Try.ntmps14
    go_wp2_with fail
    refine (signed_new _ _ _ _ [-n % 4294967296, -n / 4294967296] 2 (lim_two _ _ _ _ (by omega) (by omega) _ (by simp)) (Nat.le_refl _)).mono ?_
    rintro e w2 ⟨⟨r, rfl, hr, hb2⟩, sb, sl, es⟩
    simp only [Ending.returned.injEq] at es
    subst es
    obtain ⟨c0, c1, f0, f1⟩ := Box.later (B := w.heap.size) ((box_new w _ _ _ _ rfl).later ((Below.refl _ _).alloc (by simp) _ : Below (w.heap.size + 1) _ _) (by omega)) hb2 (by simp; omega)
    rw [HN.out, if_pos rfl, Int.neg_neg] at hr
    have HF := hide (fun rn rs (h : NumL w2 (.agg #[.bool rn, rs]) n 2) => boxed (w := w) h c0 c1 (by simp) (by simp) ((((Below.refl _ _).alloc (Nat.le_refl _) _).alloc (by simp) _).trans (hb2.mono (by simp; omega))) (Nat.le_refl _))
    have HR := hide hr
    clear hb2 hr
    go_wp2
    exact bodyPost_ret (v := _) (by simp [results, Try.results14, go_sem, c0, c1]) rfl ⟨HF.out _ _ HR.out, fun neg s e a l c h => by simp only [Ending.returned.injEq, Value.agg.injEq, Array.mk.injEq, List.cons.injEq, and_true] at e; rw [← e.2] at h; simp only [Value.slice.injEq, Option.some.injEq] at h; rw [← h.1]; simp⟩
  · have HN := hide (lv_two n)
    go_enter Try.func14, Try.ntmps14
    go_wp2_with fail
    refine (signed_new _ _ _ _ [n % 4294967296, n / 4294967296] 2 (lim_two _ _ _ _ (by omega) (by omega) _ (by simp)) (Nat.le_refl _)).mono ?_
    rintro e w2 ⟨⟨r, rfl, hr, hb2⟩, sb, sl, es⟩
    simp only [Ending.returned.injEq] at es
    subst es
    obtain ⟨c0, c1, f0, f1⟩ := Box.later (B := w.heap.size) ((box_new w _ _ _ _ rfl).later ((Below.refl _ _).alloc (by simp) _ : Below (w.heap.size + 1) _ _) (by omega)) hb2 (by simp; omega)
    rw [HN.out, if_neg (by decide)] at hr
    have HF := hide (fun rn rs (h : NumL w2 (.agg #[.bool rn, rs]) n 2) => boxed (w := w) h c0 c1 (by simp) (by simp) ((((Below.refl _ _).alloc (Nat.le_refl _) _).alloc (by simp) _).trans (hb2.mono (by simp; omega))) (Nat.le_refl _))
    have HR := hide hr
    clear hb2 hr
    go_wp2
    exact bodyPost_ret (v := _) (by simp [results, Try.results14, go_sem, c0, c1]) rfl ⟨HF.out _ _ HR.out, fun neg s e a l c h => by simp only [Ending.returned.injEq, Value.agg.injEq, Array.mk.injEq, List.cons.injEq, and_true] at e; rw [← e.2] at h; simp only [Value.slice.injEq, Option.some.injEq] at h; rw [← h.1]; simp⟩

/-- Limbs of a vector's first numbers are new. -/
def NewV (w W : World) (P k : Nat) : Prop := ∀ i, i < k → ∀ o l c, W.cell? ⟨P, i * 2 + 1, none⟩ = some (.slice o l c) → NewSl w (.slice o l c)

theorem NewV.set {w W W2 : World} {P k n : Nat} {zs : List Int} (h : NewV w W P k) (hv : VecO w W P zs n) (hk : k < zs.length) (hb : Below W.heap.size W W2) {o : Option Addr} {l c : Nat} (hn : NewSl W (.slice o l c)) (rn : Bool) :
    NewV w ((W2.setCell ⟨P, k * 2, none⟩ (.bool rn)).setCell ⟨P, k * 2 + 1, none⟩ (.slice o l c)) P (k + 1) := fun i hi o' l' c' e => by
  by_cases e1 : i = k
  · subst e1
    obtain ⟨neg0, o0, l0, c0, k0, k1, -⟩ := (hv.later hb).at i hk
    have k1' : (W2.setCell ⟨P, i * 2, none⟩ (.bool rn)).cell? ⟨P, i * 2 + 1, none⟩ = some (.slice o0 l0 c0) := (World.cell?_setCell_other (h := fun e => by simp at e) ..).trans k1
    rw [World.cell?_setCell_same (h := k1')] at e
    simp only [Option.some.injEq] at e
    rw [← e]
    intro a l2 c2 h2
    exact Nat.le_trans hv.below.size (hn a l2 c2 h2)
  · have e2 : ((W2.setCell ⟨P, k * 2, none⟩ (.bool rn)).setCell ⟨P, k * 2 + 1, none⟩ (.slice o l c)).cell? ⟨P, i * 2 + 1, none⟩ = W2.cell? ⟨P, i * 2 + 1, none⟩ :=
      (World.cell?_setCell_other (h := fun e => by simp at e <;> omega) ..).trans (World.cell?_setCell_other (h := fun e => by simp at e <;> omega) ..)
    rw [e2, hb.cell (p := ⟨P, i * 2 + 1, none⟩) hv.lt] at e
    exact h i (by omega) o' l' c' e

set_option maxRecDepth 100000 in
set_option maxHeartbeats 1600000 in
theorem ofV_new (w : World) (v : Value) (ks : List Int) (hv : RowS w v ks) (h8 : ks.length ≤ 1000) :
    Calls Try.prog 5 #[v] w fun e w' => ∃ P, e = .returned (.slice (some ⟨P, 0, none⟩) ks.length ks.length) ∧ VecO w w' P ks 2 ∧ NewV w w' P ks.length := by
  have HV := hide hv
  obtain ⟨ao, cap, rfl, -, hk64, -⟩ := hv
  have HK := hide hk64
  have hmk := run_mkV ks.length (by omega)
  have HI := hide (VecO.made w w (Below.refl _ _) ks.length 2)
  clear hk64
  go_enter Try.func5, Try.ntmps5
  go_wp2
  clear hmk
  go_loopw [10] (fun i wr => ∃ k : Nat, k ≤ ks.length ∧ i = .int .i64 k ∧ VecO w wr w.heap.size (ks.take k ++ List.replicate (ks.length - k) 0) 2 ∧ Hid (NewV w wr w.heap.size k)) (fun i _ => ks.length - (intOf i).toNat)
  case atStart => exact ⟨0, Nat.zero_le _, rfl, HI.out, hide fun i hi => absurd hi (Nat.not_lt_zero i)⟩
  case round =>
    clear HI
    obtain ⟨k, hk, rfl, hinv, HNV⟩ := hrel
    have HI := hide hinv
    clear hinv
    by_cases hkl : k < ks.length
    · obtain ⟨_, _, e, -, -, hc⟩ := HV.out.below HI.out.below (Nat.le_refl _)
      simp only [Value.slice.injEq, true_and] at e
      obtain ⟨rfl, rfl⟩ := e
      obtain ⟨b, off, rfl, -, hc⟩ := hc (by omega)
      have c0 := hc k hkl
      have HFS := hide (fill_step ks k hkl)
      have hfl := fill_len ks k hk
      have hkl' : k < (ks.take k ++ List.replicate (ks.length - k) 0).length := by omega
      have H64 := hide (HK.out k)
      clear hc
      generalize ks.getD k 0 = z at *
      go_wp2_with fail
      refine (of_new wr z H64.out.1 H64.out.2).mono ?_
      rintro e w2 ⟨⟨r, rfl, hr, hb⟩, hnew⟩
      obtain ⟨⟨rn, ro, rl, rc⟩, rfl⟩ := hr.nm
      have HN2 := hide (HNV.out.set HI.out hkl' hb (hnew _ _ rfl) rn)
      have HI2 := hide (HI.out.later hb)
      obtain ⟨neg0, o0, l0, c0', k0, k1, -⟩ := HI2.out.at k (by omega)
      have f0 := HI2.out.thaw (k * 2)
      have f1 := HI2.out.thaw (k * 2 + 1)
      have hP := HI2.out.lt
      have HN := hide (HI2.out.set (k := k) (by omega) hr)
      rw [HFS.out] at HN
      clear hb hr hnew HNV HI HI2 HFS H64 c0
      go_wp2
      go_roundw
      case rel => exact ⟨k + 1, by omega, by go_num, HN.out, HN2⟩
      case measure => simp [intOf]; omega
    · obtain rfl : k = ks.length := by omega
      have HF := hide HI.out.full
      clear HI
      go_wp2
      go_ret
      exact ⟨_, rfl, HF.out, HNV.out⟩

end Go.Proofs.Ytofegldopgkikaa
