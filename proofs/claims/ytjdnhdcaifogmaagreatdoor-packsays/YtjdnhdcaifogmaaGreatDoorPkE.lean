/- A text is read alike by the program and by the reference. -/
import Derived.Test.YtjdnhdcaifogmaaGreatDoorReadB
import Derived.Test.YtjdnhdcaifogmaaGreatDoorParseD
import Derived.Test.YtjdnhdcaifogmaaGreatDoorText
import Derived.Test.YtjdnhdcaifogmaaGreatDoorBhA
import Derived.Deep.Cut
import Derived.Deep.CutRange
import Derived.Deep.CutBlock

namespace Go.Proofs.YtjdnhdcaifogmaaGreatDoor
open Go.RowKit Limbs Digs

theorem byt_one {t : ByteArray} (h1 : t.size = 1) (h48 : byt t 0 = 48) : t.toList = [48] := by
 rw [Lib.toList_data]
 obtain ⟨⟨l⟩⟩ := t
 match l, h1 with
 | [x], _ =>
  have : (x.toNat : Int) = 48 := h48
  have hx : x = 48 := UInt8.toNat_inj.1 (by have : (48 : UInt8).toNat = 48 := rfl
                                            omega)
  subst hx; rfl

theorem read_any (w : World) (s t : ByteArray) (neg : Bool) (hs : s.size ≤ 400) (hF : Falls s t neg) :
  Calls Tryz.prog 52 #[.string s] w fun e w' => ReadPostR w t neg e w' := by
 have hbad : ∀ {t : ByteArray} {neg : Bool} {w : World} {s : ByteArray}, ¬ good t neg → Calls Tryz.prog 52 #[.string s] w (fun e w' => ErrR w 5 e w') → Calls Tryz.prog 52 #[.string s] w fun e w' => ReadPostR w t neg e w' :=
  fun hg h => h.mono fun e w' he => ⟨fun h' => absurd h' hg, fun _ => he⟩
 rcases hF with ⟨rfl, h1, h45, ht, hts⟩ | ⟨rfl, rfl, hn⟩
 ·by_cases h48 : byt t 0 = 48
  ·by_cases ht1 : t.size = 1
   ·have hz := byt_one ht1 h48
    refine hbad (fun hg => hg.2 ⟨rfl, (str_eq t _).1 hz⟩) (read_negzero w s t hs h1 h45 ht hts h48 ht1 hz)
   ·refine hbad (fun hg => ?_) (read_negnought w s t hs h1 h45 ht hts h48 (by omega))
    rcases hg.1.2 with h | h
    ·subst h; exact ht1 rfl
    ·exact h.2 h48
  ·refine read_neg w s t hs h1 h45 ht hts h48 (fun hd => ⟨⟨hd, .inr ⟨by omega, h48⟩⟩, fun h => ?_⟩)
   have := h.2; subst this; exact h48 (by decide)
 ·by_cases h0 : t.size = 0
  ·refine hbad (fun hg => ?_) (read_empty w t h0)
   rcases hg.1.2 with h | h
   ·subst h; exact absurd h0 (by decide)
   ·exact h.1 h0
  ·by_cases h1 : t.size = 1
   ·by_cases h48 : byt t 0 = 48
    ·have hz := byt_one h1 h48
     exact read_zero w t hs h1 h48 hz (fun hd => ⟨⟨hd, .inl ((str_eq t _).1 hz)⟩, fun h => by simp at h⟩)
    ·exact read_one w t hs h1 h48 (fun hd => ⟨⟨hd, .inr ⟨h0, h48⟩⟩, fun h => by simp at h⟩)
   ·by_cases h48 : byt t 0 = 48
    ·refine hbad (fun hg => ?_) (read_nought w t hs (by omega) h48)
     rcases hg.1.2 with h | h
     ·subst h; exact h1 rfl
     ·exact h.2 h48
    ·exact read_many w t hs (by omega) (fun h => hn ⟨by omega, h⟩) h48 (fun hd => ⟨⟨hd, .inr ⟨h0, h48⟩⟩, fun h => by simp at h⟩)

end Go.Proofs.YtjdnhdcaifogmaaGreatDoor

/- A number's text is read as it. -/
namespace Go.Proofs.YtjdnhdcaifogmaaGreatDoor
open Go.RowKit Limbs

theorem byt_listT (l : List UInt8) (k : Nat) : byt ⟨l.toArray⟩ k = ((l[k]?.map fun b => (b.toNat : Int)).getD 0) := by
 unfold byt
 by_cases h : k < l.length
 ·have h' : k < (⟨l.toArray⟩ : ByteArray).size := h
  rw [dif_pos h', List.getElem?_eq_getElem h]
  rfl
 ·have h' : ¬ k < (⟨l.toArray⟩ : ByteArray).size := h
  rw [dif_neg h', List.getElem?_eq_none (by omega)]
  rfl

theorem dval_prefix (l m : List UInt8) (k : Nat) (h : k ≤ l.length) : dval ⟨(l ++ m).toArray⟩ k = dval ⟨l.toArray⟩ k := by
 induction k with
 | zero => rfl
 | succ k ih =>
  simp only [dval]
  rw [ih (by omega), byt_listT, byt_listT, List.getElem?_append_left (by omega)]

theorem dval_snoc (l : List UInt8) (b : UInt8) : dval ⟨(l ++ [b]).toArray⟩ (l.length + 1) = 10 * dval ⟨l.toArray⟩ l.length + ((b.toNat : Int) - 48) := by
 simp only [dval]
 rw [dval_prefix _ _ _ (Nat.le_refl _), byt_listT]
 simp

theorem decDigits_reads (u : Nat) : (∀ k, k < (Lib.decDigits u).length → 48 ≤ byt ⟨(Lib.decDigits u).toArray⟩ k ∧ byt ⟨(Lib.decDigits u).toArray⟩ k ≤ 57) ∧ (0 < u → byt ⟨(Lib.decDigits u).toArray⟩ 0 ≠ 48) ∧ dval ⟨(Lib.decDigits u).toArray⟩ (Lib.decDigits u).length = u ∧ 0 < (Lib.decDigits u).length := by
 induction u using Nat.strongRecOn with
 | _ u ih =>
  by_cases h : u < 10
  ·have e : Lib.decDigits u = [UInt8.ofNat (48 + u)] := by rw [Lib.decDigits, dif_pos h]
   have eb : ((UInt8.ofNat (48 + u)).toNat : Int) = 48 + u := by rw [UInt8.toNat_ofNat']; omega
   rw [e]
   refine ⟨fun k hk => ?_, fun h0 => ?_, ?_, by simp⟩
   ·obtain rfl : k = 0 := by simpa using hk
    rw [byt_listT, List.getElem?_cons_zero, Option.map_some, Option.getD_some, eb]; omega
   ·rw [byt_listT, List.getElem?_cons_zero, Option.map_some, Option.getD_some, eb]; omega
   ·show 10 * 0 + (byt ⟨[UInt8.ofNat (48 + u)].toArray⟩ 0 - 48) = (u : Int)
    rw [byt_listT, List.getElem?_cons_zero, Option.map_some, Option.getD_some, eb]; omega
  ·have e : Lib.decDigits u = Lib.decDigits (u / 10) ++ [UInt8.ofNat (48 + u % 10)] := by rw [Lib.decDigits, dif_neg h]
   have eb : ((UInt8.ofNat (48 + u % 10)).toNat : Int) = 48 + (u % 10 : Nat) := by rw [UInt8.toNat_ofNat']; omega
   obtain ⟨i1, i2, i3, i4⟩ := ih (u / 10) (by omega)
   rw [e]
   generalize Lib.decDigits (u / 10) = l at *
   refine ⟨fun k hk => ?_, fun h0 => ?_, ?_, by simp⟩
   ·rw [List.length_append, List.length_singleton] at hk
    rcases Nat.lt_succ_iff_lt_or_eq.1 hk with h1 | h1
    ·have := i1 k h1
     rw [byt_listT] at this ⊢
     rw [List.getElem?_append_left h1]; exact this
    ·subst h1
     rw [byt_listT, List.getElem?_append_right (Nat.le_refl _), Nat.sub_self, List.getElem?_cons_zero, Option.map_some, Option.getD_some, eb]; omega
   ·have := i2 (by omega)
    rw [byt_listT] at this ⊢
    rw [List.getElem?_append_left i4]; exact this
   ·rw [List.length_append, List.length_singleton, dval_snoc, i3, eb]; omega

theorem decDigits_dec (u : Nat) : isDec ⟨(Lib.decDigits u).toArray⟩ := by
 obtain ⟨h1, h2, h3, h4⟩ := decDigits_reads u
 refine ⟨h1, ?_⟩
 by_cases h : u = 0
 ·subst h
  left
  rw [Lib.decDigits, dif_pos (by decide)]
  rfl
 ·exact .inr ⟨by show (Lib.decDigits u).length ≠ 0; omega, h2 (by omega)⟩

theorem txt_reads (z : Int) : ∃ t neg, Falls ⟨(txt z).toArray⟩ t neg ∧ good t neg ∧ sg neg (dval t t.size) = z := by
 unfold txt Lib.itoa
 by_cases hz : z < 0
 ·rw [if_pos hz]
  obtain ⟨h1, h2, h3, h4⟩ := decDigits_reads z.natAbs
  have hd := decDigits_dec z.natAbs
  refine ⟨⟨(Lib.decDigits z.natAbs).toArray⟩, true, .inl ⟨rfl, ?_, ?_, ?_, ?_⟩, ⟨hd, fun h => ?_⟩, ?_⟩
  ·show 1 < (45 :: Lib.decDigits z.natAbs).length
   rw [List.length_cons]; omega
  ·rw [byt_listT]; rfl
  ·rw [Lib.extract_eq]
   show (⟨(((45 :: Lib.decDigits z.natAbs).drop 1).take _).toArray⟩ : ByteArray) = _
   rw [List.drop_succ_cons, List.drop_zero, List.take_of_length_le (by show _ ≤ (45 :: Lib.decDigits z.natAbs).length - 1; simp)]
  ·show (Lib.decDigits z.natAbs).length + 1 = (45 :: Lib.decDigits z.natAbs).length
   rfl
  ·have := h2 (by omega)
   rw [h.2] at this
   exact this (by decide)
  ·show sg true (dval _ (Lib.decDigits z.natAbs).length) = z
   rw [h3]; unfold sg; rw [if_pos rfl]; omega
 ·rw [if_neg hz]
  obtain ⟨h1, h2, h3, h4⟩ := decDigits_reads z.toNat
  refine ⟨⟨(Lib.decDigits z.toNat).toArray⟩, false, .inr ⟨rfl, rfl, fun h => ?_⟩, ⟨decDigits_dec _, fun h => by simp at h⟩, ?_⟩
  ·have := (h1 0 h4).1
   omega
  ·show sg false (dval _ (Lib.decDigits z.toNat).length) = z
   rw [h3]; unfold sg; rw [if_neg (by decide)]; omega

end Go.Proofs.YtjdnhdcaifogmaaGreatDoor

/- The reference: a small number of a text. -/
namespace Go.Proofs.YtjdnhdcaifogmaaGreatDoor
open Go.RowKit Limbs Digs

theorem falls_one {s t t' : ByteArray} {n n' : Bool} (h : Falls s t n) (h' : Falls s t' n') : t = t' ∧ n = n' := by
 rcases h with ⟨rfl, h1, h2, h3, h4⟩ | ⟨rfl, rfl, h1⟩ <;> rcases h' with ⟨rfl, k1, k2, k3, k4⟩ | ⟨rfl, rfl, k1⟩
 ·exact ⟨h3.symm.trans k3, rfl⟩
 ·exact absurd ⟨h1, h2⟩ k1
 ·exact absurd ⟨k1, k2⟩ h1
 ·exact ⟨rfl, rfl⟩

theorem dval10 (t : ByteArray) (k : Nat) (h : ∀ j, j < k → 48 ≤ byt t j ∧ byt t j ≤ 57) : 0 ≤ dval t k ∧ dval t k < pw k := by
 induction k with
 | zero => simp [dval, pw]
 | succ k ih =>
  have h1 := ih (fun j hj => h j (by omega))
  have h2 := h k (by omega)
  simp only [dval, pw]
  omega

theorem pw_five {k : Nat} (h : k ≤ 5) : pw k ≤ 100000 := by
 rcases (by omega : k = 0 ∨ k = 1 ∨ k = 2 ∨ k = 3 ∨ k = 4 ∨ k = 5) with rfl | rfl | rfl | rfl | rfl | rfl <;> decide

def SmallP (w : World) (t : ByteArray) (e : Ending) (w' : World) : Prop :=
 ∃ (z : Int) (ok : Bool), e = .returned (.tuple #[.int .i64 z, .bool ok]) ∧ (-100000 < z ∧ z < 100000) ∧ (∀ y : Int, -999 ≤ y → y ≤ 999 → t = itoS y → ok = true ∧ z = y) ∧ Below w.heap.size w w'

theorem small_no {t : ByteArray} {w w' : World} (hb : Below w.heap.size w w') (h : ∀ y : Int, -999 ≤ y → y ≤ 999 → t ≠ itoS y) : SmallP w t (.returned (.tuple #[.int .i64 0, .bool false])) w' :=
 ⟨0, false, rfl, by decide, fun y h1 h2 e => absurd e (h y h1 h2), hb⟩

theorem dv_drop_le {ds : List Int} (h : DB ds) (k : Nat) (hk : k ≤ ds.length) : 0 ≤ dv (ds.drop k) ∧ dv (ds.drop k) ≤ dv ds := by
 have h1 := dv_split ds k hk
 have h2 := dv_nonneg (DB_take h k)
 have h3 := dv_nonneg (DB_drop h k)
 have h4 := dp_pos k
 refine ⟨h3, ?_⟩
 have h5 : 1 * dv (ds.drop k) ≤ dp k * dv (ds.drop k) := Int.mul_le_mul_of_nonneg_right (by omega) h3
 omega

set_option linter.unusedSimpArgs false in
set_option maxRecDepth 100000 in
set_option maxHeartbeats 1600000 in
theorem small_any (w : World) (t : ByteArray) : Calls Tryz.prog 28 #[.string t] w fun e w' => SmallP w t e w' := by
 by_cases h5 : 5 < t.size
 ·have g0 : decide (5 < (t.size : Int)) = true := decide_eq_true (by omega)
  have HX : Hid (∀ y : Int, -999 ≤ y → y ≤ 999 → t ≠ itoS y) := fun y h1 h2 e => by
   have := ito_small h1 h2
   rw [← e] at this
   omega
  go_enter Tryz.func28, Tryz.ntmps28
  go_wp2
  go_ret2
  exact small_no (Below.refl _ _) HX.out
 have g0 : decide (5 < (t.size : Int)) = false := decide_eq_false (by omega)
 by_cases h0 : t.size = 0
 ·have g1 : ((t.size : Int) == 0) = true := by rw [beq_iff_eq]; omega
  have HX : Hid (∀ y : Int, -999 ≤ y → y ≤ 999 → t ≠ itoS y) := fun y h1 h2 e => by
   have h3 := (ito_len h1 h2).1
   rw [e] at h0
   have h4 : (Lib.itoa y).toArray.size = 0 := h0
   rw [List.size_toArray] at h4
   omega
  clear h0 h5
  go_enter Tryz.func28, Tryz.ntmps28
  go_wp2
  go_ret2
  exact small_no (Below.refl _ _) HX.out
 have g1 : ((t.size : Int) == 0) = false := by rw [beq_eq_false_iff_ne]; omega
 obtain ⟨t', neg, hF⟩ := falls t
 have HF := hide hF
 have hts : t'.size ≤ t.size := by
  rcases hF with ⟨-, -, -, -, h⟩ | ⟨-, rfl, -⟩
  ·omega
  ·exact Nat.le_refl _
 have HRD := hide (read_any w t t' neg (by omega) hF)
 clear hF h0
 go_enter Tryz.func28, Tryz.ntmps28
 go_wp2_with fail
 refine HRD.out.mono ?_
 rintro e w1 ⟨hgood, hbad⟩
 by_cases hg : good t' neg
 ·obtain ⟨v, rfl, hv, hb1⟩ := hgood hg
  have hd := dval10 t' t'.size hg.1.1
  have hp := pw_five (k := t'.size) (by omega)
  obtain ⟨z, hz⟩ : ∃ z, sg neg (dval t' t'.size) = z := ⟨_, rfl⟩
  have hzr : -100000 < z ∧ z < 100000 := by
   rw [← hz]
   unfold sg
   split <;> omega
  have HY : Hid (∀ y : Int, -999 ≤ y → y ≤ 999 → t = itoS y → z = y) := fun y _ _ e => by
   obtain ⟨t2, n2, f1, f2, f3⟩ := txt_reads y
   have e2 : (⟨(txt y).toArray⟩ : ByteArray) = t := e.symm
   rw [e2] at f1
   obtain ⟨rfl, rfl⟩ := falls_one HF.out f1
   rw [← hz]
   exact f3
  rw [hz] at hv
  have hv2 := hv.tight (m := 2) (by have : dp 2 = 100000000 := by decide
                                    omega) (by have : dp 2 = 100000000 := by decide
                                               omega)
  obtain ⟨s, sl, ds, rfl, hdig, hnrm, hzs, hs, hl2⟩ := hv2
  obtain ⟨ao, cap, rfl, hcap, -, hdb, hcell⟩ := id hdig
  obtain ⟨dl, hdl⟩ : ∃ dl, ds.length = dl := ⟨_, rfl⟩
  have hbA := alloc_below w1 (.cells #[.int .i64 s, .slice ao ds.length cap] 95)
  have hx : (w1.alloc (.cells #[.int .i64 s, .slice ao ds.length cap] 95)).heap[w1.heap.size]? = _ := heap_alloc_new w1 _
  have x0 := cell_of_row _ _ 0 _ _ _ hx
  have x1 := cell_of_row _ _ 1 _ _ _ hx
  simp only [List.getElem?_toArray, List.getElem?_cons_zero, List.getElem?_cons_succ] at x0 x1
  have HB2 := hide (hb1.trans (hbA.mono hb1.size))
  have HCELL : Hid (0 < dl → ∃ b off, ao = some ⟨b, off, none⟩ ∧ ∀ i, i < dl → (w1.alloc (.cells #[.int .i64 s, .slice ao ds.length cap] 95)).cell? ⟨b, off + i, none⟩ = some (.int .i64 (ds.getD i 0))) := fun h0 => by
   obtain ⟨b, off, cur, fz, e, hh, hc⟩ := hcell (by omega)
   exact ⟨b, off, e, fun i hi => (hbA.cell (p := ⟨b, off + i, none⟩) (heap_lt hh)).trans (hc i (by omega))⟩
  have HZS := hide hzs; have HS := hide hs; have HDB := hide hdb; have HDL := hide hdl; have HZR := hide hzr
  have hdv : dv ds < 100000 := by
   rcases hs with ⟨h, -⟩ | ⟨-, h | h⟩
   ·have : ds = [] := List.eq_nil_of_length_eq_zero h
    subst this
    decide
   ·subst h; omega
   ·subst h; omega
  have HDV := hide hdv
  rw [hdl] at x1 HCELL HB2 hl2 ⊢
  have hx0 : (w1.alloc (.cells #[.int .i64 s, .slice ao dl cap] 95)).cell? ⟨w1.heap.size, 0, none⟩ = some (.int .i64 s) := by rw [← hdl]; exact x0
  clear hgood hbad hv hb1 hd hp hz hzr hdig hnrm hzs hs hcap hdb hcell hbA hx x0 hdv hdl hts HRD HF hg
  go_wp2_with fail
  generalize w1.alloc (.cells #[.int .i64 s, .slice ao dl cap] 95) = W2 at *
  go_loopw [6, 7] (fun kv ix wr => ∃ (j : Nat) (iz K : Int), j ≤ dl ∧ iz = (j : Int) - 1 ∧ K = dv (ds.drop j) ∧ kv = .int .i64 K ∧ ix = .int .i64 iz ∧ wr = W2) (fun _ ix _ => (intOf ix + 1).toNat)
  case atStart => exact ⟨dl, (dl : Int) - 1, 0, Nat.le_refl _, rfl, by rw [List.drop_of_length_le (by rw [HDL.out]; exact Nat.le_refl _)]; rfl, rfl, by go_num, rfl⟩
  case round =>
   obtain ⟨j, iz, K, hj, hiz, hK, rfl, rfl, hwr⟩ := hrel
   subst hwr
   by_cases hj0 : j = 0
   ·subst hj0
    have hzz : K * s = (dv ds) * s := by rw [hK]; rfl
    have hm : K * s = z := by rw [hzz, HZS.out, Int.mul_comm]
    obtain rfl : iz = -1 := by omega
    have h1 := HZR.out.1; have h2 := HZR.out.2
    have wz : IntKind.i64.wrap z = z := by rw [IntKind.wrap_i64]; omega
    clear hK hzz hiz HCELL x1
    go_wp2
    go_ret2
    exact ⟨z, true, rfl, ⟨h1, h2⟩, fun y y1 y2 e => ⟨rfl, HY.out y y1 y2 e⟩, HB2.out⟩
   ·obtain ⟨p, rfl⟩ : ∃ p, j = p + 1 := ⟨j - 1, by omega⟩
    obtain rfl : iz = (p : Int) := by omega
    obtain ⟨b, off, rfl, hc⟩ := HCELL.out (by omega)
    have cz := hc p (by omega)
    have hpd : p < ds.length := by rw [HDL.out]; omega
    have hK2 : dv (ds.drop p) = ds.getD p 0 + 10000 * K := by
     rw [List.drop_eq_getElem_cons hpd, hK, getD_at hpd]
     rfl
    have hb1 := dv_drop_le HDB.out p (by omega)
    have hb2 := dv_drop_le HDB.out (p + 1) (by omega)
    rw [← hK] at hb2
    have hx := HDB.out p
    have h3 := HDV.out
    generalize ds.getD p 0 = x at *
    obtain ⟨K2, hKK⟩ : ∃ K2, dv (ds.drop p) = K2 := ⟨_, rfl⟩
    rw [hKK] at hK2 hb1
    have hk0 : 0 ≤ K := hb2.1
    have hk1 : K * 10000 < 100000 := by omega
    have hk2 : K * 10000 + x = K2 := by omega
    have hk3 : 0 ≤ K2 := hb1.1
    have hk4 : K2 < 100000 := by omega
    have w1' : IntKind.i64.wrap (K * 10000) = K * 10000 := by rw [IntKind.wrap_i64]; omega
    have w2' : IntKind.i64.wrap K2 = K2 := by rw [IntKind.wrap_i64]; omega
    have HKK := hide hKK.symm
    clear hK hK2 hb1 hb2 h3 hx hc hKK hiz
    go_wp2
    go_roundw
    case rel => exact ⟨p, (p : Int) - 1, K2, by omega, rfl, HKK.out, by go_num, by go_num, by first | rfl | trivial⟩
    case measure => simp [intOf]
 ·obtain ⟨rfl, hb1⟩ := hbad hg
  have HX : Hid (∀ y : Int, -999 ≤ y → y ≤ 999 → t ≠ itoS y) := fun y _ _ e => by
   obtain ⟨t2, n2, f1, f2, -⟩ := txt_reads y
   have e2 : (⟨(txt y).toArray⟩ : ByteArray) = t := e.symm
   rw [e2] at f1
   obtain ⟨rfl, rfl⟩ := falls_one HF.out f1
   exact hg f2
  have hbA := alloc_below w1 (.cells #[.int .i64 0, .slice none 0 0] 95)
  have HB2 := hide (hb1.trans (hbA.mono hb1.size))
  clear hgood hbad hb1 hbA hg
  go_wp2
  go_ret2
  exact small_no HB2.out HX.out

end Go.Proofs.YtjdnhdcaifogmaaGreatDoor

/- The words of a catalog's lines: without memory. -/
namespace Go.Proofs.YtjdnhdcaifogmaaGreatDoor
open Go.RowKit

def lineB (x : Nmd) : List UInt8 := headT x ++ x.gens.flatMap genT

theorem lines_of {cs : List Nmd} (h : ∀ x ∈ cs, NmOk x) : pcs 10 (textC cs) = cs.map lineB ++ [[]] := by
 induction cs with
 | nil => rfl
 | cons x t ih =>
  have hx := h x (by simp)
  have ih := ih (fun y hy => h y (List.mem_cons_of_mem _ hy))
  have e : textC (x :: t) = lineB x ++ 10 :: textC t := by
   unfold textC lineB
   rw [List.flatMap_cons]
   unfold lineT
   simp
  have hl : (10 : UInt8) ∉ lineB x := line_not hx
  rw [e, pcs_cut 10 _ _ hl, ih]
  rfl

theorem ito_not (z : Int) (c : UInt8) (hc : c = 32 ∨ c = 59) : c ∉ Lib.itoa z := fun h => by
 have h1 := numC_not (ito_chars z c h)
 rcases hc with rfl | rfl
 ·exact h1.1 rfl
 ·exact h1.2.1 rfl

def restJ : List Int → List (List Int) → List UInt8
 | [], _ => []
 | z :: zs, gs => Lib.itoa z ++ (zs.flatMap numS ++ gs.flatMap genT)

theorem restJ_cons (z : Int) (zs : List Int) (gs : List (List Int)) : restJ (z :: zs) gs = Lib.itoa z ++ (zs.flatMap numS ++ gs.flatMap genT) := rfl

def toksG : List (List Int) → List ByteArray
 | [] => []
 | g :: gs => (pcs 32 (restJ g gs)).map bytesP

def tokJ (z : Int) (b : Bool) : ByteArray := bytesP (Lib.itoa z ++ if b then [59] else [])

theorem tok_more (z y : Int) (ys : List Int) (gs : List (List Int)) : (pcs 32 (restJ (z :: y :: ys) gs)).map bytesP = tokJ z false :: (pcs 32 (restJ (y :: ys) gs)).map bytesP := by
 have e : restJ (z :: y :: ys) gs = Lib.itoa z ++ 32 :: restJ (y :: ys) gs := by
  rw [restJ_cons, restJ_cons, List.flatMap_cons]
  unfold numS
  simp
 rw [e, pcs_cut 32 _ _ (ito_not z 32 (.inl rfl)), List.map_cons]
 unfold tokJ
 simp

theorem tok_end (z : Int) : (pcs 32 (restJ [z] [])).map bytesP = [tokJ z false] := by
 have e : restJ [z] [] = Lib.itoa z := by rw [restJ_cons]; simp
 rw [e, pcs_plain 32 _ (ito_not z 32 (.inl rfl))]
 unfold tokJ
 simp

theorem tok_next (z : Int) (g : List Int) (gs : List (List Int)) (hg : g ≠ []) : (pcs 32 (restJ [z] (g :: gs))).map bytesP = tokJ z true :: (pcs 32 (restJ g gs)).map bytesP := by
 obtain ⟨y, ys, rfl⟩ := List.exists_cons_of_ne_nil hg
 have e : restJ [z] ((y :: ys) :: gs) = (Lib.itoa z ++ [59]) ++ 32 :: restJ (y :: ys) gs := by
  rw [restJ_cons, restJ_cons, List.flatMap_nil, List.flatMap_cons, genT_num hg, List.flatMap_cons]
  unfold numS
  simp
 have hn : (32 : UInt8) ∉ Lib.itoa z ++ [59] := fun h => by
  rcases List.mem_append.1 h with h | h
  ·exact ito_not z 32 (.inl rfl) h
  ·exact absurd h (by decide)
 rw [e, pcs_cut 32 _ _ hn, List.map_cons]
 unfold tokJ
 simp

theorem tok_last (z : Int) (gs : List (List Int)) (hgs : ∀ g ∈ gs, g ≠ []) : (pcs 32 (restJ [z] gs)).map bytesP = tokJ z (decide (0 < gs.length)) :: toksG gs := by
 cases gs with
 | nil => exact tok_end z
 | cons g gs' =>
  have : decide (0 < (g :: gs').length) = true := by simp
  rw [tok_next z g gs' (hgs g (by simp)), this]
  rfl

theorem line_toks {x : Nmd} (h : NmOk x) (hg : ∀ g ∈ x.gens, g ≠ []) : (pcs 32 (lineB x)).map bytesP = x.name :: tokJ x.n (decide (0 < x.gens.length)) :: toksG x.gens := by
 have e : lineB x = x.name.data.toList ++ 32 :: restJ [x.n] x.gens := by
  rw [restJ_cons]
  unfold lineB headT
  simp
 have e2 : bytesP x.name.data.toList = x.name := by apply ByteArray.ext; simp [bytesP]
 rw [e, pcs_cut 32 _ _ (name_not x.name h.name 32 (by decide)), List.map_cons, tok_last _ _ hg, e2]

theorem gens_ne {x : Nmd} (h : NmOk x) : ∀ g ∈ x.gens, g ≠ [] := fun g hg e => by
 have h1 := (genF_ok.1 (h.gens g hg)).1
 have h2 := h.n
 rw [e] at h1
 simp at h1
 omega

def semiB (t : ByteArray) : Bool := decide (0 < t.size) && (byt t (t.size - 1) == 59)
def stripB (t : ByteArray) : ByteArray := if semiB t then t.extract 0 (t.size - 1) else t

theorem byt_last (l : List UInt8) (a : UInt8) : byt (bytesP (l ++ [a])) (l.length) = (a.toNat : Int) := by
 unfold bytesP
 rw [byt_listT]
 simp

theorem semi_tok (z : Int) (b : Bool) : semiB (tokJ z b) = b ∧ stripB (tokJ z b) = itoS z := by
 cases b with
 | true =>
  have e : tokJ z true = bytesP (Lib.itoa z ++ [59]) := by unfold tokJ; simp
  have hs : (tokJ z true).size = (Lib.itoa z).length + 1 := by rw [e, bytesP_size]; simp
  have h1 : semiB (tokJ z true) = true := by
   unfold semiB
   rw [hs, Nat.add_sub_cancel, e, byt_last]
   simp
  refine ⟨h1, ?_⟩
  unfold stripB
  rw [h1, if_pos rfl, hs, Nat.add_sub_cancel, e, extract_bytes]
  unfold itoS bytesP
  simp
 | false =>
  have e : tokJ z false = itoS z := by unfold tokJ itoS bytesP; simp
  have h1 : semiB (tokJ z false) = false := by
   unfold semiB
   rw [e]
   obtain ⟨l, a, hl⟩ : ∃ l a, Lib.itoa z = l ++ [a] := by
    rcases List.eq_nil_or_concat (Lib.itoa z) with h | ⟨l, a, h⟩
    ·exfalso
     have h2 := atoi_itoa z
     rw [h] at h2
     exact absurd h2 (by simp [Lib.atoi])
    ·exact ⟨l, a, by simpa using h⟩
   have e2 : itoS z = bytesP (l ++ [a]) := by unfold itoS bytesP; rw [hl]
   have hs : (itoS z).size = l.length + 1 := by rw [e2, bytesP_size]; simp
   have ha : a ≠ 59 := fun h => ito_not z 59 (.inr rfl) (by rw [hl, h]; simp)
   rw [hs, Nat.add_sub_cancel, e2, byt_last]
   have : ((a.toNat : Int) == 59) = false := by
    rw [beq_eq_false_iff_ne]
    intro h
    apply ha
    apply UInt8.toNat_inj.1
    have : (59 : UInt8).toNat = 59 := rfl
    omega
   rw [this]
   simp
  refine ⟨h1, ?_⟩
  unfold stripB
  rw [h1]
  exact e

end Go.Proofs.YtjdnhdcaifogmaaGreatDoor

/- The reference: a catalog of a text. -/
namespace Go.Proofs.YtjdnhdcaifogmaaGreatDoor
open Go.RowKit

def CatOfP (w : World) (s : ByteArray) (e : Ending) (w' : World) : Prop :=
 (((∀ cs, CatOk cs → s ≠ bytesP (textC cs)) ∧ e = (.returned (.tuple #[.slice none 0 0, .int .i64 5]))) ∨ ∃ u qs, e = .returned (.tuple #[u, .int .i64 0]) ∧ CatN w' u qs ∧ CatOk (qs.map (·.x)) ∧ s = bytesP (textC (qs.map (·.x)))) ∧ Below w.heap.size w w'

def IntsO (base : Nat) (W : World) (v : Value) (zs : List Int) : Prop := W.ownsRow base 3 1 v zs.length (zs.map (Value.int .i64)) ∧ ∀ z ∈ zs, -100000 < z ∧ z < 100000

theorem IntsO.row {base : Nat} {W : World} {v : Value} {zs : List Int} (h : IntsO base W v zs) : ∃ o c, v = .slice o zs.length c ∧ RowS W (.slice o zs.length c) zs := by
 obtain ⟨o, c, rfl, hle⟩ := owns_form h.1
 refine ⟨o, c, rfl, o, c, rfl, hle, fun i => ?_, fun h0 => ?_⟩
 ·by_cases hi : i < zs.length
  ·rw [getD_at hi]
   have := h.2 _ (List.getElem_mem hi)
   omega
  ·rw [List.getD_eq_getElem?_getD, List.getElem?_eq_none (by omega)]
   simp
 ·rcases h.1.2 with ⟨e', e0⟩ | ⟨g, cap, cur, e', -, hg, -⟩
  ·omega
  ·simp only [Value.slice.injEq, true_and] at e'
   obtain ⟨rfl, rfl⟩ := e'
   refine ⟨g, 0, rfl, heap_lt hg, fun i hi => ?_⟩
   have := World.ownsRow.cells (g := g) h.1 rfl i (.int .i64 (zs.getD i 0)) (by rw [List.getElem?_map, List.getElem?_eq_getElem hi, getD_at hi]; rfl)
   rw [Go.WideShapes.add_plain] at this
   exact this

theorem IntsO.nil (base : Nat) (W : World) : IntsO base W (.slice none 0 0) [] := ⟨World.ownsRow_nil _ _ _ _, fun z hz => absurd hz (by simp)⟩

theorem IntsO.later {base : Nat} {W W' : World} {v : Value} {zs : List Int} (h : IntsO base W v zs) (hb : Below W.heap.size W W') : IntsO base W' v zs := ⟨ownsRow_later h.1 hb, h.2⟩

theorem Tryz.infoIntQ : (Tryz.prog.info? 3).map (fun i => (i.zero, i.size, i.bytes)) = some (some (.int .i64 0), 1, 8) := by kernel_rfl

theorem IntsO.snoc {W : World} {base : Nat} {v : Value} {zs : List Int} (h : IntsO base W v zs) (hbase : base ≤ W.heap.size) (z : Int) (hz : -100000 < z ∧ z < 100000) (hn : zs.length ≤ 100000) :
  ∃ o c W', (Builtin.append_ #[44, 44] 44 #[v, .slice (some ⟨W.heap.size, 0, none⟩) 1 1]).run Tryz.prog (W.alloc (.cells #[.int .i64 z] 3)) = .ok (.slice o (zs.length + 1) c) W' ∧ IntsO base W' (.slice o (zs.length + 1) c) (zs ++ [z]) ∧ Below base W W' := by
 obtain ⟨j0, hj, hy0, hy1, hy2⟩ := info_got Tryz.infoIntQ
 obtain ⟨o, c, W', hr, hown, hb⟩ := own_snoc (P := Tryz.prog) W base hbase 44 44 3 j0 _ 1 8 (by kernel_rfl) hj hy0 hy1 hy2 rfl (by decide) v zs.length _ h.1 #[.int .i64 z] 3 rfl (fun y hy => by
  rw [List.mem_singleton] at hy
  rw [hy]; rfl) (by unfold maxLen; omega) (by omega)
 refine ⟨o, c, W', hr, ⟨?_, fun y hy => ?_⟩, hb⟩
 ·rw [List.length_append, List.map_append]
  exact hown
 ·rcases List.mem_append.1 hy with hy | hy
  ·exact h.2 y hy
  ·rw [List.mem_singleton] at hy
   rw [hy]
   exact hz

def boolN : Value → Nat
 | .bool true => 1
 | _ => 0

theorem drop_at {α : Type} {l : List α} {k : Nat} {a : α} {t : List α} (h : l.drop k = a :: t) : l[k]? = some a ∧ l.drop (k + 1) = t := by
 have hk : k < l.length := by
  have := congrArg List.length h
  rw [List.length_drop, List.length_cons] at this
  omega
 rw [List.drop_eq_getElem_cons hk] at h
 obtain ⟨h1, h2⟩ := List.cons.inj h
 exact ⟨by rw [List.getElem?_eq_getElem hk, h1], h2⟩

theorem refRes_ok {w w' : World} {r : Nat × List Nmd} {e : Ending} (h : RefRes w r e w') : (r.1 ≠ 0 ∧ e = .returned (.tuple #[.slice none 0 0, .int .i64 (r.1 : Int)]) ∧ Below w.heap.size w w') ∨ (r.1 = 0 ∧ ∃ o n k qs, e = .returned (.tuple #[.slice o n k, .int .i64 0]) ∧ CatN w' (.slice o n k) qs ∧ qs.map (·.x) = r.2 ∧ Below w.heap.size w w') := by
 obtain ⟨⟨h1, h2⟩ | ⟨h1, u, qs, h2, h3, h4⟩, hb⟩ := h
 ·exact .inl ⟨h1, h2, hb⟩
 ·obtain ⟨o, c, rfl, -⟩ := id h4
  exact .inr ⟨h1, o, _, c, qs, h2, h4, h3, hb⟩

def At2 (s : ByteArray) (i : Nat) (ws : List ByteArray) (cs0 : List Nmd) (m : Bool) (a : Nat) : Prop :=
 ∀ cs, CatOk cs → s = bytesP (textC cs) → ∃ x k, cs[i]? = some x ∧ k ≤ x.gens.length ∧ ws[0]? = some x.name ∧ cs0 = cs.take i ++ [⟨x.name, x.n, x.gens.take k⟩] ∧ m = decide (k < x.gens.length) ∧ ws.drop a = toksG (x.gens.drop k)

def At3 (s : ByteArray) (i : Nat) (ws : List ByteArray) (cs0 : List Nmd) (m : Bool) (a : Nat) (zs : List Int) : Prop :=
 ∀ cs, CatOk cs → s = bytesP (textC cs) → ∃ x k g j, cs[i]? = some x ∧ x.gens[k]? = some g ∧ j ≤ g.length ∧ ws[0]? = some x.name ∧ cs0 = cs.take i ++ [⟨x.name, x.n, x.gens.take k⟩] ∧ zs = g.take j ∧
  (j < g.length → m = false ∧ ws.drop a = (pcs 32 (restJ (g.drop j) (x.gens.drop (k + 1)))).map bytesP) ∧ (j = g.length → m = decide (k + 1 < x.gens.length) ∧ ws.drop a = toksG (x.gens.drop (k + 1)))

theorem At2.start {s : ByteArray} {i a : Nat} {ws : List ByteArray} {cs0 : List Nmd} (h : At2 s i ws cs0 true a) : At3 s i ws cs0 false a [] := fun cs hc hs => by
 obtain ⟨x, k, h1, h2, h3, h4, h5, h6⟩ := h cs hc hs
 have hk : k < x.gens.length := of_decide_eq_true h5.symm
 have hxo := hc.all x (List.mem_of_getElem? h1)
 have hg := gens_ne hxo x.gens[k] (List.getElem_mem hk)
 refine ⟨x, k, x.gens[k], 0, h1, List.getElem?_eq_getElem hk, Nat.zero_le _, h3, h4, rfl, fun _ => ⟨rfl, ?_⟩, fun h0 => absurd (List.length_pos_iff.2 hg) (by omega)⟩
 rw [h6, List.drop_eq_getElem_cons hk]
 rfl

theorem At3.tok {s : ByteArray} {i a : Nat} {ws : List ByteArray} {cs0 : List Nmd} {zs : List Int} {t : ByteArray} (h : At3 s i ws cs0 false a zs) (ht : ws[a]? = some t) {cs : List Nmd} (hc : CatOk cs) (hs : s = bytesP (textC cs)) : ∃ z : Int, -999 ≤ z ∧ z ≤ 999 ∧ stripB t = itoS z := by
 obtain ⟨x, k, g, j, h1, h2, h3, h4, h5, h6, h7, h8⟩ := h cs hc hs
 have hxo := hc.all x (List.mem_of_getElem? h1)
 have ha := (List.getElem?_eq_some_iff.1 ht).1
 have hj : j < g.length := by
  rcases Nat.lt_or_ge j g.length with hj | hj
  ·exact hj
  ·obtain ⟨e1, e2⟩ := h8 (by omega)
   have e3 : ¬ k + 1 < x.gens.length := fun hk => by rw [decide_eq_true hk] at e1; cases e1
   have hd0 : x.gens.drop (k + 1) = [] := List.drop_of_length_le (by omega)
   rw [hd0] at e2
   have := congrArg List.length e2
   rw [List.length_drop] at this
   simp [toksG] at this
   omega
 obtain ⟨-, e2⟩ := h7 hj
 have hz := (genF_ok.1 (hxo.gens g (List.mem_of_getElem? h2))).2 g[j] (List.getElem_mem hj)
 refine ⟨g[j], hz.1, hz.2, ?_⟩
 have hgs : ∀ y ∈ x.gens.drop (k + 1), y ≠ [] := fun y hy => gens_ne hxo y (List.mem_of_mem_drop hy)
 rw [List.drop_eq_getElem_cons hj] at e2
 cases hd : g.drop (j + 1) with
 | nil =>
  rw [hd, tok_last _ _ hgs] at e2
  have := (drop_at e2).1
  rw [ht] at this
  rw [Option.some.inj this]
  exact (semi_tok _ _).2
 | cons y ys =>
  rw [hd, tok_more] at e2
  have := (drop_at e2).1
  rw [ht] at this
  rw [Option.some.inj this]
  exact (semi_tok _ _).2

theorem At3.next {s : ByteArray} {i a : Nat} {ws : List ByteArray} {cs0 : List Nmd} {zs : List Int} {t : ByteArray} {v : Int} (h : At3 s i ws cs0 false a zs) (ht : ws[a]? = some t) (hv : ∀ y : Int, -999 ≤ y → y ≤ 999 → stripB t = itoS y → v = y) : At3 s i ws cs0 (semiB t) (a + 1) (zs ++ [v]) := fun cs hc hs => by
 obtain ⟨x, k, g, j, h1, h2, h3, h4, h5, h6, h7, h8⟩ := h cs hc hs
 have hxo := hc.all x (List.mem_of_getElem? h1)
 have ha := (List.getElem?_eq_some_iff.1 ht).1
 have hj : j < g.length := by
  rcases Nat.lt_or_ge j g.length with hj | hj
  ·exact hj
  ·obtain ⟨e1, e2⟩ := h8 (by omega)
   have e3 : ¬ k + 1 < x.gens.length := fun hk => by rw [decide_eq_true hk] at e1; cases e1
   have hd0 : x.gens.drop (k + 1) = [] := List.drop_of_length_le (by omega)
   rw [hd0] at e2
   have := congrArg List.length e2
   rw [List.length_drop] at this
   simp [toksG] at this
   omega
 obtain ⟨-, e2⟩ := h7 hj
 have hz := (genF_ok.1 (hxo.gens g (List.mem_of_getElem? h2))).2 g[j] (List.getElem_mem hj)
 have hgs : ∀ y ∈ x.gens.drop (k + 1), y ≠ [] := fun y hy => gens_ne hxo y (List.mem_of_mem_drop hy)
 have hkl := (List.getElem?_eq_some_iff.1 h2).1
 have htk : zs ++ [g[j]] = g.take (j + 1) := by rw [h6, List.take_succ_eq_append_getElem hj]
 rw [List.drop_eq_getElem_cons hj] at e2
 cases hd : g.drop (j + 1) with
 | nil =>
  have hl : j + 1 = g.length := by
   have := congrArg List.length hd
   rw [List.length_drop] at this
   simp at this
   omega
  rw [hd, tok_last _ _ hgs] at e2
  obtain ⟨f1, f2⟩ := drop_at e2
  rw [ht] at f1
  obtain ⟨g1, g2⟩ := semi_tok g[j] (decide (0 < (x.gens.drop (k + 1)).length))
  rw [← Option.some.inj f1] at g1 g2
  have hvz := hv _ hz.1 hz.2 g2
  refine ⟨x, k, g, j + 1, h1, h2, by omega, h4, h5, by rw [hvz]; exact htk, fun h => by omega, fun _ => ⟨?_, f2⟩⟩
  rw [g1, List.length_drop]
  by_cases hk : k + 1 < x.gens.length
  ·rw [decide_eq_true hk, decide_eq_true (by omega)]
  ·rw [decide_eq_false hk, decide_eq_false (by omega)]
 | cons y ys =>
  have hl : j + 1 < g.length := by
   have := congrArg List.length hd
   rw [List.length_drop] at this
   simp at this
   omega
  rw [hd, tok_more] at e2
  obtain ⟨f1, f2⟩ := drop_at e2
  rw [ht] at f1
  obtain ⟨g1, g2⟩ := semi_tok g[j] false
  rw [← Option.some.inj f1] at g1 g2
  have hvz := hv _ hz.1 hz.2 g2
  refine ⟨x, k, g, j + 1, h1, h2, by omega, h4, h5, by rw [hvz]; exact htk, fun _ => ⟨g1, ?_⟩, fun h => by omega⟩
  rw [f2, hd]

theorem At3.done {s : ByteArray} {i a : Nat} {ws : List ByteArray} {cs0 : List Nmd} {zs : List Int} {m : Bool} (h : At3 s i ws cs0 m a zs) (hend : m = true ∨ ws.length ≤ a) {cs : List Nmd} (hc : CatOk cs) (hs : s = bytesP (textC cs)) : ∃ x k, cs[i]? = some x ∧ k + 1 ≤ x.gens.length ∧ ws[0]? = some x.name ∧ cs0 = cs.take i ++ [⟨x.name, x.n, x.gens.take k⟩] ∧ x.gens.take (k + 1) = x.gens.take k ++ [zs] ∧ m = decide (k + 1 < x.gens.length) ∧ ws.drop a = toksG (x.gens.drop (k + 1)) := by
 obtain ⟨x, k, g, j, h1, h2, h3, h4, h5, h6, h7, h8⟩ := h cs hc hs
 have hkl := (List.getElem?_eq_some_iff.1 h2).1
 have hj : j = g.length := by
  rcases Nat.lt_or_ge j g.length with hj | hj
  ·obtain ⟨e1, e2⟩ := h7 hj
   rcases hend with h | h
   ·rw [e1] at h; cases h
   ·rw [List.drop_of_length_le h] at e2
    have := congrArg List.length e2
    rw [List.length_map] at this
    exact absurd (List.eq_nil_of_length_eq_zero this.symm) (pcs_ne 32 _)
  ·omega
 obtain ⟨e1, e2⟩ := h8 hj
 refine ⟨x, k, h1, by omega, h4, h5, ?_, e1, e2⟩
 rw [List.take_succ_eq_append_getElem hkl, (List.getElem?_eq_some_iff.1 h2).2, h6, hj, List.take_length]

end Go.Proofs.YtjdnhdcaifogmaaGreatDoor
