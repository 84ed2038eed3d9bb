/- pack.Parse: a catalog of its text. -/
import Derived.Test.YtjdnhdcaifogmaaGreatDoorBpQ
import Derived.Shelf.Strconv.AtoiAll
import Derived.Test.YtjdnhdcaifogmaaGreatDoorBpC

namespace Go.Proofs.YtjdnhdcaifogmaaGreatDoor
open Go.RowKit

theorem catOk_take {cs : List Nmd} (h : CatOk cs) (k : Nat) : CatOk (cs.take k) :=
 ⟨h.rise.sublist (List.take_sublist _ _), by have := h.few; rw [List.length_take]; omega, fun x hx => h.all x (List.mem_of_mem_take hx)⟩

theorem line_not {x : Nmd} (h : NmOk x) : (10 : UInt8) ∉ headT x ++ x.gens.flatMap genT := by
 rw [List.mem_append]
 rintro (h1 | h1)
 ·exact head_not h 10 (.inr rfl) h1
 ·obtain ⟨g, -, hg⟩ := List.mem_flatMap.1 h1
  unfold genT at hg
  rcases List.mem_append.1 hg with h2 | h2
  ·exact absurd h2 (by decide)
  ·exact numT_not 10 (.inr rfl) g h2

theorem text_cut {x : Nmd} (t : List Nmd) (h : NmOk x) : Lib.cut (textC (x :: t)) [10] = (headT x ++ x.gens.flatMap genT, textC t, true) := by
 have e : textC (x :: t) = (headT x ++ x.gens.flatMap genT) ++ 10 :: textC t := by
  unfold textC
  rw [List.flatMap_cons]
  unfold lineT
  simp
 rw [e]
 exact cut_hit 10 _ _ (line_not h)

theorem text_len {cs : List Nmd} (h : ∀ x ∈ cs, NmOk x) : (textC cs).length ≤ 234 * cs.length := by
 induction cs with
 | nil => simp [textC]
 | cons x t ih =>
  have h1 := lineT_len (h x (by simp))
  have h2 := ih (fun y hy => h y (List.mem_cons_of_mem _ hy))
  unfold textC at h2 ⊢
  rw [List.flatMap_cons, List.length_append, List.length_cons]
  omega

theorem bytesP_size (l : List UInt8) : (bytesP l).size = l.length := by
 show l.toArray.size = _
 rw [List.size_toArray]

theorem bytesP_ne {l : List UInt8} (h : l ≠ []) : bytesP l ≠ ⟨#[]⟩ := fun e => by
 have := congrArg ByteArray.size e
 rw [bytesP_size] at this
 exact h (List.eq_nil_of_length_eq_zero this)

theorem textC_ne {x : Nmd} (t : List Nmd) : textC (x :: t) ≠ [] := fun e => by
 have := congrArg List.length e
 unfold textC lineT at this
 simp at this

set_option linter.unusedSimpArgs false in
set_option maxRecDepth 100000 in
set_option maxHeartbeats 1600000 in
theorem parse_ok (w : World) (s : ByteArray) (cs : List Nmd) (hok : CatOk cs) (ht : TabP w) (hm : MaxL w) (hs : s = bytesP (textC cs)) :
  Calls Tryz.prog 9 #[.string s] w fun e w' => CatRes w (0, cs) e w' := by
 have hsz : s.size ≤ 1000000 := by
  have h1 := text_len hok.all; have h2 := hok.few
  rw [hs, bytesP_size]
  omega
 have HOK := hide hok; have HT := hide ht; have HM := hide hm; have HS := hide hs; have HSZ := hide hsz
 have hb1 := alloc_below w (.cells #[.slice none 0 0] 27)
 have hb2 := alloc_below (w.alloc (.cells #[.slice none 0 0] 27)) (.cells #[.slice none 0 0] 27)
 have X2 := hide ((One.new w (.slice none 0 0) 27).later hb2)
 have hx4 := One.new (w.alloc (.cells #[.slice none 0 0] 27)) (.slice none 0 0) 27
 have hs1 : (w.alloc (.cells #[.slice none 0 0] 27)).heap.size = w.heap.size + 1 := by simp
 rw [hs1] at hx4
 have X4 := hide hx4
 have HB := hide (hb1.trans (hb2.mono hb1.size))
 clear hb1 hb2 hx4 hs1 hok ht hm hs hsz
 go_enter Tryz.func9, Tryz.ntmps9
 go_wp2_with fail
 generalize (w.alloc (.cells #[.slice none 0 0] 27)).alloc (.cells #[.slice none 0 0] 27) = W2 at *
 have HC0 := hide (catN_nil W2)
 go_loopw [5] (fun tl wr => ∃ (k : Nat) (TK : ByteArray) (co : Option Addr) (cl ck : Nat) (qs' : List Nc), k ≤ cs.length ∧ tl = .string TK ∧ Hid (TK = bytesP (textC (cs.drop k))) ∧ Hid (TK.size ≤ 1000000) ∧ Hid (One wr (w.heap.size + 1) (.slice co cl ck)) ∧ Hid (CatN wr (.slice co cl ck) qs') ∧ Hid (qs'.map (·.x) = cs.take k) ∧ Hid (One wr w.heap.size (.slice none 0 0)) ∧ Hid (Below w.heap.size w wr)) (fun tl _ => strSz tl)
 case atStart => exact ⟨0, s, none, 0, 0, [], Nat.zero_le _, rfl, hide (by rw [List.drop_zero]; exact HS.out), HSZ, X4, HC0, hide rfl, X2, HB⟩
 case round =>
  clear HC0 X2 X4 HB
  obtain ⟨k, TK, co, cl, ck, q', hk, rfl, HTK, HTS, X4, HC, HQ, X2, HB⟩ := hrel
  by_cases hkl : k < cs.length
  ·have hdr : cs.drop k = cs[k] :: cs.drop (k + 1) := List.drop_eq_getElem_cons hkl
   have HNO : Hid (NmOk cs[k]) := HOK.out.all _ (List.getElem_mem hkl)
   have hcut : Lib.cut TK.data.toList (⟨#[10]⟩ : ByteArray).data.toList = (headT cs[k] ++ cs[k].gens.flatMap genT, textC (cs.drop (k + 1)), true) := by
    rw [HTK.out, hdr]
    exact text_cut _ HNO.out
   have HCUT := hide hcut
   have hne : TK ≠ ⟨#[]⟩ := by rw [HTK.out, hdr]; exact bytesP_ne (textC_ne _)
   have g1 : TK.toList.isEmpty = false := by
    rw [Lib.toList_data]
    cases h : TK.data.toList with
    | nil => exact absurd (ByteArray.ext (Array.toList_inj.1 h)) hne
    | cons => rfl
   have HLS : Hid ((bytesP (textC (cs.drop (k + 1)))).size < TK.size) := by
    show _ < _
    rw [HTK.out, hdr, bytesP_size, bytesP_size]
    unfold textC
    rw [List.flatMap_cons, List.length_append]
    unfold lineT
    simp
    omega
   have HXT : Hid (cs.take (k + 1) = cs.take k ++ [cs[k]]) := by show _ = _; rw [List.take_succ_eq_append_getElem hkl]
   clear hdr hcut hne
   generalize cs[k] = x at *
   go_wp2_with fail
   clear g1
   refine (cutP_any wr (HM.out.below HB.out) TK ⟨#[10]⟩ HTS.out _ _ _ HCUT.out).mono ?_
   rintro e w3 ⟨rfl, hb3⟩
   obtain ⟨T1, hT1⟩ : ∃ T1, bytesP (textC (cs.drop (k + 1))) = T1 := ⟨_, rfl⟩
   obtain ⟨L1, hL1⟩ : ∃ L1, bytesP (headT x ++ x.gens.flatMap genT) = L1 := ⟨_, rfl⟩
   rw [hT1, hL1]
   rw [hT1] at HLS
   have HT1 := hide hT1.symm; have HL1 := hide hL1.symm
   have X2a := hide (X2.out.later hb3); have X4a := hide (X4.out.later hb3); have HBa := hide (HB.out.trans (hb3.mono HB.out.size)); have HCa := hide (HC.out.below hb3)
   clear hT1 hL1 hb3 X2 X4 HB HC HCUT HTK
   obtain ⟨c4, -, -⟩ := X4a.out
   go_wp2_with fail
   clear c4
   refine (withLine_ok w3 _ q' x L1 ⟨_, rfl, HCa.out⟩ (by rw [HQ.out, ← HXT.out]; exact catOk_take HOK.out _) (HM.out.below HBa.out) HL1.out).mono ?_
   rintro e w4 hres
   rw [HQ.out, ← HXT.out] at hres
   obtain ⟨o4, n4, k4, q4, rfl, hc4, hm4, hb4⟩ := catRes_ok hres
   have hbA := alloc_below w4 (.cells #[.slice o4 n4 k4] 27)
   have X9 := hide (One.new w4 (.slice o4 n4 k4) 27)
   have X2b := hide ((X2a.out.later hb4).later hbA); have X4b := hide ((X4a.out.later hb4).later hbA)
   have HBb := hide ((HBa.out.trans (hb4.mono HBa.out.size)).trans (hbA.mono (HBa.out.trans (hb4.mono HBa.out.size)).size))
   have HCb := hide (hc4.below hbA); have HQb := hide hm4; have HCx := hide ((HCa.out.below hb4).below hbA)
   have HNE := hide (nonE_of_ok (by rw [hm4]; exact (catOk_take HOK.out (k + 1)).all))
   have HTS1 : Hid (T1.size ≤ 1000000) := Nat.le_trans (Nat.le_of_lt HLS.out) HTS.out
   clear hres hc4 hm4 hb4 hbA X2a X4a HBa HCa HQ
   obtain ⟨c9, c9', -⟩ := X9.out
   obtain ⟨c4, c4', -⟩ := X4b.out
   have X4d := hide (X4b.out.writeP (.slice o4 n4 k4))
   have X2d := hide (X2b.out.other (p := ⟨w.heap.size + 1, 0, none⟩) (by show w.heap.size + 1 ≠ w.heap.size; omega) (.slice o4 n4 k4))
   have HBd := hide (HBb.out.setCell (p := ⟨w.heap.size + 1, 0, none⟩) (by show w.heap.size ≤ w.heap.size + 1; omega) (.slice o4 n4 k4))
   have HCd := hide (HCb.out.setVarP HNE.out X4b.out.1 HCx.out (.slice o4 n4 k4))
   clear X9 X2b X4b HBb HCb HCx
   go_wp2
   go_roundw
   case rel => exact ⟨k + 1, T1, o4, n4, k4, q4, by omega, rfl, HT1, HTS1, X4d, HCd, HQb, X2d, HBd⟩
   case measure => exact HLS.out
  ·obtain rfl : k = cs.length := by omega
   have hq := HQ.out
   rw [List.take_length] at hq
   have hT : TK = ⟨#[]⟩ := by rw [HTK.out, List.drop_length]; rfl
   have g1 : TK.toList.isEmpty = true := by rw [hT, Lib.toList_data]; rfl
   clear hT
   have HQ2 := hide hq
   clear hq HTK HTS HQ
   obtain ⟨c4, -, -⟩ := X4.out
   go_wp2_with fail
   clear c4 g1
   refine (textP_any wr _ q' ⟨_, rfl, HC.out⟩ (by rw [HQ2.out]; exact HOK.out) (HT.out.below HB.out)).mono ?_
   rintro e w5 ⟨rfl, hb5⟩
   rw [HQ2.out]
   have hst : (⟨(textC cs).toArray⟩ : ByteArray) = s := HS.out.symm
   rw [hst]
   have X2a := hide (X2.out.later hb5); have X4a := hide (X4.out.later hb5); have HBa := hide (HB.out.trans (hb5.mono HB.out.size)); have HCa := hide (HC.out.below hb5)
   have HFIN : Hid (CatRes w (0, cs) (.returned (.tuple #[.agg #[.slice co cl ck], .nilIface])) (w5.setCell ⟨w.heap.size, 0, none⟩ (.slice co cl ck))) :=
    ⟨.inr ⟨rfl, _, q', rfl, HQ2.out, _, rfl, HCa.out.setOne (nonE_of_ok (by rw [HQ2.out]; exact HOK.out.all)) X2a.out.1 _⟩, HBa.out.setCell (p := ⟨w.heap.size, 0, none⟩) (Nat.le_refl _) _⟩
   clear hb5 hst X2 X4 HB HC HQ2
   obtain ⟨c4, -, -⟩ := X4a.out
   obtain ⟨r0, r1, -⟩ := X2a.out
   go_wp2
   exact bodyPost_ret (v := .tuple #[.agg #[.slice co cl ck], .nilIface]) (by simp [results, Tryz.results9, go_sem, r0]) rfl HFIN.out

end Go.Proofs.YtjdnhdcaifogmaaGreatDoor

/- strconv.Atoi of any text, laid at this translation. -/
namespace Go.Proofs
open Go.Shelf Go.RowKit

theorem Tryz.laysM172 : LaysM.n172 Tryz.prog Tryz.lays172_ren := { Tryz.lays172 with
 t80 := Tryz.underlying32
 a80 := Tryz.isAgg32
 z80 := Tryz.sizeOf32
 v80 := Tryz.zeroValue32
 i0 := by kernel_rfl
 i2 := by kernel_rfl
 i3 := by kernel_rfl
 i4 := by kernel_rfl
 i5 := by kernel_rfl
 i9 := by kernel_rfl
 i20 := by kernel_rfl
 i21 := by kernel_rfl
 i37 := by kernel_rfl
 i46 := by kernel_rfl
 i51 := by kernel_rfl
 i53 := by kernel_rfl
 i75 := by kernel_rfl
 i76 := by kernel_rfl
 i80 := by kernel_rfl
 i85 := by kernel_rfl
 i127 := by kernel_rfl
 i143 := by kernel_rfl
 i145 := by kernel_rfl
 i167 := by kernel_rfl
 i168 := by kernel_rfl
 i171 := by kernel_rfl
 i173 := by kernel_rfl
 i175 := by kernel_rfl
 i210 := by kernel_rfl
 i212 := by kernel_rfl
 i232 := by kernel_rfl
 i233 := by kernel_rfl
 m15 := by kernel_rfl
 m16 := by kernel_rfl
 m17 := by kernel_rfl
 m18 := by kernel_rfl
 m19 := by kernel_rfl
 }

theorem Tryz.laysC172 : LaysC.n172 Tryz.prog Tryz.lays172_ren := {
 toM := Tryz.laysM172
 c0 := by kernel_rfl
 c2 := by kernel_rfl
 c3 := by kernel_rfl
 c4 := by kernel_rfl
 c5 := by kernel_rfl
 c9 := by kernel_rfl
 c20 := by kernel_rfl
 c21 := by kernel_rfl
 c37 := by kernel_rfl
 c46 := by kernel_rfl
 c51 := by kernel_rfl
 c53 := by kernel_rfl
 c75 := by kernel_rfl
 c76 := by kernel_rfl
 c80 := by kernel_rfl
 c85 := by kernel_rfl
 c127 := by kernel_rfl
 c143 := by kernel_rfl
 c145 := by kernel_rfl
 c167 := by kernel_rfl
 c168 := by kernel_rfl
 c171 := by kernel_rfl
 c173 := by kernel_rfl
 c175 := by kernel_rfl
 c210 := by kernel_rfl
 c212 := by kernel_rfl
 c213 := by kernel_rfl
 c232 := by kernel_rfl
 c233 := by kernel_rfl
 }

theorem Tryz.atoi_any (s : ByteArray) (hs : s.size ≤ 1000000) (w : World) (e1 e2 : Value) (h1 : w.cell? ⟨1, 0, none⟩ = some e1) (k1 : e1 = .nilIface ∨ ∃ te pe, e1 = .iface te pe) (h2 : w.cell? ⟨2, 0, none⟩ = some e2) (k2 : e2 = .nilIface ∨ ∃ te pe, e2 = .iface te pe) :
  Calls Tryz.prog 50 #[.string s] w fun e w' => ∃ z ev, e = .returned (.tuple #[.int .i64 z, ev]) ∧ (ev = .nilIface ∨ ∃ te pe, ev = .iface te pe) ∧ (-9223372036854775808 ≤ z ∧ z ≤ 9223372036854775807) ∧ Below w.heap.size w w' := by
 cases h : Lib.atoiAll s.data.toList with
 | ok v =>
  refine (Any.strconv_Atoi_ok Tryz.laysC172 s (by omega) v h w).mono ?_
  rintro e w' ⟨rfl, hw⟩
  refine ⟨v, _, rfl, .inl rfl, Lib.atoiAll_bounds h, ?_⟩
  rcases hw with rfl | ⟨t, rfl⟩
  ·exact Below.refl _ _
  ·exact Lib.bytesWorld_below _ _ _
 | «syntax» =>
  refine (Any.strconv_Atoi_syntax Tryz.laysC172 s (by omega) h e1 w h1 k1).mono ?_
  rintro e w' ⟨N, rfl, -, -, hb⟩
  exact ⟨_, _, rfl, .inr ⟨_, _, rfl⟩, by decide, hb⟩
 | range =>
  refine (Any.strconv_Atoi_range Tryz.laysC172 s (by omega) h e2 w h2 k2).mono ?_
  rintro e w' ⟨N, rfl, -, -, hb⟩
  exact ⟨_, _, rfl, .inr ⟨_, _, rfl⟩, Lib.atoiSat_bounds _, hb⟩

end Go.Proofs

/- pack.withGen of any text: a catalog, or an error. -/
namespace Go.Proofs.YtjdnhdcaifogmaaGreatDoor
open Go.RowKit

def ErrSet (w : World) : Prop := (∃ e, w.cell? ⟨1, 0, none⟩ = some e ∧ (e = .nilIface ∨ ∃ te pe, e = .iface te pe) ∧ 1 < w.heap.size) ∧ ∃ e, w.cell? ⟨2, 0, none⟩ = some e ∧ (e = .nilIface ∨ ∃ te pe, e = .iface te pe) ∧ 2 < w.heap.size

theorem ErrSet.below {w w' : World} (h : ErrSet w) (hb : Below w.heap.size w w') : ErrSet w' := by
 obtain ⟨⟨e1, h1, h2, h3⟩, e2, k1, k2, k3⟩ := h
 exact ⟨⟨e1, (hb.cell (p := ⟨1, 0, none⟩) h3).trans h1, h2, Nat.lt_of_lt_of_le h3 hb.size⟩, e2, (hb.cell (p := ⟨2, 0, none⟩) k3).trans k1, k2, Nat.lt_of_lt_of_le k3 hb.size⟩

theorem atoi_all (w : World) (he : ErrSet w) (s : ByteArray) (hs : s.size ≤ 1000000) :
  Calls Tryz.prog 50 #[.string s] w fun e w' => ∃ z ev, e = .returned (.tuple #[.int .i64 z, ev]) ∧ (ev = .nilIface ∨ ∃ te pe, ev = .iface te pe) ∧ (-9223372036854775808 ≤ z ∧ z ≤ 9223372036854775807) ∧ Below w.heap.size w w' := by
 obtain ⟨⟨e1, h1, h2, -⟩, e2, k1, k2, -⟩ := he
 exact Go.Proofs.Tryz.atoi_any s hs w e1 e2 h1 h2 k1 k2

def CatA (w : World) (e : Ending) (w' : World) : Prop :=
 ((∃ te pe, e = .returned (.tuple #[.agg #[.slice none 0 0], .iface te pe])) ∨ ∃ o n k qs, e = .returned (.tuple #[.agg #[.slice o n k], .nilIface]) ∧ CatN w' (.slice o n k) qs ∧ CatOk (qs.map (·.x))) ∧ Below w.heap.size w w'

theorem catA_of {w w' : World} {cs : List Nmd} {o : OpV} {e : Ending} (hok : CatOk cs) (h : CatRes w (applyC cs o) e w') : CatA w e w' := by
 obtain ⟨⟨h1, h2⟩ | ⟨h1, u, qs, h2, h3, v, rfl, h4⟩, hb⟩ := h
 ·refine ⟨.inl ⟨71, .int .i64 ((applyC cs o).1 : Nat), ?_⟩, hb⟩
  rw [h2]
  unfold errV
  rw [if_neg h1]
 ·obtain ⟨ao, cap, rfl, -⟩ := id h4
  exact ⟨.inr ⟨ao, _, cap, qs, h2, h4, by rw [h3]; exact applyC_ok hok _ h1⟩, hb⟩

theorem split_sizes (sep : ByteArray) (save : Nat) : ∀ (k : Nat) (s : ByteArray), ∀ p ∈ Lib.splitB sep save k s, p.size ≤ s.size
 | 0, s, p, hp => by
  rw [Lib.splitB_zero, List.mem_singleton] at hp
  rw [hp]; exact Nat.le_refl _
 | k + 1, s, p, hp => by
  unfold Lib.splitB at hp
  split at hp
  ·rw [List.mem_singleton] at hp
   rw [hp]; exact Nat.le_refl _
  ·rcases List.mem_cons.1 hp with rfl | hp
   ·rw [ByteArray.size_extract]; omega
   ·have := split_sizes sep save k _ p hp
    rw [ByteArray.size_extract] at this
    omega

def FillA (base : Nat) (W : World) (P m : Nat) (zs : List Int) : Prop :=
 W.heap[P]? = some (.cells ((zs.map (Value.int .i64) ++ List.replicate (m - zs.length) (Value.int .i64 0)).toArray) 3 (0, 0)) ∧ zs.length ≤ m ∧ base ≤ P ∧ ∀ z ∈ zs, -9223372036854775808 ≤ z ∧ z ≤ 9223372036854775807

theorem FillA.start (W : World) (m : Nat) : FillA W.heap.size (W.alloc (.cells (madeCells #[.int .i64 0] m) 3)) W.heap.size m [] := by
 refine ⟨?_, Nat.zero_le _, Nat.le_refl _, fun z hz => absurd hz (by simp)⟩
 have h := heap_alloc_new W (.cells (madeCells #[.int .i64 0] m) 3)
 have e : madeCells #[Value.int .i64 0] m = (List.replicate m (Value.int .i64 0)).toArray := by
  apply Array.toList_inj.1
  rw [toList_madeCells_one]
 rw [h, e]
 simp

theorem FillA.cell {base : Nat} {W : World} {P m : Nat} {zs : List Int} (h : FillA base W P m zs) (hk : zs.length < m) : W.cell? ⟨P, zs.length, none⟩ = some (.int .i64 0) ∧ W.frozen? ⟨P, zs.length, none⟩ = false := by
 refine ⟨?_, by simp [World.frozen?, h.1]⟩
 rw [cell_of_row W P zs.length _ _ _ h.1, List.getElem?_toArray, List.getElem?_append_right (by rw [List.length_map]; exact Nat.le_refl _), List.length_map, Nat.sub_self, List.getElem?_replicate, if_pos (by omega)]

theorem FillA.put {base : Nat} {W : World} {P m : Nat} {zs : List Int} (h : FillA base W P m zs) (hk : zs.length < m) (z : Int) (hz : -9223372036854775808 ≤ z ∧ z ≤ 9223372036854775807) : FillA base (W.setCell ⟨P, zs.length, none⟩ (.int .i64 z)) P m (zs ++ [z]) := by
 refine ⟨?_, by rw [List.length_append, List.length_singleton]; omega, h.2.2.1, fun y hy => ?_⟩
 ·rw [heap_setCell_same W P zs.length _ _ (.int .i64 z) h.1, List.setIfInBounds_toArray, List.set_append_right _ _ (by rw [List.length_map]; exact Nat.le_refl _), List.length_map, Nat.sub_self, show m - zs.length = (m - (zs.length + 1)) + 1 by omega, List.replicate_succ, List.set_cons_zero, List.length_append, List.length_singleton, List.map_append]
  simp
 ·rcases List.mem_append.1 hy with hy | hy
  ·exact h.2.2.2 y hy
  ·rw [List.mem_singleton] at hy
   rw [hy]; exact hz

theorem FillA.later {base : Nat} {W W' : World} {P m : Nat} {zs : List Int} (h : FillA base W P m zs) (hb : Below W.heap.size W W') : FillA base W' P m zs := ⟨(hb.block P (heap_lt h.1)).trans h.1, h.2⟩

theorem FillA.row {base : Nat} {W : World} {P : Nat} {zs : List Int} (h : FillA base W P zs.length zs) : RowS W (.slice (some ⟨P, 0, none⟩) zs.length zs.length) zs := by
 refine ⟨_, _, rfl, Nat.le_refl _, fun i => ?_, fun h0 => ⟨P, 0, rfl, heap_lt h.1, fun i hi => ?_⟩⟩
 ·by_cases hi : i < zs.length
  ·rw [getD_at hi]
   exact h.2.2.2 _ (List.getElem_mem hi)
  ·rw [List.getD_eq_getElem?_getD, List.getElem?_eq_none (by omega)]
   simp
 ·rw [Nat.zero_add, cell_of_row W P i _ _ _ h.1, List.getElem?_toArray, List.getElem?_append_left (by rw [List.length_map]; exact hi), List.getElem?_map, List.getElem?_eq_getElem hi, getD_at hi]
  rfl

set_option linter.unusedSimpArgs false in
set_option maxRecDepth 100000 in
set_option maxHeartbeats 1600000 in
theorem withGenA_any (w : World) (v : Value) (qs : List Nc) (nm gen : ByteArray) (h : CatV w v qs) (hok : CatOk (qs.map (·.x))) (hm : MaxL w) (he : ErrSet w) (hsz : gen.size ≤ 1000000) :
  Calls Tryz.prog 51 #[v, .string nm, .string gen] w fun e w' => CatA w e w' := by
 obtain ⟨u, rfl, hu⟩ := h
 obtain ⟨ao, cap, rfl, hcap, -⟩ := id hu
 have HU := hide hu; have HOK := hide hok; have HM := hide hm; have HSZ := hide hsz; have HE := hide he
 have hb1 := alloc_below w (.cells #[.slice ao qs.length cap] 27)
 have hb2 := alloc_below (w.alloc (.cells #[.slice ao qs.length cap] 27)) (.cells #[.slice none 0 0] 27)
 have X3 := hide ((One.new w (.slice ao qs.length cap) 27).later hb2)
 have hx6 := One.new (w.alloc (.cells #[.slice ao qs.length cap] 27)) (.slice none 0 0) 27
 have hs1 : (w.alloc (.cells #[.slice ao qs.length cap] 27)).heap.size = w.heap.size + 1 := by simp
 rw [hs1] at hx6
 have X6 := hide hx6
 have HB := hide (hb1.trans (hb2.mono hb1.size))
 clear hb1 hb2 hx6 hs1 hu hok hm hsz hcap he
 go_enter Tryz.func51, Tryz.ntmps51
 go_wp2_with fail
 generalize (w.alloc (.cells #[.slice ao qs.length cap] 27)).alloc (.cells #[.slice none 0 0] 27) = W2 at *
 obtain ⟨m, hm1, -⟩ := HM.out.below HB.out
 refine (Go.Proofs.Tryz.strings_SplitN gen ⟨#[32]⟩ 5 m W2 (by have := HSZ.out; omega) hm1 (by decide) (by decide) (by decide)).mono ?_
 rintro e W3 ⟨rfl, hW3⟩
 obtain ⟨PS, hPS⟩ : ∃ PS, Lib.splitB ⟨#[32]⟩ 0 (min 5 (gen.size + 1) - 1) gen = PS := ⟨_, rfl⟩
 have hps5 : PS.length ≤ 5 := by
  rw [← hPS]
  have := Lib.splitB_length_le ⟨#[32]⟩ 0 (min 5 (gen.size + 1) - 1) gen
  omega
 have HPZ : Hid (∀ p ∈ PS, p.size ≤ 1000000) := fun p hp => by
  rw [← hPS] at hp
  exact Nat.le_trans (split_sizes _ _ _ _ p hp) HSZ.out
 rw [hPS] at hW3
 rw [hPS]
 obtain ⟨pn, hpn⟩ : ∃ pn, PS.length = pn := ⟨_, rfl⟩
 have HPN := hide hpn
 rw [hpn] at hps5
 rw [hpn]
 obtain ⟨cp, hcp⟩ : ∃ cp, min 5 (gen.size + 1) = cp := ⟨_, rfl⟩
 rw [hcp] at hW3
 rw [hcp]
 have HCELL : Hid (∀ (j : Nat) (p : ByteArray), PS[j]? = some p → W3.cell? ⟨W2.heap.size, j, none⟩ = some (.string p)) := fun j p hj => by
  rw [hW3]
  have hjl := (List.getElem?_eq_some_iff.1 hj).1
  have := World.news_of_block (heap_alloc_new W2 (.cells (Lib.cellsOf PS cp) 9)) j (.string p) (by
   unfold Lib.cellsOf
   rw [List.toList_toArray, List.getElem?_append_left (by rw [List.length_map]; exact hjl), List.getElem?_map, hj]
   rfl)
  have e : (⟨W2.heap.size, 0, none⟩ : Addr).add j = ⟨W2.heap.size, j, none⟩ := by unfold Addr.add; split <;> simp_all
  rwa [e] at this
 have hbS : Below W2.heap.size W2 W3 := by rw [hW3]; exact alloc_below W2 _
 have hlt8 : W2.heap.size < W3.heap.size := by rw [hW3]; simp
 have X3b := hide (X3.out.later hbS); have X6b := hide (X6.out.later hbS); have HB3 := hide (HB.out.trans (hbS.mono HB.out.size))
 clear hW3 hbS X3 X6 HB hPS hcp hm1 hpn
 generalize W2.heap.size = P8 at *
 have hmk := run_mkIP pn (by omega)
 have HF0 := hide (FillA.start W3 pn)
 have HB40 := hide (alloc_below W3 (.cells (madeCells #[.int .i64 0] pn) 3))
 go_wp2_with fail
 clear hmk
 generalize W3.alloc (.cells (madeCells #[.int .i64 0] pn) 3) = W4 at *
 go_loopw [20] (fun i wr => ∃ (zs : List Int), zs.length ≤ pn ∧ i = .int .i64 (zs.length : Int) ∧ Hid (FillA W3.heap.size wr W3.heap.size pn zs) ∧ Hid (Below W3.heap.size W3 wr)) (fun i _ => pn - (intOf i).toNat)
 case atStart => exact ⟨[], Nat.zero_le _, rfl, HF0, HB40⟩
 case round =>
  clear HF0 HB40
  obtain ⟨zs, hk, rfl, HFI, HBW⟩ := hrel
  obtain ⟨k, hkk⟩ : ∃ k, zs.length = k := ⟨_, rfl⟩
  have HK := hide hkk
  rw [hkk] at hk ⊢
  clear hkk
  by_cases hkl : k < pn
  ·obtain ⟨p, hp⟩ : ∃ p, PS[k]? = some p := ⟨_, List.getElem?_eq_getElem (by rw [HPN.out]; exact hkl)⟩
   have c8 := (HBW.out.cell (p := ⟨P8, k, none⟩) hlt8).trans (HCELL.out k p hp)
   have hpz := HPZ.out p (List.mem_of_getElem? hp)
   clear hp
   go_wp2_with fail
   clear c8
   refine (atoi_all wr (HE.out.below (HB3.out.trans (HBW.out.mono HB3.out.size))) p hpz).mono ?_
   rintro e w5 ⟨z, ev, rfl, hev, hz, hb5⟩
   rcases hev with rfl | ⟨te, pe, rfl⟩
   ·have hf5 := HFI.out.later hb5
    obtain ⟨y0, y1⟩ := hf5.cell (by rw [HK.out]; exact hkl)
    have hf6 := hf5.put (by rw [HK.out]; exact hkl) z hz
    rw [HK.out] at y0 y1 hf6
    have HF5 := hide hf6
    have HB5 := hide ((HBW.out.trans (hb5.mono HBW.out.size)).setCell (p := ⟨W3.heap.size, k, none⟩) (Nat.le_refl _) (.int .i64 z))
    have hl5 : (zs ++ [z]).length = k + 1 := by rw [List.length_append, List.length_singleton, HK.out]
    have HL5 := hide hl5
    clear hf5 hf6 hb5 HFI HBW hz hl5
    go_wp2
    go_roundw
    case rel => exact ⟨zs ++ [z], by rw [HL5.out]; omega, by rw [HL5.out]; go_num, HF5, HB5⟩
    case measure => simp [intOf]; omega
   ·have X6c := hide ((X6b.out.later HBW.out).later hb5); have HBc := hide ((HB3.out.trans (HBW.out.mono HB3.out.size)).trans (hb5.mono (HB3.out.trans (HBW.out.mono HB3.out.size)).size))
    obtain ⟨r0, r1, -⟩ := X6c.out
    have HFIN : Hid (CatA w (.returned (.tuple #[.agg #[.slice none 0 0], .iface te pe])) (w5.setCell ⟨w.heap.size + 1, 0, none⟩ (.slice none 0 0))) := ⟨.inl ⟨te, pe, rfl⟩, HBc.out.setCell (p := ⟨w.heap.size + 1, 0, none⟩) (by show w.heap.size ≤ w.heap.size + 1; omega) _⟩
    have HFIN2 : Hid (CatA w (.returned (.tuple #[.agg #[.slice none 0 0], .iface te pe])) w5) := ⟨.inl ⟨te, pe, rfl⟩, HBc.out⟩
    clear hb5 HFI hz
    go_wp2
    exact bodyPost_ret (v := .tuple #[.agg #[.slice none 0 0], .iface te pe]) (by simp [results, Tryz.results51, go_sem, r0]) rfl (by first | exact HFIN.out | exact HFIN2.out)
  ·obtain rfl : k = pn := by omega
   have hfin := HFI.out
   rw [← HK.out] at hfin
   have hrw := hfin.row
   have hz5 : zs.length ≤ 5 := by rw [HK.out]; exact hps5
   rw [HK.out] at hrw
   have HROW := hide hrw
   have X3c := hide (X3b.out.later HBW.out); have X6c := hide (X6b.out.later HBW.out); have HBc := hide (HB3.out.trans (HBW.out.mono HB3.out.size))
   obtain ⟨c3, -, -⟩ := X3c.out
   clear hrw hfin
   go_wp2_with fail
   clear c3
   have happ := apply_any wr _ qs ⟨3, nm, 0, zs⟩ (some ⟨W3.heap.size, 0, none⟩) k ⟨_, rfl, HU.out.below HBc.out⟩ HOK.out (by show RowS wr (.slice _ zs.length k) zs; rw [HK.out]; exact HROW.out) (by show zs.length ≤ 100; omega)
   dsimp only at happ
   rw [HK.out] at happ
   refine happ.mono ?_
   rintro e w5 hres
   have X6d := hide (X6c.out.later hres.2)
   obtain ⟨o, l, k', ev, rfl, hfin⟩ := catRes_store hres HBc.out X6d.out (by omega) (fun h0 => (applyC_ok HOK.out _ h0).all)
   have HFIN := hide (catA_of HOK.out hfin)
   clear hres hfin happ
   obtain ⟨r0, r1, -⟩ := X6d.out
   go_wp2
   exact bodyPost_ret (v := .tuple #[.agg #[.slice o l k'], ev]) (by simp [results, Tryz.results51, go_sem, r0]) rfl HFIN.out

end Go.Proofs.YtjdnhdcaifogmaaGreatDoor

/- pack.withLine of any text: a catalog, or an error. -/
namespace Go.Proofs.YtjdnhdcaifogmaaGreatDoor
open Go.RowKit

def CondA (W : World) (o : Option Addr) (n k : Nat) (qs : List Nc) (ev : Value) : Prop :=
 (ev = .nilIface ∧ CatN W (.slice o n k) qs ∧ CatOk (qs.map (·.x))) ∨ ((∃ te pe, ev = .iface te pe) ∧ o = none ∧ n = 0 ∧ k = 0)

theorem catA_form {w w' : World} {e : Ending} (h : CatA w e w') : ∃ o n k qs ev, e = .returned (.tuple #[.agg #[.slice o n k], ev]) ∧ CondA w' o n k qs ev ∧ Below w.heap.size w w' := by
 obtain ⟨⟨te, pe, rfl⟩ | ⟨o, n, k, qs, rfl, h1, h2⟩, hb⟩ := h
 ·exact ⟨none, 0, 0, [], _, rfl, .inr ⟨⟨te, pe, rfl⟩, rfl, rfl, rfl⟩, hb⟩
 ·exact ⟨o, n, k, qs, _, rfl, .inl ⟨rfl, h1, h2⟩, hb⟩

theorem CondA.setVar {W : World} {o : Option Addr} {n k : Nat} {qs ps : List Nc} {ev u : Value} {B : Nat} (h : CondA W o n k qs ev) (hc : W.cell? ⟨B, 0, none⟩ = some u) (hu : CatN W u ps) (x : Value) : CondA (W.setCell ⟨B, 0, none⟩ x) o n k qs ev := by
 rcases h with ⟨h1, h2, h3⟩ | h
 ·exact .inl ⟨h1, h2.setVarP (nonE_of_ok h3.all) hc hu x, h3⟩
 ·exact .inr h

theorem cut_sizes (s sep : List UInt8) (h1 : 0 < sep.length) {a b : List UInt8} {c : Bool} (h : Lib.cut s sep = (a, b, c)) : a.length ≤ s.length ∧ b.length ≤ s.length ∧ (c = true → b.length < s.length) ∧ (c = false → b = []) := by
 unfold Lib.cut at h
 split at h
 ·rename_i hi
  simp only [Prod.mk.injEq] at h
  obtain ⟨rfl, rfl, rfl⟩ := h
  have h2 := Lib.index_le s sep
  by_cases h0 : s.length = 0
  ·obtain rfl : s = [] := List.eq_nil_of_length_eq_zero h0
   refine ⟨by simp, by simp, fun _ => ?_, fun h => by cases h⟩
   exfalso
   unfold Lib.index at hi
   cases sep with
   | nil => simp at h1
   | cons a t => simp at hi
  ·refine ⟨by rw [List.length_take]; omega, by rw [List.length_drop]; omega, fun _ => by rw [List.length_drop]; omega, fun h => by cases h⟩
 ·simp only [Prod.mk.injEq] at h
  obtain ⟨rfl, rfl, rfl⟩ := h
  exact ⟨Nat.le_refl _, by simp, (fun h => by cases h), fun _ => rfl⟩

def boolM : Value → Nat
 | .bool true => 1
 | _ => 0

set_option linter.unusedSimpArgs false in
set_option maxRecDepth 100000 in
set_option maxHeartbeats 1600000 in
theorem withLineA_any (w : World) (v : Value) (qs : List Nc) (s : ByteArray) (h : CatV w v qs) (hok : CatOk (qs.map (·.x))) (hm : MaxL w) (he : ErrSet w) (hsz : s.size ≤ 1000000) :
  Calls Tryz.prog 26 #[v, .string s] w fun e w' => CatA w e w' := by
 obtain ⟨u, rfl, hu⟩ := h
 obtain ⟨ao, cap, rfl, hcap, -⟩ := id hu
 obtain ⟨⟨hd, gn, more⟩, hcut⟩ : ∃ r, Lib.cut s.data.toList (⟨#[59, 32]⟩ : ByteArray).data.toList = r := ⟨_, rfl⟩
 obtain ⟨z1, z2, -, -⟩ := cut_sizes _ _ (by decide) hcut
 have hsl : s.data.toList.length = s.size := by simp
 have HU := hide hu; have HOK := hide hok; have HM := hide hm; have HE := hide he; have HSZ := hide hsz; have HCUT := hide hcut
 have hb1 := alloc_below w (.cells #[.slice ao qs.length cap] 27)
 have hb2 := alloc_below (w.alloc (.cells #[.slice ao qs.length cap] 27)) (.cells #[.slice none 0 0] 27)
 have X2 := hide ((One.new w (.slice ao qs.length cap) 27).later hb2)
 have hx4 := One.new (w.alloc (.cells #[.slice ao qs.length cap] 27)) (.slice none 0 0) 27
 have hs1 : (w.alloc (.cells #[.slice ao qs.length cap] 27)).heap.size = w.heap.size + 1 := by simp
 rw [hs1] at hx4
 have X4 := hide hx4
 have HB := hide (hb1.trans (hb2.mono hb1.size))
 clear hb1 hb2 hx4 hs1 hu hm hcut hcap he hok
 go_enter Tryz.func26, Tryz.ntmps26
 go_wp2_with fail
 generalize (w.alloc (.cells #[.slice ao qs.length cap] 27)).alloc (.cells #[.slice none 0 0] 27) = W2 at *
 refine (cutP_any W2 (HM.out.below HB.out) s ⟨#[59, 32]⟩ HSZ.out _ _ _ HCUT.out).mono ?_
 rintro e W3 ⟨rfl, hb3⟩
 have X2a := hide (X2.out.later hb3); have X4a := hide (X4.out.later hb3); have HBa := hide (HB.out.trans (hb3.mono HB.out.size))
 clear hb3 X2 X4 HB HCUT
 obtain ⟨HD, hHD⟩ : ∃ HD, bytesP hd = HD := ⟨_, rfl⟩
 obtain ⟨GN, hGN⟩ : ∃ GN, bytesP gn = GN := ⟨_, rfl⟩
 rw [hHD, hGN]
 have hHs : HD.size ≤ 1000000 := by rw [← hHD, bytesP_size]; omega
 have hGs : GN.size ≤ 1000000 := by rw [← hGN, bytesP_size]; omega
 obtain ⟨⟨nm, sz, mr⟩, hcut2⟩ : ∃ r, Lib.cut HD.data.toList (⟨#[32]⟩ : ByteArray).data.toList = r := ⟨_, rfl⟩
 obtain ⟨-, z4, -, -⟩ := cut_sizes _ _ (by decide) hcut2
 have hdl : HD.data.toList.length = HD.size := by simp
 have HC2 := hide hcut2; have HGS := hide hGs; have HHS := hide hHs
 have hSs : (bytesP sz).size ≤ 1000000 := by rw [bytesP_size]; omega
 have HSS := hide hSs
 clear hHD hGN hcut2 hHs hGs hSs z1 z2 z4 hsl hdl hsz
 go_wp2_with fail
 refine (cutP_any W3 (HM.out.below HBa.out) HD ⟨#[32]⟩ HHS.out _ _ _ HC2.out).mono ?_
 rintro e W4 ⟨rfl, hb4⟩
 have X2b := hide (X2a.out.later hb4); have X4b := hide (X4a.out.later hb4); have HBb := hide (HBa.out.trans (hb4.mono HBa.out.size))
 clear hb4 X2a X4a HBa HC2 HHS
 obtain ⟨NM, hNM⟩ : ∃ NM, bytesP nm = NM := ⟨_, rfl⟩
 obtain ⟨SZ, hSZ⟩ : ∃ SZ, bytesP sz = SZ := ⟨_, rfl⟩
 rw [hSZ] at HSS
 rw [hNM, hSZ]
 clear hNM hSZ
 go_wp2_with fail
 refine (atoi_all W4 (HE.out.below HBb.out) SZ HSS.out).mono ?_
 rintro e W5 ⟨z, ev, rfl, hev, hz, hb5⟩
 have X2c := hide (X2b.out.later hb5); have X4c := hide (X4b.out.later hb5); have HBc := hide (HBb.out.trans (hb5.mono HBb.out.size))
 clear hb5 X2b X4b HBb
 rcases hev with rfl | ⟨te, pe, rfl⟩
 ·obtain ⟨c2, -, -⟩ := X2c.out
  go_wp2_with fail
  clear c2
  refine (apply_any W5 _ qs ⟨1, NM, z, []⟩ none 0 ⟨_, rfl, HU.out.below HBc.out⟩ HOK.out ⟨none, 0, rfl, Nat.le_refl _, fun i => by simp, fun h => absurd h (by simp)⟩ (by simp)).mono ?_
  rintro e W6 hres
  obtain ⟨o6, n6, k6, q6, ev6, rfl, hcd, hb6⟩ := catA_form (catA_of HOK.out hres)
  have X2d := hide (X2c.out.later hb6); have X4d := hide (X4c.out.later hb6); have HBd := hide (HBc.out.trans (hb6.mono HBc.out.size)); have HUd := hide ((HU.out.below HBc.out).below hb6)
  have X2e := hide (X2d.out.writeP (.slice o6 n6 k6)); have X4e := hide (X4d.out.other (p := ⟨w.heap.size, 0, none⟩) (by show w.heap.size ≠ w.heap.size + 1; omega) (.slice o6 n6 k6))
  have HBe := hide (HBd.out.setCell (p := ⟨w.heap.size, 0, none⟩) (Nat.le_refl _) (.slice o6 n6 k6))
  have HCe := hide (hcd.setVar X2d.out.1 HUd.out (.slice o6 n6 k6))
  obtain ⟨c2, c3, -⟩ := X2d.out
  clear hres hcd hb6 X2c X4c HBc X2d X4d HBd HUd HU hz
  go_wp2_with fail
  clear c2 c3
  generalize W6.setCell ⟨w.heap.size, 0, none⟩ (.slice o6 n6 k6) = W7 at *
  go_loopw [7, 8, 13] (fun tl mr er wr => ∃ (TK : ByteArray) (mb : Bool) (ev : Value) (co : Option Addr) (cl ck : Nat) (qs' : List Nc), tl = .string TK ∧ mr = .bool mb ∧ er = ev ∧ Hid (TK.size ≤ 1000000) ∧ Hid (One wr w.heap.size (.slice co cl ck)) ∧ Hid (CondA wr co cl ck qs' ev) ∧ Hid (One wr (w.heap.size + 1) (.slice none 0 0)) ∧ Hid (Below w.heap.size w wr)) (fun tl mr _ _ => strSz tl + boolM mr)
  case atStart => exact ⟨GN, more, ev6, o6, n6, k6, q6, rfl, rfl, rfl, HGS, X2e, HCe, X4e, HBe⟩
  case round =>
   clear HGS X2e HCe X4e HBe
   obtain ⟨TK, mb, ev, co, cl, ck, q', rfl, rfl, rfl, HTS, X2, HCD, X4, HB⟩ := hrel
   have HFIN : Hid (CatA w (.returned (.tuple #[.agg #[.slice co cl ck], u13])) (wr.setCell ⟨w.heap.size + 1, 0, none⟩ (.slice co cl ck))) := by
    refine ⟨?_, HB.out.setCell (p := ⟨w.heap.size + 1, 0, none⟩) (by show w.heap.size ≤ w.heap.size + 1; omega) _⟩
    rcases HCD.out with ⟨e1, h2, h3⟩ | ⟨⟨te, pe, e1⟩, e2, e3, e4⟩
    ·exact .inr ⟨co, cl, ck, q', by rw [e1], h2.setOne (nonE_of_ok h3.all) X4.out.1 _, h3⟩
    ·exact .inl ⟨te, pe, by rw [e1, e2, e3, e4]⟩
   rcases HCD.out with ⟨rfl, hc, hok'⟩ | ⟨⟨te, pe, rfl⟩, rfl, rfl, rfl⟩
   ·cases mb with
    | true =>
     have HCN := hide hc; have HOK' := hide hok'
     obtain ⟨⟨ga, gb, gm⟩, hcut⟩ : ∃ r, Lib.cut TK.data.toList (⟨#[59, 32]⟩ : ByteArray).data.toList = r := ⟨_, rfl⟩
     obtain ⟨z1, z2, z3, z4⟩ := cut_sizes _ _ (by decide) hcut
     have htl : TK.data.toList.length = TK.size := by simp
     have hts := HTS.out
     obtain ⟨GA, hGA⟩ : ∃ GA, bytesP ga = GA := ⟨_, rfl⟩
     obtain ⟨GB, hGB⟩ : ∃ GB, bytesP gb = GB := ⟨_, rfl⟩
     have hga : GA.size ≤ 1000000 := by rw [← hGA, bytesP_size]; omega
     have hgb : GB.size ≤ 1000000 := by rw [← hGB, bytesP_size]; omega
     have HMS : Hid (GB.size + boolM (.bool gm) < TK.size + 1) := by
      show _ < _
      rw [← hGB, bytesP_size]
      cases gm with
      | true => have := z3 rfl; show gb.length + 1 < _; omega
      | false => rw [z4 rfl]; show 0 + 0 < _; omega
     have hct := cutP_any wr (HM.out.below HB.out) TK ⟨#[59, 32]⟩ HTS.out _ _ _ hcut
     rw [hGA, hGB] at hct
     have HCT := hide hct; have HGA := hide hga; have HGB := hide hgb
     clear hct hcut z1 z2 z3 z4 htl hts hGA hGB hga hgb hc hok' HFIN HCD
     go_wp2_with fail
     refine HCT.out.mono ?_
     rintro e w3 ⟨rfl, hb3⟩
     have X2a := hide (X2.out.later hb3); have X4a := hide (X4.out.later hb3); have HBa := hide (HB.out.trans (hb3.mono HB.out.size)); have HCa := hide (HCN.out.below hb3)
     clear hb3 X2 X4 HB HCN HCT
     obtain ⟨c2, -, -⟩ := X2a.out
     go_wp2_with fail
     clear c2
     refine (withGenA_any w3 _ q' NM GA ⟨_, rfl, HCa.out⟩ HOK'.out (HM.out.below HBa.out) (HE.out.below HBa.out) HGA.out).mono ?_
     rintro e w4 hres
     obtain ⟨o4, n4, k4, q4, ev4, rfl, hcd, hb4⟩ := catA_form hres
     have X2b := hide (X2a.out.later hb4)
     have X2c := hide (X2b.out.writeP (.slice o4 n4 k4)); have X4c := hide ((X4a.out.later hb4).other (p := ⟨w.heap.size, 0, none⟩) (by show w.heap.size ≠ w.heap.size + 1; omega) (.slice o4 n4 k4))
     have HBc := hide ((HBa.out.trans (hb4.mono HBa.out.size)).setCell (p := ⟨w.heap.size, 0, none⟩) (Nat.le_refl _) (.slice o4 n4 k4))
     have HCc := hide (hcd.setVar X2b.out.1 (HCa.out.below hb4) (.slice o4 n4 k4))
     obtain ⟨c2, c3, -⟩ := X2b.out
     clear hres hcd hb4 X2a X4a HBa HCa X2b HOK'
     go_wp2
     go_roundw
     case rel => exact ⟨GB, gm, ev4, o4, n4, k4, q4, rfl, rfl, rfl, HGB, X2c, HCc, X4c, HBc⟩
     case measure => exact HMS.out
    | false =>
     obtain ⟨c2, -, -⟩ := X2.out
     obtain ⟨r0, r1, -⟩ := X4.out
     clear hc hok' HCD
     go_wp2
     exact bodyPost_ret (v := .tuple #[.agg #[.slice co cl ck], .nilIface]) (by simp [results, Tryz.results26, go_sem, r0]) rfl HFIN.out
   ·obtain ⟨c2, -, -⟩ := X2.out
    obtain ⟨r0, r1, -⟩ := X4.out
    clear HCD
    cases mb with
    | true =>
     go_wp2
     exact bodyPost_ret (v := .tuple #[.agg #[.slice none 0 0], .iface te pe]) (by simp [results, Tryz.results26, go_sem, r0]) rfl HFIN.out
    | false =>
     go_wp2
     exact bodyPost_ret (v := .tuple #[.agg #[.slice none 0 0], .iface te pe]) (by simp [results, Tryz.results26, go_sem, r0]) rfl HFIN.out
 ·obtain ⟨r0, r1, -⟩ := X4c.out
  have HFIN : Hid (CatA w (.returned (.tuple #[.agg #[.slice none 0 0], .iface te pe])) (W5.setCell ⟨w.heap.size + 1, 0, none⟩ (.slice none 0 0))) := ⟨.inl ⟨te, pe, rfl⟩, HBc.out.setCell (p := ⟨w.heap.size + 1, 0, none⟩) (by show w.heap.size ≤ w.heap.size + 1; omega) _⟩
  have HFIN2 : Hid (CatA w (.returned (.tuple #[.agg #[.slice none 0 0], .iface te pe])) W5) := ⟨.inl ⟨te, pe, rfl⟩, HBc.out⟩
  clear hz
  go_wp2
  exact bodyPost_ret (v := .tuple #[.agg #[.slice none 0 0], .iface te pe]) (by simp [results, Tryz.results26, go_sem, r0]) rfl (by first | exact HFIN.out | exact HFIN2.out)

end Go.Proofs.YtjdnhdcaifogmaaGreatDoor
