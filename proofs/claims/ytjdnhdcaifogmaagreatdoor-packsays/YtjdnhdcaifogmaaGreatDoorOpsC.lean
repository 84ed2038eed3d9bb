/- pack.Parse of any text. -/
import Derived.Test.YtjdnhdcaifogmaaGreatDoorPgB
import Derived.Test.YtjdnhdcaifogmaaGreatDoorBpG
import Derived.Test.YtjdnhdcaifogmaaGreatDoorBpH
import Derived.Test.YtjdnhdcaifogmaaGreatDoorBgB
import Derived.Orders
import Derived.Test.YtjdnhdcaifogmaaGreatDoorBgP

namespace Go.Proofs.YtjdnhdcaifogmaaGreatDoor
open Go.RowKit

set_option linter.unusedSimpArgs false in
set_option maxRecDepth 100000 in
set_option maxHeartbeats 1600000 in
theorem parseBadP (w : World) (s : ByteArray) (hno : ∀ cs, CatOk cs → s ≠ bytesP (textC cs)) (ht : TabP w) (hm : MaxL w) (he : ErrSet w) (hsz : s.size ≤ 1000000) :
  Calls Tryz.prog 9 #[.string s] w fun e w' => e = .returned (.tuple #[.agg #[.slice none 0 0], .iface 71 (.int .i64 5)]) ∧ Below w.heap.size w w' := by
 have HNOT := hide hno; have HT := hide ht; have HM := hide hm; have HE := hide he; have HSZ := hide hsz
 have hb1 := alloc_below w (.cells #[.slice none 0 0] 27)
 have hb2 := alloc_below (w.alloc (.cells #[.slice none 0 0] 27)) (.cells #[.slice none 0 0] 27)
 have X2 := hide ((One.new w (.slice none 0 0) 27).later hb2)
 have hx4 := One.new (w.alloc (.cells #[.slice none 0 0] 27)) (.slice none 0 0) 27
 have hs1 : (w.alloc (.cells #[.slice none 0 0] 27)).heap.size = w.heap.size + 1 := by simp
 rw [hs1] at hx4
 have X4 := hide hx4
 have HB := hide (hb1.trans (hb2.mono hb1.size))
 clear hb1 hb2 hx4 hs1 hno ht hm he hsz
 go_enter Tryz.func9, Tryz.ntmps9
 go_wp2_with fail
 generalize (w.alloc (.cells #[.slice none 0 0] 27)).alloc (.cells #[.slice none 0 0] 27) = W2 at *
 have HC0 := hide (catN_nil W2)
 go_loopw [5] (fun tl wr => ∃ (TK : ByteArray) (co : Option Addr) (cl ck : Nat) (qs' : List Nc), tl = .string TK ∧ Hid (TK.size ≤ 1000000) ∧ Hid (One wr (w.heap.size + 1) (.slice co cl ck)) ∧ Hid (CatN wr (.slice co cl ck) qs') ∧ Hid (CatOk (qs'.map (·.x))) ∧ Hid (One wr w.heap.size (.slice none 0 0)) ∧ Hid (Below w.heap.size w wr)) (fun tl _ => strSz tl)
 case atStart => exact ⟨s, none, 0, 0, [], rfl, HSZ, X4, HC0, hide ⟨by simp, by simp, by simp⟩, X2, HB⟩
 case round =>
  clear HC0 X2 X4 HB
  obtain ⟨TK, co, cl, ck, q', rfl, HTS, X4, HC, HOK, X2, HB⟩ := hrel
  by_cases hT : TK = ⟨#[]⟩
  ·have g1 : TK.toList.isEmpty = true := by rw [hT, Lib.toList_data]; rfl
   clear hT HTS
   obtain ⟨c4, -, -⟩ := X4.out
   go_wp2_with fail
   clear c4 g1
   refine (textP_any wr _ q' ⟨_, rfl, HC.out⟩ HOK.out (HT.out.below HB.out)).mono ?_
   rintro e w5 ⟨rfl, hb5⟩
   have hne : (⟨(textC (q'.map (·.x))).toArray⟩ : ByteArray) ≠ s := fun h => HNOT.out _ HOK.out h.symm
   obtain ⟨TX, hTX⟩ : ∃ TX, (⟨(textC (q'.map (·.x))).toArray⟩ : ByteArray) = TX := ⟨_, rfl⟩
   rw [hTX] at hne
   rw [hTX]
   have g2 : (TX.toList == s.toList) = false := by
    rw [beq_eq_false_iff_ne, Lib.toList_data, Lib.toList_data]
    exact fun h => hne (ByteArray.ext (Array.toList_inj.1 h))
   have X2a := hide (X2.out.later hb5); have X4a := hide (X4.out.later hb5); have HBa := hide (HB.out.trans (hb5.mono HB.out.size))
   have HFIN : Hid (Below w.heap.size w (w5.setCell ⟨w.heap.size, 0, none⟩ (.slice none 0 0))) := HBa.out.setCell (p := ⟨w.heap.size, 0, none⟩) (Nat.le_refl _) _
   have HFIN2 : Hid (Below w.heap.size w w5) := HBa
   clear hb5 hTX hne X2 X4 HB HC HOK
   obtain ⟨c4, -, -⟩ := X4a.out
   obtain ⟨r0, r1, -⟩ := X2a.out
   go_wp2
   exact bodyPost_ret (v := .tuple #[.agg #[.slice none 0 0], .iface 71 (.int .i64 5)]) (by simp [results, Tryz.results9, go_sem, r0]) rfl ⟨rfl, by first | exact HFIN.out | exact HFIN2.out⟩
  ·have g1 : TK.toList.isEmpty = false := by
    rw [Lib.toList_data]
    cases h : TK.data.toList with
    | nil => exact absurd (ByteArray.ext (Array.toList_inj.1 h)) hT
    | cons => rfl
   obtain ⟨⟨ga, gb, gm⟩, hcut⟩ : ∃ r, Lib.cut TK.data.toList (⟨#[10]⟩ : ByteArray).data.toList = r := ⟨_, rfl⟩
   obtain ⟨z1, z2, z3, z4⟩ := cut_sizes _ _ (by decide) hcut
   have htl : TK.data.toList.length = TK.size := by simp
   have hts := HTS.out
   have hpos : 0 < TK.size := by
    rcases Nat.eq_zero_or_pos TK.size with h | h
    ·rw [← htl] at h
     exact absurd (ByteArray.ext (Array.toList_inj.1 (by rw [List.eq_nil_of_length_eq_zero h]))) hT
    ·exact h
   obtain ⟨GA, hGA⟩ : ∃ GA, bytesP ga = GA := ⟨_, rfl⟩
   obtain ⟨GB, hGB⟩ : ∃ GB, bytesP gb = GB := ⟨_, rfl⟩
   have HGA : Hid (GA.size ≤ 1000000) := by show _ ≤ _; rw [← hGA, bytesP_size]; omega
   have HGB : Hid (GB.size ≤ 1000000) := by show _ ≤ _; rw [← hGB, bytesP_size]; omega
   have HMS : Hid (GB.size < TK.size) := by
    show _ < _
    rw [← hGB, bytesP_size]
    cases gm with
    | true => have := z3 rfl; omega
    | false => rw [z4 rfl]; simpa using hpos
   have HCUT := hide hcut
   clear hcut z1 z2 z3 z4 htl hts hpos hT
   go_wp2_with fail
   clear g1
   refine (cutP_any wr (HM.out.below HB.out) TK ⟨#[10]⟩ HTS.out _ _ _ HCUT.out).mono ?_
   rintro e w3 ⟨rfl, hb3⟩
   rw [hGA, hGB]
   have X2a := hide (X2.out.later hb3); have X4a := hide (X4.out.later hb3); have HBa := hide (HB.out.trans (hb3.mono HB.out.size)); have HCa := hide (HC.out.below hb3)
   clear hGA hGB hb3 X2 X4 HB HC HCUT
   obtain ⟨c4, -, -⟩ := X4a.out
   go_wp2_with fail
   clear c4
   refine (withLineA_any w3 _ q' GA ⟨_, rfl, HCa.out⟩ HOK.out (HM.out.below HBa.out) (HE.out.below HBa.out) HGA.out).mono ?_
   rintro e w4 ⟨⟨te, pe, rfl⟩ | ⟨o4, n4, k4, q4, rfl, hc4, hok4⟩, hb4⟩
   ·have hbA := alloc_below w4 (.cells #[.slice none 0 0] 27)
    have X2b := hide ((X2a.out.later hb4).later hbA)
    have HBb := hide ((HBa.out.trans (hb4.mono HBa.out.size)).trans (hbA.mono (HBa.out.trans (hb4.mono HBa.out.size)).size))
    have HFIN : Hid (Below w.heap.size w ((w4.alloc (.cells #[.slice none 0 0] 27)).setCell ⟨w.heap.size, 0, none⟩ (.slice none 0 0))) := HBb.out.setCell (p := ⟨w.heap.size, 0, none⟩) (Nat.le_refl _) _
    have HFIN2 := HBb
    clear hb4 hbA X2a X4a HBa HCa HBb HOK
    obtain ⟨r0, r1, -⟩ := X2b.out
    go_wp2
    exact bodyPost_ret (v := .tuple #[.agg #[.slice none 0 0], .iface 71 (.int .i64 5)]) (by simp [results, Tryz.results9, go_sem, r0]) rfl ⟨rfl, by first | exact HFIN.out | exact HFIN2.out⟩
   ·have hbA := alloc_below w4 (.cells #[.slice o4 n4 k4] 27)
    have X9 := hide (One.new w4 (.slice o4 n4 k4) 27)
    have X2b := hide ((X2a.out.later hb4).later hbA); have X4b := hide ((X4a.out.later hb4).later hbA)
    have HBb := hide ((HBa.out.trans (hb4.mono HBa.out.size)).trans (hbA.mono (HBa.out.trans (hb4.mono HBa.out.size)).size))
    have HCb := hide (hc4.below hbA); have HOK4 := hide hok4; have HCx := hide ((HCa.out.below hb4).below hbA)
    have HNE := hide (nonE_of_ok hok4.all)
    clear hc4 hok4 hb4 hbA X2a X4a HBa HCa HOK
    obtain ⟨c9, c9', -⟩ := X9.out
    obtain ⟨c4, c4', -⟩ := X4b.out
    have X4d := hide (X4b.out.writeP (.slice o4 n4 k4))
    have X2d := hide (X2b.out.other (p := ⟨w.heap.size + 1, 0, none⟩) (by show w.heap.size + 1 ≠ w.heap.size; omega) (.slice o4 n4 k4))
    have HBd := hide (HBb.out.setCell (p := ⟨w.heap.size + 1, 0, none⟩) (by show w.heap.size ≤ w.heap.size + 1; omega) (.slice o4 n4 k4))
    have HCd := hide (HCb.out.setVarP HNE.out X4b.out.1 HCx.out (.slice o4 n4 k4))
    clear X9 X2b X4b HBb HCb HCx
    go_wp2
    go_roundw
    case rel => exact ⟨GB, o4, n4, k4, q4, rfl, HGB, X4d, HCd, HOK4, X2d, HBd⟩
    case measure => exact HMS.out

end Go.Proofs.YtjdnhdcaifogmaaGreatDoor

/- Errors that are the same. -/
namespace Go.Proofs.YtjdnhdcaifogmaaGreatDoor
open Go.RowKit

theorem Tryz.asErrnoB (v : Value) (w : World) : (Instr.typeAssert (.iface 71 v) 34 71 true).run Tryz.prog w = .ok (.tuple #[v, .bool true]) w := by kernel_rfl

set_option maxRecDepth 100000 in
theorem sameI_any (n : Int) (hn : 0 < n) (w : World) : Calls Tryz.prog 11 #[.iface 71 (.int .i64 n), .int .i64 n] w fun e w' => e = .returned (.bool true) ∧ w' = w := by
 have has := Tryz.asErrnoB
 have e1 : decide (0 < n) = true := decide_eq_true hn
 go_enter Tryz.func11, Tryz.ntmps11
 go_wp2
 go_ret
 exact ⟨by simp, rfl⟩

set_option maxRecDepth 100000 in
theorem sameV_any (k : Nat) (w : World) : Calls Tryz.prog 11 #[errV k, .int .i64 ((k : Nat) : Int)] w fun e w' => e = .returned (.bool true) ∧ w' = w := by
 by_cases h : k = 0
 ·subst h
  have e0 : errV 0 = .nilIface := rfl
  rw [e0]
  go_enter Tryz.func11, Tryz.ntmps11
  go_wp2
  go_ret
  exact ⟨rfl, rfl⟩
 ·have e0 : errV k = .iface 71 (.int .i64 (k : Int)) := if_neg h
  rw [e0]
  exact sameI_any (k : Int) (by omega) w

end Go.Proofs.YtjdnhdcaifogmaaGreatDoor

/- The closed fact: a catalog's text. -/
namespace Go.Proofs.YtjdnhdcaifogmaaGreatDoor
open Go.RowKit

theorem catOk_a : CatOk [⟨⟨#[97]⟩, 2, [[1, -2]]⟩] :=
 ⟨by simp, by simp, fun x hx => by
  rw [List.mem_singleton] at hx
  subst hx
  exact ⟨by rfl, by decide, by simp, fun g hg => by
   rw [List.mem_singleton] at hg
   subst hg
   exact genF_ok.2 ⟨rfl, by decide⟩⟩⟩

theorem text_a : (⟨#[97, 32, 50, 59, 32, 49, 32, 45, 50, 10]⟩ : ByteArray) = bytesP (textC [⟨⟨#[97]⟩, 2, [[1, -2]]⟩]) := by
 have h2 : Lib.itoa 2 = [50] := by simp [Lib.itoa, Lib.decDigits]
 have h1 : Lib.itoa 1 = [49] := by simp [Lib.itoa, Lib.decDigits]
 have h3 : Lib.itoa (-2) = [45, 50] := by simp [Lib.itoa, Lib.decDigits]
 simp [textC, lineT, headT, genT, numT, h1, h2, h3, Lib.join, bytesP]

set_option linter.unusedSimpArgs false in
set_option maxRecDepth 100000 in
set_option maxHeartbeats 1600000 in
theorem packs_any (w : World) (ht : TabP w) (hm : MaxL w) : Calls Tryz.prog 4 #[] w fun e w' => e = .returned (.bool true) ∧ Below w.heap.size w w' := by
 have HT := hide ht
 have HTX := hide text_a
 obtain ⟨cs, hcs⟩ : ∃ cs, ([⟨⟨#[97]⟩, 2, [[1, -2]]⟩] : List Nmd) = cs := ⟨_, rfl⟩
 have hl : cs.length = 1 := by rw [← hcs]; rfl
 have hok := catOk_a
 rw [hcs] at hok HTX
 have HL := hide hl; have HOK := hide hok; have HM := hide hm
 clear hcs hl hok ht hm
 go_enter Tryz.func4, Tryz.ntmps4
 go_wp2_with fail
 refine (parse_ok w _ cs HOK.out HT.out HM.out HTX.out).mono ?_
 rintro e w1 hres
 obtain ⟨o1, n1, k1, qs, rfl, hc1, hm1, hb1⟩ := catRes_ok hres
 have hbA := alloc_below w1 (.cells #[.slice o1 n1 k1] 27)
 have X1 := hide (One.new w1 (.slice o1 n1 k1) 27)
 have HB := hide (hb1.trans (hbA.mono hb1.size)); have HC := hide (hc1.below hbA); have HQ := hide hm1
 clear hres hc1 hb1 hbA hm1
 obtain ⟨c1, c1', -⟩ := X1.out
 go_wp2_with fail
 clear c1 c1'
 generalize w1.alloc (.cells #[.slice o1 n1 k1] 27) = W1 at *
 refine (sameV_any 0 _).mono ?_
 rintro e w2 ⟨rfl, rfl⟩
 obtain ⟨c1, -, -⟩ := X1.out
 go_wp2_with fail
 clear c1
 refine (textP_any w2 _ qs ⟨_, rfl, HC.out⟩ (by rw [HQ.out]; exact HOK.out) (HT.out.below HB.out)).mono ?_
 rintro e w3 ⟨rfl, hb3⟩
 rw [HQ.out]
 have htx : (⟨(textC cs).toArray⟩ : ByteArray) = ⟨#[97, 32, 50, 59, 32, 49, 32, 45, 50, 10]⟩ := HTX.out.symm
 rw [htx]
 have X3 := hide (X1.out.later hb3); have HB3 := hide (HB.out.trans (hb3.mono HB.out.size)); have HC3 := hide (HC.out.below hb3)
 clear htx hb3 X1 HB HC
 obtain ⟨c1, -, -⟩ := X3.out
 go_wp2_with fail
 clear c1
 refine (lattices_any2 w3 _ qs ⟨_, rfl, HC3.out⟩ (by have := congrArg List.length HQ.out; rw [List.length_map, HL.out] at this; omega) (by rw [HQ.out]; exact HOK.out.all)).mono ?_
 rintro e w4 ⟨u, rs, rfl, hcr, hrs, hb4⟩
 have hrl : rs.length = 1 := by have := congrArg List.length hrs; simp only [List.length_map] at this; rw [this]; have h2 := congrArg List.length HQ.out; rw [List.length_map, HL.out] at h2; exact h2
 have HB4 := hide (HB3.out.trans (hb4.mono HB3.out.size))
 obtain ⟨ro, rc, rfl, -⟩ := id hcr
 rw [hrl]
 clear hb4 hrs hrl hcr X3 HC3 HQ
 go_wp2
 go_ret
 exact ⟨rfl, HB4.out⟩

end Go.Proofs.YtjdnhdcaifogmaaGreatDoor

/- Values by their numbers; operations that have come up. -/
namespace Go.Proofs.YtjdnhdcaifogmaaGreatDoor
open Go.RowKit

def upd (c : Nat → Value) (i : Nat) (v : Value) : Nat → Value := fun j => if j = i then v else c j

theorem upd_self (c : Nat → Value) (i : Nat) (v : Value) : upd c i v i = v := if_pos rfl

theorem upd_ne (c : Nat → Value) {i j : Nat} (v : Value) (h : j ≠ i) : upd c i v j = c j := if_neg h

theorem listed_not {L : Array Bool} {i : Nat} (h : L.getD i true = false) : ¬ L.getD i false = true := fun h' => by
 by_cases hl : i < L.size
 ·simp [hl] at h h'; rw [h] at h'; cases h'
 ·simp [Array.getElem?_eq_none (Nat.le_of_not_lt hl)] at h'

theorem listed_old {L : Array Bool} {i j : Nat} (hne : i ≠ j) (h : (L.setIfInBounds i true).getD j false = true) : L.getD j false = true := by rwa [getD_set_ne false hne] at h

theorem listed_new {L : Array Bool} {i : Nat} (h : L.getD i true = false) : (L.setIfInBounds i true).getD i false = true := by
 have hl : i < L.size := by
  by_cases hl : i < L.size
  ·exact hl
  ·simp [Array.getElem?_eq_none (Nat.le_of_not_lt hl)] at h
 simp [hl]

end Go.Proofs.YtjdnhdcaifogmaaGreatDoor

/- Regions that draw their order, and make, and call: what each operation answered stands while others come up; the last one may write. -/
namespace Go.Proofs.YtjdnhdcaifogmaaGreatDoor
open Go.RowKit

structure FS (deps : Nat → List Nat) (kv : Nat → Option Value) (Sp : Nat → (Nat → Value) → World → Prop) (w : World) (L : Array Bool) (c : Nat → Value) (W : World) : Prop where
 below : Below w.heap.size w W
 plain : ∀ i v, L.getD i false = true → kv i = some v → c i = v
 spec : ∀ i, L.getD i false = true → Sp i c W
 closed : ∀ i, L.getD i false = true → ∀ j ∈ deps i, L.getD j false = true

structure Stays (deps : Nat → List Nat) (Sp : Nat → (Nat → Value) → World → Prop) : Prop where
 later : ∀ i c W W', Below W.heap.size W W' → Sp i c W → Sp i c W'
 other : ∀ i j c v W, j ≠ i → i ∉ deps j → Sp j c W → Sp j (upd c i v) W

variable {deps : Nat → List Nat} {kv : Nat → Option Value} {Sp : Nat → (Nat → Value) → World → Prop} {Fin : (Nat → Value) → World → Prop} {w W W' : World} {L : Array Bool} {c : Nat → Value}

theorem FS.start (w : World) (n : Nat) (c : Nat → Value) : FS deps kv Sp w (Array.replicate n false) c w.drew where
 below := (Below.refl _ _).drew
 plain := fun i _ h => by simp [Array.getD] at h
 spec := fun i h => by simp [Array.getD] at h
 closed := fun i h => by simp [Array.getD] at h

theorem FS.made (h : FS deps kv Sp w L c W) (hst : Stays deps Sp) {i : Nat} (hn : L.getD i true = false) (hd : ∀ j ∈ deps i, L.getD j false = true) (hb : Below W.heap.size W W') {v : Value} (hk : ∀ u, kv i = some u → v = u) (hnew : Sp i (upd c i v) W') :
  FS deps kv Sp w (L.setIfInBounds i true) (upd c i v) W' where
 below := h.below.trans (hb.mono h.below.size)
 plain := fun j u hj hu => by
  by_cases e : j = i
  ·subst e; rw [upd_self]; exact hk u hu
  ·rw [upd_ne _ _ e]; exact h.plain j u (listed_old (fun e' => e e'.symm) hj) hu
 spec := fun j hj => by
  by_cases e : j = i
  ·subst e; exact hnew
  ·have hj' := listed_old (fun e' => e e'.symm) hj
   exact hst.other _ _ _ _ _ e (fun hm => listed_not hn (h.closed j hj' i hm)) (hst.later _ _ _ _ hb (h.spec j hj'))
 closed := fun j hj k hjk => by
  by_cases ek : i = k
  ·subst ek; exact listed_new hn
  ·rw [getD_set_ne false ek]
   by_cases e : j = i
   ·subst e; exact hd k hjk
   ·exact h.closed j (listed_old (fun e' => e e'.symm) hj) k hjk

def FSx (deps : Nat → List Nat) (kv : Nat → Option Value) (Sp : Nat → (Nat → Value) → World → Prop) (Fin : (Nat → Value) → World → Prop) (w : World) (m : Nat) (L : Array Bool) (c : Nat → Value) (W : World) : Prop :=
 (L.getD m false = false ∧ FS deps kv Sp w L c W) ∨ ((∀ i, i ≤ m → L.getD i false = true) ∧ Fin c W)

theorem FSx.start (w : World) (n m : Nat) (c : Nat → Value) : FSx deps kv Sp Fin w m (Array.replicate n false) c w.drew :=
 .inl ⟨by simp [Array.getD], FS.start w n c⟩

theorem FSx.pre {m : Nat} (h : FSx deps kv Sp Fin w m L c W) {i : Nat} (hi : i ≤ m) (hn : L.getD i true = false) : L.getD m false = false ∧ FS deps kv Sp w L c W := by
 rcases h with h | ⟨h, -⟩
 ·exact h
 ·exact absurd (h i hi) (listed_not hn)

theorem FS.next {m i : Nat} (h : FS deps kv Sp w (L.setIfInBounds i true) c W) (hne : i ≠ m) (hm : L.getD m false = false) : FSx deps kv Sp Fin w m (L.setIfInBounds i true) c W :=
 .inl ⟨by rw [getD_set_ne false hne]; exact hm, h⟩

theorem FSx.last {m : Nat} (hall : ∀ j, j < m → L.getD j false = true) (hn : L.getD m true = false) (hf : Fin c W) : FSx deps kv Sp Fin w m (L.setIfInBounds m true) c W :=
 .inr ⟨fun j hj => by
  by_cases e : m = j
  ·subst e; exact listed_new hn
  ·rw [getD_set_ne false e]; exact hall j (by omega), hf⟩

theorem FSx.fin {m : Nat} (h : FSx deps kv Sp Fin w m L c W) (hall : L.getD m false = true) : Fin c W := by
 rcases h with ⟨h, -⟩ | ⟨-, h⟩
 ·rw [hall] at h; cases h
 ·exact h

theorem FS.put {deps : Nat → List Nat} {kv : Nat → Option Value} {Sp Sp' : Nat → (Nat → Value) → World → Prop} {w W W' : World} {L : Array Bool} {c : Nat → Value} (h : FS deps kv Sp w L c W) {i : Nat} (hn : L.getD i true = false) (hd : ∀ j ∈ deps i, L.getD j false = true) (hB : Below w.heap.size w W') {v : Value} (hk : ∀ u, kv i = some u → v = u)
  (hkeep : ∀ j, j ≠ i → L.getD j false = true → Sp j c W → Sp' j (upd c i v) W') (hnew : Sp' i (upd c i v) W') : FS deps kv Sp' w (L.setIfInBounds i true) (upd c i v) W' where
 below := hB
 plain := fun j u hj hu => by
  by_cases e : j = i
  ·subst e; rw [upd_self]; exact hk u hu
  ·rw [upd_ne _ _ e]; exact h.plain j u (listed_old (fun e' => e e'.symm) hj) hu
 spec := fun j hj => by
  by_cases e : j = i
  ·subst e; exact hnew
  ·have hj' := listed_old (fun e' => e e'.symm) hj
   exact hkeep j e hj' (h.spec j hj')
 closed := fun j hj k hjk => by
  by_cases ek : i = k
  ·subst ek; exact listed_new hn
  ·rw [getD_set_ne false ek]
   by_cases e : j = i
   ·subst e; exact hd k hjk
   ·exact h.closed j (listed_old (fun e' => e e'.symm) hj) k hjk

end Go.Proofs.YtjdnhdcaifogmaaGreatDoor

/- A region that draws its order: d, err := c.Apply(..) with a variable of one's own for d: q plain operations, the call, and what unpacks it. -/
namespace Go.Proofs.YtjdnhdcaifogmaaGreatDoor
open Go.RowKit

def apD (q : Nat) (ps : Nat → List Nat) (i : Nat) : List Nat :=
 if i ≤ q then ps i else if i = q + 1 then [q] else if i = q + 2 then [q + 1] else if i = q + 3 then [q + 1] else if i = q + 4 then [] else if i = q + 5 then [q + 2, q + 4] else if i = q + 6 then [q + 3] else []

theorem apD_1 (q : Nat) (ps : Nat → List Nat) : apD q ps (q + 1) = [q] := by unfold apD; rw [if_neg (by omega), if_pos rfl]
theorem apD_2 (q : Nat) (ps : Nat → List Nat) : apD q ps (q + 2) = [q + 1] := by unfold apD; rw [if_neg (by omega), if_neg (by omega), if_pos rfl]
theorem apD_3 (q : Nat) (ps : Nat → List Nat) : apD q ps (q + 3) = [q + 1] := by unfold apD; rw [if_neg (by omega), if_neg (by omega), if_neg (by omega), if_pos rfl]
theorem apD_4 (q : Nat) (ps : Nat → List Nat) : apD q ps (q + 4) = [] := by unfold apD; rw [if_neg (by omega), if_neg (by omega), if_neg (by omega), if_neg (by omega), if_pos rfl]
theorem apD_5 (q : Nat) (ps : Nat → List Nat) : apD q ps (q + 5) = [q + 2, q + 4] := by unfold apD; rw [if_neg (by omega), if_neg (by omega), if_neg (by omega), if_neg (by omega), if_neg (by omega), if_pos rfl]
theorem apD_6 (q : Nat) (ps : Nat → List Nat) : apD q ps (q + 6) = [q + 3] := by unfold apD; rw [if_neg (by omega), if_neg (by omega), if_neg (by omega), if_neg (by omega), if_neg (by omega), if_neg (by omega), if_pos rfl]

def apS (q : Nat) (Rg : World → Option Addr → Nat → Nat → Value → Prop) (C : Nat) (b : Bool) (i : Nat) (c : Nat → Value) (W : World) : Prop :=
 (i = q → ∃ o l k e, c q = .tuple #[.agg #[.slice o l k], e] ∧ Rg W o l k e) ∧
 (i = q + 1 → c (q + 1) = c q) ∧
 (i = q + 2 → ∃ u e, c (q + 1) = .tuple #[u, e] ∧ c (q + 2) = u) ∧
 (i = q + 3 → ∃ u e, c (q + 1) = .tuple #[u, e] ∧ c (q + 3) = e) ∧
 (i = q + 4 → ∃ B, c (q + 4) = .pointer (some ⟨B, 0, none⟩) ∧ C ≤ B ∧ (b = false → One W B (.slice none 0 0))) ∧
 (i = q + 5 → ∃ B u, c (q + 4) = .pointer (some ⟨B, 0, none⟩) ∧ c (q + 2) = .agg #[u] ∧ C ≤ B ∧ One W B u) ∧
 (i = q + 6 → c (q + 6) = c (q + 3))

section
variable {q : Nat} {Rg : World → Option Addr → Nat → Nat → Value → Prop} {C : Nat} {b : Bool} {c : Nat → Value} {W : World}

theorem apS_p {i : Nat} (hi : i < q) : apS q Rg C b i c W := ⟨fun e => absurd e (by omega), fun e => absurd e (by omega), fun e => absurd e (by omega), fun e => absurd e (by omega), fun e => absurd e (by omega), fun e => absurd e (by omega), fun e => absurd e (by omega)⟩

theorem apS_0 (h : ∃ o l k e, c q = .tuple #[.agg #[.slice o l k], e] ∧ Rg W o l k e) : apS q Rg C b q c W := ⟨fun _ => h, fun e => absurd e (by omega), fun e => absurd e (by omega), fun e => absurd e (by omega), fun e => absurd e (by omega), fun e => absurd e (by omega), fun e => absurd e (by omega)⟩

theorem apS_1 (h : c (q + 1) = c q) : apS q Rg C b (q + 1) c W := ⟨fun e => absurd e (by omega), fun _ => h, fun e => absurd e (by omega), fun e => absurd e (by omega), fun e => absurd e (by omega), fun e => absurd e (by omega), fun e => absurd e (by omega)⟩

theorem apS_2 (h : ∃ u e, c (q + 1) = .tuple #[u, e] ∧ c (q + 2) = u) : apS q Rg C b (q + 2) c W := ⟨fun e => absurd e (by omega), fun e => absurd e (by omega), fun _ => h, fun e => absurd e (by omega), fun e => absurd e (by omega), fun e => absurd e (by omega), fun e => absurd e (by omega)⟩

theorem apS_3 (h : ∃ u e, c (q + 1) = .tuple #[u, e] ∧ c (q + 3) = e) : apS q Rg C b (q + 3) c W := ⟨fun e => absurd e (by omega), fun e => absurd e (by omega), fun e => absurd e (by omega), fun _ => h, fun e => absurd e (by omega), fun e => absurd e (by omega), fun e => absurd e (by omega)⟩

theorem apS_4 (h : ∃ B, c (q + 4) = .pointer (some ⟨B, 0, none⟩) ∧ C ≤ B ∧ (b = false → One W B (.slice none 0 0))) : apS q Rg C b (q + 4) c W := ⟨fun e => absurd e (by omega), fun e => absurd e (by omega), fun e => absurd e (by omega), fun e => absurd e (by omega), fun _ => h, fun e => absurd e (by omega), fun e => absurd e (by omega)⟩

theorem apS_5 (h : ∃ B u, c (q + 4) = .pointer (some ⟨B, 0, none⟩) ∧ c (q + 2) = .agg #[u] ∧ C ≤ B ∧ One W B u) : apS q Rg C b (q + 5) c W := ⟨fun e => absurd e (by omega), fun e => absurd e (by omega), fun e => absurd e (by omega), fun e => absurd e (by omega), fun e => absurd e (by omega), fun _ => h, fun e => absurd e (by omega)⟩

theorem apS_6 (h : c (q + 6) = c (q + 3)) : apS q Rg C b (q + 6) c W := ⟨fun e => absurd e (by omega), fun e => absurd e (by omega), fun e => absurd e (by omega), fun e => absurd e (by omega), fun e => absurd e (by omega), fun e => absurd e (by omega), fun _ => h⟩

end

theorem apStays (q : Nat) (ps : Nat → List Nat) (Rg : World → Option Addr → Nat → Nat → Value → Prop) (hRg : ∀ W W' o l k e, Below W.heap.size W W' → Rg W o l k e → Rg W' o l k e) (C : Nat) (b : Bool) : Stays (apD q ps) (apS q Rg C b) where
 later := fun i c W W' hb h => by
  obtain ⟨h0, h1, h2, h3, h4, h5, h6⟩ := h
  refine ⟨fun e => ?_, h1, h2, h3, fun e => ?_, fun e => ?_, h6⟩
  ·obtain ⟨o, l, k, e', a1, a2⟩ := h0 e
   exact ⟨o, l, k, e', a1, hRg _ _ _ _ _ _ hb a2⟩
  ·obtain ⟨B, a1, a2, a3⟩ := h4 e
   exact ⟨B, a1, a2, fun hf => (a3 hf).later hb⟩
  ·obtain ⟨B, u, a1, a2, a3, a4⟩ := h5 e
   exact ⟨B, u, a1, a2, a3, a4.later hb⟩
 other := fun i j c v W hne hm h => by
  obtain ⟨h0, h1, h2, h3, h4, h5, h6⟩ := h
  refine ⟨fun e => ?_, fun e => ?_, fun e => ?_, fun e => ?_, fun e => ?_, fun e => ?_, fun e => ?_⟩
  ·subst e
   rw [upd_ne _ _ hne]; exact h0 rfl
  ·subst e
   have h : ¬ i = q := by rw [apD_1] at hm; simpa using hm
   rw [upd_ne _ _ hne, upd_ne _ _ (fun e => h e.symm)]; exact h1 rfl
  ·subst e
   have h : ¬ i = q + 1 := by rw [apD_2] at hm; simpa using hm
   rw [upd_ne _ _ hne, upd_ne _ _ (fun e => h e.symm)]; exact h2 rfl
  ·subst e
   have h : ¬ i = q + 1 := by rw [apD_3] at hm; simpa using hm
   rw [upd_ne _ _ hne, upd_ne _ _ (fun e => h e.symm)]; exact h3 rfl
  ·subst e
   rw [upd_ne _ _ hne]; exact h4 rfl
  ·subst e
   have h : ¬ i = q + 2 ∧ ¬ i = q + 4 := by rw [apD_5] at hm; simpa using hm
   rw [upd_ne _ _ (fun e => h.2 e.symm), upd_ne _ _ (fun e => h.1 e.symm)]; exact h5 rfl
  ·subst e
   have h : ¬ i = q + 3 := by rw [apD_6] at hm; simpa using hm
   rw [upd_ne _ _ hne, upd_ne _ _ (fun e => h e.symm)]; exact h6 rfl

theorem ap_fin {q : Nat} {ps : Nat → List Nat} {Rg : World → Option Addr → Nat → Nat → Value → Prop} {C : Nat} {kv : Nat → Option Value} {w : World} {L : Array Bool} {c : Nat → Value} {W : World} (R : FS (apD q ps) kv (apS q Rg C true) w L c W) (hall : ∀ i, i < q + 7 → L.getD i false = true) :
  ∃ B o l k e, c (q + 4) = .pointer (some ⟨B, 0, none⟩) ∧ c (q + 6) = e ∧ C ≤ B ∧ One W B (.slice o l k) ∧ Rg W o l k e := by
 obtain ⟨o, l, k, e, e0, hR⟩ := (R.spec q (hall q (by omega))).1 rfl
 have e1 := (R.spec (q + 1) (hall (q + 1) (by omega))).2.1 rfl
 obtain ⟨u, f, e2, e2'⟩ := (R.spec (q + 2) (hall (q + 2) (by omega))).2.2.1 rfl
 obtain ⟨u3, f3, e3, e3'⟩ := (R.spec (q + 3) (hall (q + 3) (by omega))).2.2.2.1 rfl
 obtain ⟨B, u5, e5, e5', hB, hO⟩ := (R.spec (q + 5) (hall (q + 5) (by omega))).2.2.2.2.2.1 rfl
 have e6 := (R.spec (q + 6) (hall (q + 6) (by omega))).2.2.2.2.2.2 rfl
 rw [e1, e0] at e2 e3
 simp only [Value.tuple.injEq, Array.mk.injEq, List.cons.injEq, and_true] at e2 e3
 obtain ⟨rfl, -⟩ := e2
 obtain ⟨-, rfl⟩ := e3
 rw [e2'] at e5'
 simp only [Value.agg.injEq, Array.mk.injEq, List.cons.injEq, and_true] at e5'
 subst e5'
 exact ⟨B, o, l, k, _, e5, e6.trans e3', hB, hO, hR⟩

def CatG (r : Nat × List Nmd) (W : World) (o : Option Addr) (l k : Nat) (e : Value) : Prop :=
 (r.1 ≠ 0 ∧ o = none ∧ l = 0 ∧ k = 0 ∧ e = errV r.1) ∨ (r.1 = 0 ∧ e = .nilIface ∧ ∃ qs : List Nc, qs.map (·.x) = r.2 ∧ CatN W (.slice o l k) qs)

theorem CatG.later {r : Nat × List Nmd} (W W' : World) (o : Option Addr) (l k : Nat) (e : Value) (hb : Below W.heap.size W W') (h : CatG r W o l k e) : CatG r W' o l k e := by
 rcases h with h | ⟨h1, h2, qs, h3, h4⟩
 ·exact .inl h
 ·exact .inr ⟨h1, h2, qs, h3, h4.below hb⟩

theorem CatG.put {r : Nat × List Nmd} (hr : r.1 = 0 → ∀ x ∈ r.2, NmOk x) {W : World} {B : Nat} {o : Option Addr} {l k : Nat} {e : Value} (hB : One W B (.slice none 0 0)) (x : Value) (h : CatG r W o l k e) : CatG r (W.setCell ⟨B, 0, none⟩ x) o l k e := by
 rcases h with h | ⟨h1, h2, qs, h3, h4⟩
 ·exact .inl h
 ·exact .inr ⟨h1, h2, qs, h3, h4.setOne (nonE_of_ok (by rw [h3]; exact hr h1)) hB.1 x⟩

theorem catN_noRow {W : World} {u : Value} {ps : List Nc} (h : CatN W u ps) {g : List Int} (hg : g ≠ []) : ¬ RowS W u g := fun hr => by
 obtain ⟨ao, cap, e, -, hh⟩ := h
 obtain ⟨bo, cap', e2, -, -, hh2⟩ := hr
 rw [e] at e2
 simp only [Value.slice.injEq] at e2
 obtain ⟨rfl, hl, -⟩ := e2
 have h0 : 0 < g.length := List.length_pos_iff.2 hg
 obtain ⟨b, off, rfl, -, hc⟩ := hh (by omega)
 obtain ⟨b', off', e3, -, hc2⟩ := hh2 h0
 simp only [Option.some.injEq, Addr.mk.injEq, and_true] at e3
 obtain ⟨rfl, rfl⟩ := e3
 have k1 := (hc 0 ps[0] (List.getElem?_eq_getElem (by omega))).1
 have k2 := hc2 0 h0
 rw [Nat.zero_mul, Nat.add_zero] at k1
 rw [Nat.add_zero, k1] at k2
 cases k2

theorem RowS.setVar {W : World} {v : Value} {ks : List Int} (h : RowS W v ks) {p : Addr} {o : Option Addr} {l c : Nat} (hc : W.cell? p = some (.slice o l c)) (x : Value) : RowS (W.setCell p x) v ks := by
 obtain ⟨ao, cap, e, hn, h6, hh⟩ := h
 refine ⟨ao, cap, e, hn, h6, fun h0 => ?_⟩
 obtain ⟨b, off, e', hlt, hcell⟩ := hh h0
 refine ⟨b, off, e', by simpa using hlt, fun i hi => (World.cell?_setCell_other _ _ _ _ fun e => ?_).trans (hcell i hi)⟩
 have := hcell i hi
 rw [← e, hc] at this; cases this

theorem CatN.setVar {W : World} {v : Value} {qs : List Nc} (h : CatN W v qs) (hne : NonE qs) {B : Nat} {u : Value} {ps : List Nc} (hc : W.cell? ⟨B, 0, none⟩ = some u) (hu : CatN W u ps) (x : Value) : CatN (W.setCell ⟨B, 0, none⟩ x) v qs := by
 have hno := fun g (hg : g ≠ []) => catN_noRow (g := g) hu hg
 obtain ⟨uo, uc, rfl, -⟩ := hu
 obtain ⟨ao, cap, e, hn, hh⟩ := h
 refine ⟨ao, cap, e, hn, fun h0 => ?_⟩
 obtain ⟨b, off, e', hlt, hcell⟩ := hh h0
 refine ⟨b, off, e', by simpa using hlt, fun i q hi => ?_⟩
 obtain ⟨h1, h2, h3, h4⟩ := hcell i q hi
 refine ⟨(World.cell?_setCell_other _ _ _ _ fun e => ?_).trans h1, (World.cell?_setCell_other _ _ _ _ fun e => ?_).trans h2, (World.cell?_setCell_other _ _ _ _ fun e => ?_).trans h3, ?_⟩
 ·rw [← e, hc] at h1; cases h1
 ·rw [← e, hc] at h2; cases h2
 ·have := congrArg Addr.off e
  simp at this
 ·have hq := hne q (List.mem_of_getElem? hi)
  obtain ⟨go, gc, ge, gn, gh⟩ := h4
  refine ⟨go, gc, ge, gn, fun g0 => ?_⟩
  obtain ⟨gb, goff, ge', glt, gcell⟩ := gh g0
  refine ⟨gb, goff, ge', by simpa using glt, fun j r hj => ?_⟩
  obtain ⟨u2, hu2, hr2⟩ := gcell j r hj
  refine ⟨u2, (World.cell?_setCell_other _ _ _ _ fun e => ?_).trans hu2, hr2.setVar hc x⟩
  rw [← e, hc] at hu2
  simp only [Option.some.injEq] at hu2
  rw [← hu2] at hr2
  exact hno r (hq r (List.mem_of_getElem? hj)) hr2

theorem catG_of {w w' : World} {r : Nat × List Nmd} {e : Ending} (h : CatRes w r e w') : ∃ o l k ev, e = .returned (.tuple #[.agg #[.slice o l k], ev]) ∧ CatG r w' o l k ev ∧ Below w.heap.size w w' := by
 obtain ⟨h | ⟨h1, u, qs, h2, h3, v, rfl, h4⟩, hb⟩ := h
 ·exact ⟨none, 0, 0, _, h.2, .inl ⟨h.1, rfl, rfl, rfl, rfl⟩, hb⟩
 ·obtain ⟨o, c, rfl, -⟩ := id h4
  exact ⟨o, _, c, _, h2, .inr ⟨h1, rfl, qs, h3, h4⟩, hb⟩

theorem One.write {W : World} {B : Nat} {u : Value} (h : One W B u) (x : Value) : One (W.setCell ⟨B, 0, none⟩ x) B x :=
 ⟨World.cell?_setCell_same (h := h.1) .., by simpa using h.2.1, by simpa using h.2.2⟩

end Go.Proofs.YtjdnhdcaifogmaaGreatDoor

/- Operations that came in; are they light? -/
namespace Go.Proofs.YtjdnhdcaifogmaaGreatDoor
open Go.RowKit

structure OpC where
 o : OpV
 vo : Option Addr
 vc : Nat

def OpC.row (q : OpC) : Value := .slice q.vo q.o.v.length q.vc

def OpC.val (q : OpC) : Value := .agg #[.int .i64 q.o.kind, .string q.o.name, .int .i64 q.o.n, .slice q.vo q.o.v.length q.vc]

def OpsN (w : World) (v : Value) (os : List OpC) : Prop :=
 ∃ ao cap, v = .slice ao os.length cap ∧ os.length ≤ cap ∧ (0 < os.length → ∃ b off, ao = some ⟨b, off, none⟩ ∧ b < w.heap.size ∧
  ∀ i q, os[i]? = some q → w.cell? ⟨b, off + i * 4, none⟩ = some (.int .i64 q.o.kind) ∧ w.cell? ⟨b, off + i * 4 + 1, none⟩ = some (.string q.o.name) ∧ w.cell? ⟨b, off + i * 4 + 2, none⟩ = some (.int .i64 q.o.n) ∧ w.cell? ⟨b, off + i * 4 + 3, none⟩ = some q.row ∧ RowS w q.row q.o.v)

theorem OpsN.below {w w' : World} {v : Value} {os : List OpC} (h : OpsN w v os) (hb : Below w.heap.size w w') : OpsN w' v os := by
 obtain ⟨ao, cap, e, hn, hh⟩ := h
 refine ⟨ao, cap, e, hn, fun h0 => ?_⟩
 obtain ⟨b, off, e', hlt, hc⟩ := hh h0
 refine ⟨b, off, e', Nat.lt_of_lt_of_le hlt hb.size, fun i q hq => ?_⟩
 obtain ⟨a0, a1, a2, a3, a4⟩ := hc i q hq
 exact ⟨(hb.cell (p := ⟨b, off + i * 4, none⟩) hlt).trans a0, (hb.cell (p := ⟨b, off + i * 4 + 1, none⟩) hlt).trans a1, (hb.cell (p := ⟨b, off + i * 4 + 2, none⟩) hlt).trans a2, (hb.cell (p := ⟨b, off + i * 4 + 3, none⟩) hlt).trans a3, a4.below hb (Nat.le_refl _)⟩

def lightO (o : OpV) : Bool := decide (o.name.size ≤ 30 ∧ o.v.length ≤ 10)

def lightL (os : List OpC) (m : Nat) : Bool := decide (os.length ≤ m) && os.all (fun q => lightO q.o)

theorem lightL_ok {os : List OpC} {m : Nat} (h : lightL os m = true) : os.length ≤ m ∧ ∀ q ∈ os, q.o.name.size ≤ 30 ∧ q.o.v.length ≤ 10 := by
 unfold lightL lightO at h
 simp only [Bool.and_eq_true, decide_eq_true_eq, List.all_eq_true] at h
 exact h

set_option linter.unusedSimpArgs false in
set_option maxRecDepth 100000 in
set_option maxHeartbeats 1600000 in
theorem lightOps_any (w : World) (v : Value) (os : List OpC) (m : Nat) (h : OpsN w v os) (hm : m ≤ 1000) :
  Calls Tryz.prog 5 #[v, .int .i64 (m : Int)] w fun e w' => e = .returned (.bool (lightL os m)) ∧ w' = w := by
 have HO := hide h
 obtain ⟨ao, cap, rfl, hcap, -⟩ := h
 generalize hr : lightL os m = r
 have HR := hide hr
 clear hr
 by_cases hml : m < os.length
 ·have g0 : decide ((m : Int) < (os.length : Int)) = true := decide_eq_true (by omega)
  obtain rfl : r = false := by rw [← HR.out]; unfold lightL; rw [decide_eq_false (by omega), Bool.false_and]
  go_enter Tryz.func5, Tryz.ntmps5
  go_wp2
  go_ret
  exact ⟨rfl, rfl⟩
 have g0 : decide ((m : Int) < (os.length : Int)) = false := decide_eq_false (by omega)
 have HA : Hid (os.all (fun q => lightO q.o) = r) := by rw [← HR.out]; unfold lightL; rw [decide_eq_true (by omega), Bool.true_and]; rfl
 clear HR
 go_enter Tryz.func5, Tryz.ntmps5
 go_wp2_with fail
 go_loopw [5] (fun i wr => ∃ k : Nat, k ≤ os.length ∧ i = .int .i64 k ∧ Hid ((os.drop k).all (fun q => lightO q.o) = r) ∧ wr = w) (fun i _ => os.length - (intOf i).toNat)
 case atStart => exact ⟨0, Nat.zero_le _, rfl, HA, rfl⟩
 case round =>
  clear HA
  obtain ⟨k, hk, rfl, HA, rfl⟩ := hrel
  by_cases hkl : k < os.length
  ·have ha := HA.out
   rw [List.drop_eq_getElem_cons hkl, List.all_cons] at ha
   obtain ⟨_, _, e, -, hh⟩ := HO.out
   simp only [Value.slice.injEq, true_and] at e
   obtain ⟨rfl, rfl⟩ := e
   obtain ⟨b, off, rfl, hlt, hc⟩ := hh (by omega)
   obtain ⟨a0, a1, a2, a3, -⟩ := hc k os[k] (List.getElem?_eq_getElem hkl)
   have HAA := hide ha
   clear hh hc ha HA
   generalize os[k] = q at *
   obtain ⟨⟨kd, nm, n, vs⟩, vo, vc⟩ := q
   simp only [OpC.row] at a3
   dsimp only at a0 a1 a2 a3 HAA
   by_cases h30 : nm.size ≤ 30
   ·have g1 : decide (30 < (nm.size : Int)) = false := decide_eq_false (by omega)
    by_cases h10 : vs.length ≤ 10
    ·have g2 : decide (10 < (vs.length : Int)) = false := decide_eq_false (by omega)
     have HA : Hid ((os.drop (k + 1)).all (fun q => lightO q.o) = r) := by
      have := HAA.out
      unfold lightO at this
      dsimp only at this
      rw [decide_eq_true ⟨h30, h10⟩, Bool.true_and] at this
      exact this
     clear HAA h30 h10
     go_wp2
     go_roundw
     case rel => exact ⟨k + 1, by omega, by go_num, HA, by first | rfl | trivial⟩
     case measure => simp [intOf]; omega
    ·have g2 : decide (10 < (vs.length : Int)) = true := decide_eq_true (by omega)
     obtain rfl : r = false := by
      have := HAA.out
      unfold lightO at this
      dsimp only at this
      rw [decide_eq_false (fun h => h10 h.2), Bool.false_and] at this
      exact this.symm
     clear HAA h30 h10
     go_wp2
     go_ret
     exact ⟨rfl, rfl⟩
   ·have g1 : decide (30 < (nm.size : Int)) = true := decide_eq_true (by omega)
    obtain rfl : r = false := by
     have := HAA.out
     unfold lightO at this
     dsimp only at this
     rw [decide_eq_false (fun h => h30 h.1), Bool.false_and] at this
     exact this.symm
    clear HAA h30
    go_wp2
    go_ret
    exact ⟨rfl, rfl⟩
  ·obtain rfl : k = os.length := by omega
   obtain rfl : r = true := by rw [← HA.out, List.drop_length]; rfl
   clear HA
   go_wp2
   go_ret
   exact ⟨rfl, rfl⟩

end Go.Proofs.YtjdnhdcaifogmaaGreatDoor
