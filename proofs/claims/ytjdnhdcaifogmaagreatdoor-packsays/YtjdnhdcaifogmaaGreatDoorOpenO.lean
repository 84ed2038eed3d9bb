/- PackSays: its walk. -/
import Derived.Test.YtjdnhdcaifogmaaGreatDoorPgF
import Derived.Test.YtjdnhdcaifogmaaGreatDoorPkF
import Derived.Test.YtjdnhdcaifogmaaGreatDoorBgW
import Derived.Test.YtjdnhdcaifogmaaGreatDoorWcC
import Derived.Test.YtjdnhdcaifogmaaGreatDoorBpK
import Derived.Test.YtjdnhdcaifogmaaGreatDoorBpC
import Derived.Test.YtjdnhdcaifogmaaGreatDoorBgB
import Derived.Test.YtjdnhdcaifogmaaGreatDoorBpL
import Derived.ProofKit
import Derived.Lib.SmallJoins
import Derived.ChangeOld
import Derived.Test.YtjdnhdcaifogmaaGreatDoorOpsC
import Derived.Test.YtjdnhdcaifogmaaGreatDoorBgD
import Derived.Deep.SlicePairs

namespace Go.Proofs.YtjdnhdcaifogmaaGreatDoor
open Go.RowKit

theorem catOf_form {w w' : World} {s : ByteArray} {e : Ending} (h : CatOfP w s e w') : ∃ (o : Option Addr) (n k : Nat) (qs : List Nc) (f : Nat), e = .returned (.tuple #[.slice o n k, .int .i64 (f : Int)]) ∧ CatN w' (.slice o n k) qs ∧ CatOk (qs.map (·.x)) ∧ ((f = 5 ∧ qs = [] ∧ ∀ cs, CatOk cs → s ≠ bytesP (textC cs)) ∨ (f = 0 ∧ s = bytesP (textC (qs.map (·.x))))) ∧ Below w.heap.size w w' := by
 obtain ⟨⟨h1, rfl⟩ | ⟨u, qs, rfl, h2, h3, h4⟩, hb⟩ := h
 ·exact ⟨none, 0, 0, [], 5, rfl, catN_nil _, catOk_nil, .inl ⟨rfl, rfl, h1⟩, hb⟩
 ·obtain ⟨o, c, rfl, -⟩ := id h2
  exact ⟨o, _, c, qs, 0, rfl, h2, h3, .inr ⟨rfl, h4⟩, hb⟩

theorem cats_agree {s : ByteArray} {ps qs : List Nc} {f g : Nat} (hp : CatOk (ps.map (·.x))) (hq : CatOk (qs.map (·.x)))
  (h1 : (f = 5 ∧ ps = [] ∧ ∀ cs, CatOk cs → s ≠ bytesP (textC cs)) ∨ (f = 0 ∧ s = bytesP (textC (ps.map (·.x)))))
  (h2 : (g = 5 ∧ qs = [] ∧ ∀ cs, CatOk cs → s ≠ bytesP (textC cs)) ∨ (g = 0 ∧ s = bytesP (textC (qs.map (·.x))))) : g = f ∧ ps.map (·.x) = qs.map (·.x) := by
 rcases h1 with ⟨rfl, rfl, h1⟩ | ⟨rfl, h1⟩ <;> rcases h2 with ⟨rfl, rfl, h2⟩ | ⟨rfl, h2⟩
 ·exact ⟨rfl, rfl⟩
 ·exact absurd h2 (h1 _ hq)
 ·exact absurd h1 (h2 _ hp)
 ·exact ⟨rfl, textC_inj _ _ hp.all hq.all (bytesP_inj (h1.symm.trans h2))⟩

def opZ : OpV := ⟨0, ⟨#[]⟩, 0, []⟩

def OpD (s : ByteArray) (o : OpV) (f : Nat) : Prop := (f = 5 ∧ o = opZ ∧ ∀ o, opF o = 0 → opB o ≠ s.data.toList) ∨ (f = 0 ∧ opF o = 0 ∧ opB o = s.data.toList)

theorem row_nil (w : World) : RowS w (.slice none ([] : List Int).length 0) [] := ⟨none, 0, rfl, Nat.le_refl _, fun i => by simp, fun h => absurd h (by simp)⟩

theorem unop_form {w w' : World} {s : ByteArray} {e : Ending} (h : UnopPost w s e w') : ∃ (o : OpV) (vo : Option Addr) (vc f : Nat), e = .returned (.tuple #[.agg #[.int .i64 o.kind, .string o.name, .int .i64 o.n, .slice vo o.v.length vc], errV f]) ∧ RowS w' (.slice vo o.v.length vc) o.v ∧ OpD s o f ∧ Below w.heap.size w w' := by
 obtain ⟨⟨h1, rfl⟩ | ⟨o, vo, vc, h1, h2, rfl, base, hb0, h3⟩, hb⟩ := h
 ·exact ⟨opZ, none, 0, 5, rfl, row_nil _, .inl ⟨rfl, rfl, h1⟩, hb⟩
 ·exact ⟨o, vo, vc, 0, rfl, h3.row, .inr ⟨rfl, h1, h2⟩, hb⟩

theorem opOfR_form {w w' : World} {s : ByteArray} {e : Ending} (h : OpOfR w s e w') : ∃ (o : OpV) (vo : Option Addr) (vc f : Nat), e = .returned (.tuple #[.agg #[.int .i64 o.kind, .string o.name, .int .i64 o.n, .slice vo o.v.length vc], .int .i64 (f : Int)]) ∧ RowS w' (.slice vo o.v.length vc) o.v ∧ OpD s o f ∧ Below w.heap.size w w' := by
 obtain ⟨⟨h1, rfl⟩ | ⟨o, vo, vc, h1, h2, rfl, base, hb0, h3⟩, hb⟩ := h
 ·exact ⟨opZ, none, 0, 5, rfl, row_nil _, .inl ⟨rfl, rfl, h1⟩, hb⟩
 ·exact ⟨o, vo, vc, 0, rfl, h3.row, .inr ⟨rfl, h1, h2⟩, hb⟩

theorem ops_agree {s : ByteArray} {o p : OpV} {f g : Nat} (hsz : s.size ≤ 200) (h1 : OpD s o f) (h2 : OpD s p g) : g = f ∧ p = o ∧ o.v.length ≤ 1000 := by
 rcases h1 with ⟨rfl, rfl, h1⟩ | ⟨rfl, h1, h1'⟩ <;> rcases h2 with ⟨rfl, rfl, h2⟩ | ⟨rfl, h2, h2'⟩
 ·exact ⟨rfl, rfl, by simp [opZ]⟩
 ·exact absurd h2' (h1 _ h2)
 ·exact absurd h1' (h2 _ h1)
 ·have k1 := unB_opB h1
  have k2 := unB_opB h2
  rw [h2', ← h1', k1] at k2
  refine ⟨rfl, (Option.some.inj k2).symm, ?_⟩
  have h3 := congrArg List.length h1'
  rw [opB_len] at h3
  have h4 : s.data.toList.length = s.size := by simp
  omega

set_option linter.unusedSimpArgs false in
set_option maxRecDepth 100000 in
set_option maxHeartbeats 1600000 in
theorem packSaysW_any (w : World) (ht : TabP w) (hm : MaxL w) (he : ErrSet w) (v : Value) (os : List OpC) (s t : ByteArray) (h : OpsN w v os) :
  Calls Tryz.prog 3 #[v, .string s, .string t] w fun e w' => e = .returned (.bool true) ∧ Below w.heap.size w w' := by
 have HT := hide ht; have HM := hide hm; have HE := hide he; have HO := hide h
 obtain ⟨ao, cap, rfl, -⟩ := h
 clear ht hm he
 go_enter Tryz.func3, Tryz.ntmps3
 go_wp2_with fail
 refine (packs_any w HT.out HM.out).mono ?_
 rintro e w1 ⟨rfl, hb1⟩
 have HB1 := hide hb1; have HO1 := hide (HO.out.below hb1)
 clear hb1
 go_wp2_with fail
 refine (lightOps_any w1 _ os 60 HO1.out (by decide)).mono ?_
 rintro e w2 ⟨rfl, rfl⟩
 cases hll : lightL os 60 with
 | false =>
  clear hll
  go_wp2
  go_ret
  exact ⟨rfl, HB1.out⟩
 | true =>
  have hlo := lightL_ok hll
  have HLO : Hid (os.length ≤ 60 ∧ ∀ q ∈ os, q.o.v.length ≤ 10) := ⟨hlo.1, fun q hq => (hlo.2 q hq).2⟩
  clear hll hlo
  by_cases hs : s.size ≤ 2000
  case neg =>
   have g1 : decide ((2000 : Int) < (s.size : Int)) = true := decide_eq_true (by omega)
   have g2 : (2000 : Int) < (s.size : Int) := by omega
   go_wp2
   go_ret
   exact ⟨rfl, HB1.out⟩
  by_cases hts : t.size ≤ 200
  case neg =>
   have g1 : decide ((2000 : Int) < (s.size : Int)) = false := decide_eq_false (by omega)
   have g3 : decide ((200 : Int) < (t.size : Int)) = true := decide_eq_true (by omega)
   have g4 : (200 : Int) < (t.size : Int) := by omega
   go_wp2
   go_ret
   exact ⟨rfl, HB1.out⟩
  have g1 : decide ((2000 : Int) < (s.size : Int)) = false := decide_eq_false (by omega)
  have g3 : decide ((200 : Int) < (t.size : Int)) = false := decide_eq_false (by omega)
  have HS := hide hs; have HTS := hide hts
  go_wp2_with fail
  clear g1 g3 hs hts
  refine (laid_any w2 _ os HO1.out HLO.out.2 (by have := HLO.out.1; omega)).mono ?_
  rintro e w3 ⟨co, cl, ck, mo, ml, mk, qs, ps, rfl, hc3, hm3, heq, hok, hb3⟩
  have hbA := alloc_below w3 (.cells #[.slice co cl ck] 27)
  have X8 := hide (One.new w3 (.slice co cl ck) 27)
  have HB3 := hide ((HB1.out.trans (hb3.mono HB1.out.size)).trans (hbA.mono (HB1.out.trans (hb3.mono HB1.out.size)).size))
  have HC := hide (hc3.below hbA); have HCM := hide (hm3.below hbA); have HEQ := hide heq; have HOK := hide hok
  clear hb3 hbA hc3 hm3 heq hok HB1 HO1
  obtain ⟨c8, c8', -⟩ := X8.out
  go_wp2_with fail
  clear c8 c8'
  generalize w3.alloc (.cells #[.slice co cl ck] 27) = W3 at *
  obtain ⟨c8, -, -⟩ := X8.out
  try go_wp2_with fail
  clear c8
  refine (textP_any W3 _ qs ⟨_, rfl, HC.out⟩ HOK.out (HT.out.below HB3.out)).mono ?_
  rintro e w4 ⟨rfl, hb4⟩
  have HB4 := hide (HB3.out.trans (hb4.mono HB3.out.size)); have HCM4 := hide (HCM.out.below hb4)
  clear hb4 HB3 HC HCM X8
  obtain ⟨TX, hTX⟩ : ∃ TX, (⟨(textC (qs.map (·.x))).toArray⟩ : ByteArray) = TX := ⟨_, rfl⟩
  rw [hTX]
  have HTX := hide hTX
  clear hTX
  go_wp2_with fail
  refine (textR_any w4 _ ps HCM4.out (by rw [HEQ.out]; exact HOK.out)).mono ?_
  rintro e w5 ⟨rfl, hb5⟩
  have htx : bytesP (textC (ps.map (·.x))) = TX := by rw [HEQ.out]; exact HTX.out
  rw [htx]
  have HB5 := hide (HB4.out.trans (hb5.mono HB4.out.size))
  clear htx hb5 HB4 HCM4 HTX HEQ HOK
  go_wp2_with fail
  refine (parseP_any w5 s (HT.out.below HB5.out) (HM.out.below HB5.out) (HE.out.below HB5.out) (by have := HS.out; omega)).mono ?_
  rintro e w6 ⟨po, pl, pk, xs, f, rfl, hx6, hxok, hxd, hb6⟩
  have hbA := alloc_below w6 (.cells #[.slice po pl pk] 27)
  have X10 := hide (One.new w6 (.slice po pl pk) 27)
  have HB6 := hide ((HB5.out.trans (hb6.mono HB5.out.size)).trans (hbA.mono (HB5.out.trans (hb6.mono HB5.out.size)).size))
  have HX6 := hide (hx6.below hbA); have HXOK := hide hxok; have HXD := hide hxd
  clear hb6 hbA hx6 hxok hxd HB5
  obtain ⟨c10, c10', -⟩ := X10.out
  go_wp2_with fail
  clear c10 c10'
  generalize w6.alloc (.cells #[.slice po pl pk] 27) = W6 at *
  refine (catalogOf_any W6 s (by have := HS.out; omega)).mono ?_
  rintro e w7 hres
  obtain ⟨yo, yl, yk, ys, g, rfl, hy7, hyok, hyd, hb7⟩ := catOf_form hres
  obtain ⟨hgf, heq⟩ := cats_agree HXOK.out hyok HXD.out hyd
  subst hgf
  have X10a := hide (X10.out.later hb7); have HB7 := hide (HB6.out.trans (hb7.mono HB6.out.size)); have HX7 := hide (HX6.out.below hb7); have HY7 := hide hy7; have HEQ := hide heq
  clear hres hy7 hyok hyd heq hb7 X10 HB6 HX6 HXD
  go_wp2_with fail
  refine (sameV_any g w7).mono ?_
  rintro e w8 ⟨rfl, rfl⟩
  obtain ⟨c10, -, -⟩ := X10a.out
  go_wp2_with fail
  clear c10
  refine (lattices_any2 w8 _ xs ⟨_, rfl, HX7.out⟩ (by have := HXOK.out.few; rw [List.length_map] at this; omega) HXOK.out.all).mono ?_
  rintro e w9 ⟨u9, rs, rfl, hcr, hrs, hb9⟩
  have HB9 := hide (HB7.out.trans (hb9.mono HB7.out.size)); have HCR := hide hcr; have HY9 := hide (HY7.out.below hb9); have HRS := hide hrs
  clear hcr hrs hb9 HB7 HX7 HY7 X10a
  go_wp2_with fail
  refine (sameCatalog_any w9 _ _ rs ys HCR.out HY9.out (by have h1 := HXOK.out.few; rw [← HRS.out, List.length_map] at h1; omega) (fun p hp => by
   have h1 := HXOK.out.all p.x (by rw [← HRS.out]; exact List.mem_map.2 ⟨p, hp, rfl⟩)
   refine ⟨by have := h1.few; omega, fun g hg => ?_⟩
   have h2 := (genF_ok.1 (h1.gens g hg)).1
   have h3 := h1.n
   omega) true ⟨fun _ => by rw [HRS.out, HEQ.out], fun _ => rfl⟩).mono ?_
  rintro e w10 ⟨rfl, hb10⟩
  have HB10 := hide (HB9.out.trans (hb10.mono HB9.out.size))
  clear hb10 HB9 HCR HY9 HRS HEQ HXOK HS
  go_wp2_with fail
  go_loopw [14] (fun i wr => ∃ (k : Nat), k ≤ os.length ∧ i = .int .i64 k ∧ Hid (Below w.heap.size w wr)) (fun i _ => os.length - (intOf i).toNat)
  case atStart => exact ⟨0, Nat.zero_le _, rfl, HB10⟩
  case round =>
   clear HB10
   obtain ⟨k, hk, rfl, HB⟩ := hrel
   by_cases hkl : k < os.length
   ·obtain ⟨_, _, e, -, hh⟩ := HO.out.below HB.out
    simp only [Value.slice.injEq, true_and] at e
    obtain ⟨rfl, rfl⟩ := e
    obtain ⟨b, off, rfl, hltw, hc⟩ := hh (by omega)
    obtain ⟨a0, a1, a2, a3, a4⟩ := hc k os[k] (List.getElem?_eq_getElem hkl)
    have hv10 := HLO.out.2 os[k] (List.getElem_mem hkl)
    clear hh hc
    generalize os[k] = q at *
    obtain ⟨⟨kd, nm, nn, vs⟩, vo, vc⟩ := q
    simp only [OpC.row] at a3 a4
    dsimp only at a0 a1 a2 a3 a4 hv10
    have HRV := hide a4
    clear a4
    go_wp2_with fail
    refine (packOp_any wr ⟨kd, nm, nn, vs⟩ vo vc HRV.out).mono ?_
    rintro e w3 ⟨rfl, hb3⟩
    have HBa := hide (HB.out.trans (hb3.mono HB.out.size)); have HRa := hide (HRV.out.below hb3 (Nat.le_refl _))
    have b0 := (hb3.cell (p := ⟨b, off + k * 4, none⟩) hltw).trans a0
    have b1 := (hb3.cell (p := ⟨b, off + k * 4 + 1, none⟩) hltw).trans a1
    have b2 := (hb3.cell (p := ⟨b, off + k * 4 + 2, none⟩) hltw).trans a2
    have b3 := (hb3.cell (p := ⟨b, off + k * 4 + 3, none⟩) hltw).trans a3
    clear a0 a1 a2 a3 hb3 HB HRV
    obtain ⟨SO, hSO⟩ : ∃ SO, opS ⟨kd, nm, nn, vs⟩ = SO := ⟨_, rfl⟩
    obtain ⟨fo, hfo⟩ : ∃ fo, opF ⟨kd, nm, nn, vs⟩ = fo := ⟨_, rfl⟩
    rw [hSO, hfo]
    have HSO := hide hSO; have HFO := hide hfo
    clear hSO hfo
    go_wp2_with fail
    clear b0 b1 b2 b3
    refine (opTextR_any w3 ⟨kd, nm, nn, vs⟩ vo vc HRa.out (by show vs.length ≤ 1000000; omega)).mono ?_
    rintro e w4 ⟨rfl, hb4⟩
    rw [HSO.out, HFO.out]
    have HBb := hide (HBa.out.trans (hb4.mono HBa.out.size))
    clear hb4 HBa HRa HSO HFO
    go_wp2_with fail
    refine (sameV_any fo w4).mono ?_
    rintro e w5 ⟨rfl, rfl⟩
    have h60 := HLO.out.1
    go_wp2
    go_roundw
    case rel => exact ⟨k + 1, by omega, by go_num, HBb⟩
    case measure => simp [intOf]; omega
   ·obtain rfl : k = os.length := by omega
    go_wp2_with fail
    refine (unop_any wr t (by have := HTS.out; omega)).mono ?_
    rintro e w3 hres
    obtain ⟨o, vo, vc, f, rfl, hr3, hd3, hb3⟩ := unop_form hres
    have hbA := alloc_below w3 (.cells #[.int .i64 o.kind, .string o.name, .int .i64 o.n, .slice vo o.v.length vc] 46)
    have X19 := hide (BoxQ.new w3 (.int .i64 o.kind) (.string o.name) (.int .i64 o.n) (.slice vo o.v.length vc) 46)
    have HB3 := hide ((HB.out.trans (hb3.mono HB.out.size)).trans (hbA.mono (HB.out.trans (hb3.mono HB.out.size)).size))
    have HR3 := hide (hr3.below hbA (Nat.le_refl _)); have HD3 := hide hd3
    clear hres hr3 hd3 hb3 hbA HB
    go_wp2_with fail
    generalize hWA : w3.alloc (.cells #[.int .i64 o.kind, .string o.name, .int .i64 o.n, .slice vo o.v.length vc] 46) = WA at *
    clear hWA
    refine (opOfR_any WA t (by have := HTS.out; omega)).mono ?_
    rintro e w4 hres
    obtain ⟨p, vp, vq, g, rfl, hr4, hd4, hb4⟩ := opOfR_form hres
    obtain ⟨hgf, hpo, hvl⟩ := ops_agree HTS.out HD3.out hd4
    subst hgf
    subst hpo
    have hbA := alloc_below w4 (.cells #[.int .i64 p.kind, .string p.name, .int .i64 p.n, .slice vp p.v.length vq] 46)
    have X20 := hide (BoxQ.new w4 (.int .i64 p.kind) (.string p.name) (.int .i64 p.n) (.slice vp p.v.length vq) 46)
    have X19f : Hid (FourV (w4.alloc (.cells #[.int .i64 p.kind, .string p.name, .int .i64 p.n, .slice vp p.v.length vq] 46)) w3.heap.size (.int .i64 p.kind) (.string p.name) (.int .i64 p.n) (.slice vo p.v.length vc)) := (X19.out.1.later hb4).later hbA
    have HB4 := hide ((HB3.out.trans (hb4.mono HB3.out.size)).trans (hbA.mono (HB3.out.trans (hb4.mono HB3.out.size)).size))
    have HR4 := hide (hr4.below hbA (Nat.le_refl _)); have HR3a := hide ((HR3.out.below hb4 (Nat.le_refl _)).below hbA (Nat.le_refl _))
    clear hres hr4 hd4 hb4 hbA HB3 HR3 X19 HD3
    go_wp2_with fail
    generalize hWB : w4.alloc (.cells #[.int .i64 p.kind, .string p.name, .int .i64 p.n, .slice vp p.v.length vq] 46) = WB at *
    clear hWB
    refine (sameV_any g WB).mono ?_
    rintro e w5 ⟨rfl, rfl⟩
    obtain ⟨⟨d0, d1, d2, d3, -⟩, -⟩ := X20.out
    obtain ⟨e0, e1, e2, e3, -⟩ := X19f.out
    go_wp2_with fail
    clear d0 d1 d2 d3 e0 e1 e2 e3
    refine (sameOp_any w5 p vo vp vc vq HR3a.out HR4.out hvl).mono ?_
    rintro e w6 ⟨rfl, hb6⟩
    have HB6 := hide (HB4.out.trans (hb6.mono HB4.out.size))
    clear hb6
    go_wp2
    go_ret
    exact ⟨rfl, HB6.out⟩

end Go.Proofs.YtjdnhdcaifogmaaGreatDoor

/- Whole numbers that came in, in a row: as they read. -/
namespace Go.Proofs.YtjdnhdcaifogmaaGreatDoor
open Go.ChangeShapes Go.WideShapes Go.ChangeAt Go.RowKit Go.Joins Limbs

theorem Tryz.cellsIntS : Tryz.prog.cellsOf 44 = 1 := by kernel_rfl
theorem Tryz.cellsInt : Tryz.prog.cellsOf 3 = 1 := by kernel_rfl

set_option maxRecDepth 100000 in
theorem open_rowS {H : Type} {enc : TypeId × Value → H} {W : World} {n : Nat} {v : Value} {y : DataW H × List MemPlace}
  (h : DataW.trod enc Tryz.prog W 0 (fun _ => true) true n 44 [v] = some y) : ∃ ks, RowS W v ks := by
 rcases open_ints Tryz.underlying44 Tryz.underlying3 Tryz.cellsInt h with ⟨hcs, _⟩ | ⟨x, l, c, zs, hcs, _, hl, hm, hz, _, hcell, hwz⟩
 ·simp only [List.cons.injEq, and_true] at hcs
  subst hcs
  exact ⟨[], none, 0, rfl, Nat.le_refl _, fun i => by simp, fun h => absurd h (by simp)⟩
 ·simp only [List.cons.injEq, and_true] at hcs
  subst hcs
  have hz' : zs.length = c := by simpa using hz
  have hlen : (zs.take l).length = l := by rw [List.length_take]; omega
  refine ⟨zs.take l, some x, c, by rw [hlen], by rw [hlen]; exact hl, fun i => ?_, fun h0 => ?_⟩
  ·by_cases hi : i < (zs.take l).length
   ·rw [List.getD_eq_getElem?_getD, List.getElem?_eq_getElem hi, Option.getD_some]
    have := hwz _ (List.mem_of_mem_take (List.getElem_mem hi))
    simp [Lit.wf, IntKind.min, IntKind.max, IntKind.signed, IntKind.bits] at this
    rw [List.getElem_take]
    omega
   ·rw [List.getD_eq_getElem?_getD, List.getElem?_eq_none (by omega)]
    simp
  ·obtain ⟨blk, off, spot⟩ := x
   rw [hlen] at h0
   have h00 := hcell 0 (by omega)
   have hspot : spot = none := by simpa [Addr.add] using World.cell?_spot h00
   subst hspot
   refine ⟨blk, off, rfl, World.block_lt_of_cell? W _ h00, fun i hi => ?_⟩
   rw [hlen] at hi
   have := hcell i (by omega)
   rw [getD_take zs l i (by omega)]
   by_cases hi0 : i = 0
   ·subst hi0; simpa [Addr.add] using this
   ·simpa [Addr.add, hi0] using this

end Go.Proofs.YtjdnhdcaifogmaaGreatDoor

/- Operations that came in, as they read: all four cells. -/
namespace Go.Proofs.YtjdnhdcaifogmaaGreatDoor
open Go.ChangeShapes Go.WideShapes Go.ChangeAt Go.RowKit Go.Joins

theorem Tryz.cellsOpF : Tryz.prog.cellsOf 46 = 4 := by kernel_rfl
theorem Tryz.cellsStrF : Tryz.prog.cellsOf 9 = 1 := by kernel_rfl

instance : Inhabited OpC := ⟨⟨⟨0, ⟨#[]⟩, 0, []⟩, none, 0⟩⟩

section
variable {H : Type} {enc : TypeId × Value → H} {W : World}

set_option maxRecDepth 100000 in
theorem open_opF {n : Nat} {cs : List Value} {y : DataW H × List MemPlace} (h : DataW.trod enc Tryz.prog W 0 (fun _ => true) true n 46 cs = some y) :
  ∃ q : OpC, cs[0]? = some (.int .i64 q.o.kind) ∧ cs[1]? = some (.string q.o.name) ∧ cs[2]? = some (.int .i64 q.o.n) ∧ cs[3]? = some q.row ∧ RowS W q.row q.o.v := by
 obtain ⟨xs, k, -, -, hl, hxl, hf⟩ := DataW.trod_struct Tryz.underlying46 h
 rw [Tryz.cellsOpF] at hl
 match cs, hl with
 | [v0, v1, v2, v3], _ =>
  match xs, hxl with
  | [x0, x1, x2, x3], _ =>
   have g0 : DataW.trod enc Tryz.prog W 0 (fun _ => true) true k 3 (([v0, v1, v2, v3].drop 0).take (Tryz.prog.cellsOf 3)) = [x0, x1, x2, x3][0]? := hf 0 _ rfl
   have g1 : DataW.trod enc Tryz.prog W 0 (fun _ => true) true k 9 (([v0, v1, v2, v3].drop 1).take (Tryz.prog.cellsOf 9)) = [x0, x1, x2, x3][1]? := hf 1 _ rfl
   have g2 : DataW.trod enc Tryz.prog W 0 (fun _ => true) true k 3 (([v0, v1, v2, v3].drop 2).take (Tryz.prog.cellsOf 3)) = [x0, x1, x2, x3][2]? := hf 2 _ rfl
   have g3 : DataW.trod enc Tryz.prog W 0 (fun _ => true) true k 44 (([v0, v1, v2, v3].drop 3).take (Tryz.prog.cellsOf 44)) = [x0, x1, x2, x3][3]? := hf 3 _ rfl
   rw [Tryz.cellsInt] at g0 g2
   rw [Tryz.cellsStrF] at g1
   rw [Tryz.cellsIntS] at g3
   obtain ⟨kd, e0, -, -⟩ := DataW.trod_int Tryz.underlying3 g0
   obtain ⟨name, e1, -, -⟩ := DataW.trod_string Tryz.underlying9 g1
   obtain ⟨nn, e2, -, -⟩ := DataW.trod_int Tryz.underlying3 g2
   obtain ⟨ks, hr⟩ := open_rowS (v := v3) g3
   have e0' : v0 = .int .i64 kd := by simpa using e0
   have e1' : v1 = .string name := by simpa using e1
   have e2' : v2 = .int .i64 nn := by simpa using e2
   obtain ⟨vo, vc, e3'⟩ := RowS.form hr
   subst e0' e1' e2' e3'
   exact ⟨⟨⟨kd, name, nn, ks⟩, vo, vc⟩, rfl, rfl, rfl, rfl, hr⟩

set_option maxRecDepth 100000 in
theorem open_opsN {n : Nat} {v : Value} {y : DataW H × List MemPlace} (h : DataW.trod enc Tryz.prog W 0 (fun _ => true) true n 22 [v] = some y) : ∃ os, OpsN W v os := by
 rcases Go.Deep.open_slice Tryz.underlying22 h with ⟨e, -⟩ | ⟨a, l, c, m, n, D, Pl, e, -, hl, hm, hmm, -, hc⟩
 ·have e' : v = .slice none 0 0 := by simpa using e
  exact ⟨[], none, 0, e', by decide, fun h => absurd h (by decide)⟩
 ·have e' : v = .slice (some a) l c := by simpa using e
  have hm' : l ≤ m := by simp at hmm; omega
  have each : ∀ i, i < l → ∃ q : OpC, W.cell? (a.add (i * 4 + 0)) = some (.int .i64 q.o.kind) ∧ W.cell? (a.add (i * 4 + 1)) = some (.string q.o.name) ∧ W.cell? (a.add (i * 4 + 2)) = some (.int .i64 q.o.n) ∧ W.cell? (a.add (i * 4 + 3)) = some q.row ∧ RowS W q.row q.o.v := fun i hi => by
   obtain ⟨cs, h1, h2⟩ := hc i (by omega)
   rw [Tryz.cellsOpF] at h1
   obtain ⟨-, hlen, hcell⟩ := World.cells?_some h1
   obtain ⟨q, e0, e1, e2, e3, hr⟩ := open_opF h2
   have c0 := hcell 0 (by omega)
   have c1 := hcell 1 (by omega)
   have c2 := hcell 2 (by omega)
   have c3 := hcell 3 (by omega)
   rw [Go.Deep.add_add, e0] at c0
   rw [Go.Deep.add_add, e1] at c1
   rw [Go.Deep.add_add, e2] at c2
   rw [Go.Deep.add_add, e3] at c3
   exact ⟨q, c0, c1, c2, c3, hr⟩
  obtain ⟨q, hq⟩ := Go.Deep.choose_lt each
  have hlen : ((List.range l).map q).length = l := by simp
  refine ⟨(List.range l).map q, some a, c, by rw [hlen]; exact e', by rw [hlen]; exact hl, fun h0 => ?_⟩
  rw [hlen] at h0
  obtain ⟨k0, -⟩ := hq 0 h0
  obtain ⟨blk, off, spot⟩ := a
  have hsp : spot = none := by simpa [Addr.add] using World.cell?_spot k0
  subst hsp
  refine ⟨blk, off, rfl, by simpa [Addr.add] using World.block_lt_of_cell? W _ k0, fun i r hi => ?_⟩
  obtain ⟨hi', e⟩ := List.getElem?_eq_some_iff.1 hi
  rw [hlen] at hi'
  have e2 : r = q i := by simpa using e.symm
  obtain ⟨c0, c1, c2, c3, hr⟩ := hq i hi'
  rw [Go.WideShapes.add_plain] at c0 c1 c2 c3
  rw [e2]
  refine ⟨by simpa using c0, ?_, ?_, ?_, hr⟩
  ·rw [Nat.add_assoc]; exact c1
  ·rw [Nat.add_assoc]; exact c2
  ·rw [Nat.add_assoc]; exact c3

set_option maxRecDepth 100000 in
theorem open_opsV {r : Reach} {b0 : Nat} {v : Value} {d : DataW H} {p : List MemPlace} (hv : Value.okWide Tryz.prog W r b0 22 v) (h : DataW.Trod enc Tryz.prog W 0 (fun _ => true) true 22 v d p) : ∃ os, OpsN W v os := by
 obtain ⟨a0, len, cap, rfl⟩ := okWide_slice Tryz.underlying22 hv
 obtain ⟨fuel, hf⟩ := h
 exact open_opsN (v := .slice a0 len cap) hf

end

end Go.Proofs.YtjdnhdcaifogmaaGreatDoor
