/- pack.withLine: the lattice of a line that is right. -/
import Derived.Test.YtnhbfehfipafoaaGreatDoorBpO

namespace Go.Proofs.YtnhbfehfipafoaaGreatDoor
open Go.RowKit

def tailT : List (List Int) → List UInt8
 | [] => []
 | g :: t => numT g ++ t.flatMap genT

theorem tail_cut (g : List Int) (t : List (List Int)) : Lib.cut (tailT (g :: t)) [59, 32] = (numT g, tailT t, !t.isEmpty) := by
 have h := numT_not 59 (.inl rfl) g
 cases t with
 | nil =>
  show Lib.cut (numT g ++ []) [59, 32] = _
  rw [List.append_nil, cut_miss2 59 32 _ h]
  rfl
 | cons g' t' =>
  have e : tailT (g :: g' :: t') = numT g ++ 59 :: 32 :: (numT g' ++ t'.flatMap genT) := by
   show numT g ++ (g' :: t').flatMap genT = _
   rw [List.flatMap_cons]
   unfold genT
   simp
  rw [e, cut_hit2 59 32 _ _ h]
  rfl

theorem head_not {x : Nmd} (h : NmOk x) (c : UInt8) (hc : c = 59 ∨ c = 10) : c ∉ headT x := by
 unfold headT
 rw [List.mem_append, List.mem_append]
 rintro ((h1 | h1) | h1)
 ·rcases hc with rfl | rfl
  ·obtain ⟨-, -, h3⟩ := of_decide_eq_true h.name
   obtain ⟨i, hi, e⟩ := List.mem_iff_getElem.1 h1
   have hi' : i < x.name.size := by simpa using hi
   have h4 := h3 i hi'
   have hb : byt x.name i = 59 := by
    unfold byt
    rw [dif_pos hi']
    have : x.name[i]'hi' = 59 := by rw [← e]; rfl
    rw [this]
    rfl
   omega
  ·exact name_not x.name h.name 10 (by decide) h1
 ·rw [List.mem_singleton] at h1
  rcases hc with rfl | rfl <;> exact absurd h1 (by decide)
 ·have := numC_not (ito_chars x.n c h1)
  rcases hc with rfl | rfl
  ·exact this.2.1 rfl
  ·exact this.2.2 rfl

theorem line_cut {x : Nmd} (h : NmOk x) : Lib.cut (headT x ++ x.gens.flatMap genT) [59, 32] = (headT x, tailT x.gens, !x.gens.isEmpty) := by
 have hn := head_not h 59 (.inl rfl)
 cases hg : x.gens with
 | nil =>
  rw [List.flatMap_nil, List.append_nil, cut_miss2 59 32 _ hn]
  rfl
 | cons g t =>
  have e : headT x ++ (g :: t).flatMap genT = headT x ++ 59 :: 32 :: (numT g ++ t.flatMap genT) := by
   rw [List.flatMap_cons]
   unfold genT
   simp
  rw [e, cut_hit2 59 32 _ _ hn]
  rfl

theorem head_cut {x : Nmd} (h : NmOk x) : Lib.cut (headT x) [32] = (x.name.data.toList, Lib.itoa x.n, true) := by
 have e : headT x = x.name.data.toList ++ 32 :: Lib.itoa x.n := by unfold headT; simp
 rw [e]
 exact cut_hit 32 _ _ (name_not x.name h.name 32 (by decide))

theorem drewN_below (w : World) (n : Nat) : Below w.heap.size w (w.drewN n) := ⟨rfl, rfl, rfl, Nat.le_refl _, fun _ _ => rfl⟩

theorem cutP_any (W : World) (hm : MaxL W) (s sep : ByteArray) (hs : s.size ≤ 1000000) (a b : List UInt8) (c : Bool) (hc : Lib.cut s.data.toList sep.data.toList = (a, b, c)) :
  Calls Tryz.prog 87 #[.string s, .string sep] W fun e w' => e = .returned (.tuple #[.string (bytesP a), .string (bytesP b), .bool c]) ∧ Below W.heap.size W w' := by
 obtain ⟨m, hm1, -⟩ := hm
 refine (Go.Proofs.Tryz.strings_Cut s sep m W (by omega) hm1).mono ?_
 rintro e w' ⟨rfl, n, rfl⟩
 rw [hc]
 exact ⟨rfl, drewN_below W n⟩

theorem num_pos {g : List Int} (h : 0 < g.length) : 0 < (numT g).length := by
 unfold numT
 match g, h with
 | z :: t, _ =>
  rw [List.map_cons, Lib.join_cons, List.length_append]
  have : 0 < (Lib.itoa z).length := by
   unfold Lib.itoa
   split
   ·simp
   ·exact List.length_pos_iff.2 (dec_ne _)
  omega

def strSz : Value → Nat
 | .string s => s.size
 | _ => 0

theorem tail_le (t : List (List Int)) : (tailT t).length ≤ (t.flatMap genT).length := by
 cases t with
 | nil => simp [tailT]
 | cons g' t' =>
  show (numT g' ++ t'.flatMap genT).length ≤ _
  rw [List.flatMap_cons, List.length_append, List.length_append]
  unfold genT
  simp
  omega

theorem tail_less {g : List Int} {t : List (List Int)} (h : 0 < g.length) : (tailT t).length < (tailT (g :: t)).length := by
 have h1 := num_pos h
 have h2 := tail_le t
 show _ < (numT g ++ t.flatMap genT).length
 rw [List.length_append]
 omega

end Go.Proofs.YtnhbfehfipafoaaGreatDoor

/- pack.withLine: the lattice of a line that is right: its walk. -/
namespace Go.Proofs.YtnhbfehfipafoaaGreatDoor
open Go.RowKit

theorem catRes_ok {w w' : World} {l : List Nmd} {e : Ending} (h : CatRes w (0, l) e w') : ∃ o n k qs, e = .returned (.tuple #[.agg #[.slice o n k], .nilIface]) ∧ CatN w' (.slice o n k) qs ∧ qs.map (·.x) = l ∧ Below w.heap.size w w' := by
 obtain ⟨h | ⟨-, u, qs, h2, h3, v, rfl, h4⟩, hb⟩ := h
 ·exact absurd rfl h.1
 ·obtain ⟨o, c, rfl, -⟩ := id h4
  exact ⟨o, _, c, qs, h2, h4, h3, hb⟩

theorem One.writeP {W : World} {B : Nat} {u : Value} (h : One W B u) (x : Value) : One (W.setCell ⟨B, 0, none⟩ x) B x :=
 ⟨World.cell?_setCell_same (h := h.1) .., by simpa using h.2.1, by simpa using h.2.2⟩

theorem catN_noRowP {W : World} {u : Value} {ps : List Nc} (h : CatN W u ps) {g : List Int} (hg : g ≠ []) : ¬ RowS W u g := fun hr => by
 obtain ⟨ao, cap, e, -, hh⟩ := h
 obtain ⟨bo, cap', e2, -, -, hh2⟩ := hr
 rw [e] at e2
 simp only [Value.slice.injEq] at e2
 obtain ⟨rfl, hl, -⟩ := e2
 have h0 : 0 < g.length := List.length_pos_iff.2 hg
 obtain ⟨b, off, rfl, -, hc⟩ := hh (by omega)
 obtain ⟨b', off', e3, -, hc2⟩ := hh2 h0
 simp only [Option.some.injEq, Addr.mk.injEq, and_true] at e3
 obtain ⟨rfl, rfl⟩ := e3
 have k1 := (hc 0 ps[0] (List.getElem?_eq_getElem (by omega))).1
 have k2 := hc2 0 h0
 rw [Nat.zero_mul, Nat.add_zero] at k1
 rw [Nat.add_zero, k1] at k2
 cases k2

theorem RowS.setVarP {W : World} {v : Value} {ks : List Int} (h : RowS W v ks) {p : Addr} {o : Option Addr} {l c : Nat} (hc : W.cell? p = some (.slice o l c)) (x : Value) : RowS (W.setCell p x) v ks := by
 obtain ⟨ao, cap, e, hn, h6, hh⟩ := h
 refine ⟨ao, cap, e, hn, h6, fun h0 => ?_⟩
 obtain ⟨b, off, e', hlt, hcell⟩ := hh h0
 refine ⟨b, off, e', by simpa using hlt, fun i hi => (World.cell?_setCell_other _ _ _ _ fun e => ?_).trans (hcell i hi)⟩
 have := hcell i hi
 rw [← e, hc] at this; cases this

theorem CatN.setVarP {W : World} {v : Value} {qs : List Nc} (h : CatN W v qs) (hne : NonE qs) {B : Nat} {u : Value} {ps : List Nc} (hc : W.cell? ⟨B, 0, none⟩ = some u) (hu : CatN W u ps) (x : Value) : CatN (W.setCell ⟨B, 0, none⟩ x) v qs := by
 have hno := fun g (hg : g ≠ []) => catN_noRowP (g := g) hu hg
 obtain ⟨uo, uc, rfl, -⟩ := hu
 obtain ⟨ao, cap, e, hn, hh⟩ := h
 refine ⟨ao, cap, e, hn, fun h0 => ?_⟩
 obtain ⟨b, off, e', hlt, hcell⟩ := hh h0
 refine ⟨b, off, e', hlt.set _ _, fun i q hi => ?_⟩
 obtain ⟨h1, h2, h3, h4⟩ := hcell i q hi
 refine ⟨(World.cell?_setCell_other _ _ _ _ fun e => ?_).trans h1, (World.cell?_setCell_other _ _ _ _ fun e => ?_).trans h2, (World.cell?_setCell_other _ _ _ _ fun e => ?_).trans h3, ?_⟩
 ·rw [← e, hc] at h1; cases h1
 ·rw [← e, hc] at h2; cases h2
 ·have := congrArg Addr.off e
  simp at this
 ·have hq := hne q (List.mem_of_getElem? hi)
  refine GensIn.set h4 ?_ (fun r hr u hu => by rw [hc] at hu; obtain rfl := Option.some.inj hu; exact hno r (hq r hr))
  obtain ⟨⟨go, gc, ge, gn, gh⟩, -⟩ := h4
  refine ⟨go, gc, ge, gn, fun g0 => ?_⟩
  obtain ⟨gb, goff, ge', glt, gcell⟩ := gh g0
  refine ⟨gb, goff, ge', by simpa using glt, fun j r hj => ?_⟩
  obtain ⟨u2, hu2, hr2⟩ := gcell j r hj
  refine ⟨u2, (World.cell?_setCell_other _ _ _ _ fun e => ?_).trans hu2, hr2.setVarP hc x⟩
  rw [← e, hc] at hu2
  simp only [Option.some.injEq] at hu2
  rw [← hu2] at hr2
  exact hno r (hq r (List.mem_of_getElem? hj)) hr2

set_option linter.unusedSimpArgs false in
set_option maxRecDepth 100000 in
set_option maxHeartbeats 1600000 in
theorem withLine_ok (w : World) (v : Value) (qs : List Nc) (x : Nmd) (s : ByteArray) (h : CatV w v qs) (hx : CatOk (qs.map (·.x) ++ [x])) (hm : MaxL w) (hs : s = bytesP (headT x ++ x.gens.flatMap genT)) :
  Calls Tryz.prog 88 #[v, .string s] w fun e w' => CatRes w (0, qs.map (·.x) ++ [x]) e w' := by
 obtain ⟨u, rfl, hu⟩ := h
 obtain ⟨ao, cap, rfl, hcap, -⟩ := id hu
 have hxo := hx.all x (by simp)
 have hll := lineT_len hxo
 have hsd : s.data.toList = headT x ++ x.gens.flatMap genT := by rw [hs]; simp [bytesP]
 have hsz : s.size ≤ 1000000 := by
  have h1 : s.size = (headT x ++ x.gens.flatMap genT).length := by rw [hs]; show (List.toArray _).size = _; rw [List.size_toArray]
  unfold lineT at hll
  rw [List.length_append] at hll
  rw [h1]
  omega
 have hcut := line_cut hxo
 rw [← hsd] at hcut
 have HU := hide hu; have HX := hide hx; have HM := hide hm; have HXO := hide hxo; have HSZ := hide hsz; have HCUT := hide hcut; have HLL := hide hll
 have hb1 := alloc_below w (.cells #[.slice ao qs.length cap] 53)
 have hb2 := alloc_below (w.alloc (.cells #[.slice ao qs.length cap] 53)) (.cells #[.slice none 0 0] 53)
 have X2 := hide ((One.new w (.slice ao qs.length cap) 53).later hb2)
 have hx4 := One.new (w.alloc (.cells #[.slice ao qs.length cap] 53)) (.slice none 0 0) 53
 have hs1 : (w.alloc (.cells #[.slice ao qs.length cap] 53)).heap.size = w.heap.size + 1 := by simp
 rw [hs1] at hx4
 have X4 := hide hx4
 have HB := hide (hb1.trans (hb2.mono hb1.size))
 clear hb1 hb2 hx4 hs1 hu hx hm hs hxo hll hsd hsz hcut hcap
 go_enter Tryz.func88, Tryz.ntmps88
 go_wp2_with fail
 generalize (w.alloc (.cells #[.slice ao qs.length cap] 53)).alloc (.cells #[.slice none 0 0] 53) = W2 at *
 refine (cutP_any W2 (HM.out.below HB.out) s ⟨#[59, 32]⟩ HSZ.out _ _ _ HCUT.out).mono ?_
 rintro e W3 ⟨rfl, hb3⟩
 have X2a := hide (X2.out.later hb3); have X4a := hide (X4.out.later hb3); have HBa := hide (HB.out.trans (hb3.mono HB.out.size))
 clear hb3 X2 X4 HB HCUT
 obtain ⟨HD, hHD⟩ : ∃ HD, bytesP (headT x) = HD := ⟨_, rfl⟩
 rw [hHD]
 have hcut2 : Lib.cut HD.data.toList (⟨#[32]⟩ : ByteArray).data.toList = (x.name.data.toList, Lib.itoa x.n, true) := by rw [← hHD]; show Lib.cut (headT x) [32] = _; exact head_cut HXO.out
 have hHs : HD.size ≤ 1000000 := by
  have h1 := HLL.out
  unfold lineT at h1
  rw [List.length_append, List.length_append] at h1
  rw [← hHD]
  show (headT x).toArray.size ≤ _
  rw [List.size_toArray]
  omega
 have HHS := hide hHs; have HC2 := hide hcut2
 clear hHs hcut2 hHD
 go_wp2_with fail
 refine (cutP_any W3 (HM.out.below HBa.out) HD ⟨#[32]⟩ HHS.out _ _ _ HC2.out).mono ?_
 rintro e W4 ⟨rfl, hb4⟩
 have X2b := hide (X2a.out.later hb4); have X4b := hide (X4a.out.later hb4); have HBb := hide (HBa.out.trans (hb4.mono HBa.out.size))
 clear hb4 X2a X4a HBa HC2 HHS
 have hnm : bytesP x.name.data.toList = x.name := by apply ByteArray.ext; simp [bytesP]
 have hin : bytesP (Lib.itoa x.n) = itoS x.n := rfl
 rw [hnm, hin]
 clear hnm hin
 go_wp2_with fail
 refine (Go.Proofs.Tryz.strconv_Atoi (itoS x.n) x.n (by have h1 := HXO.out.n; have := (ito_len (z := x.n) (by omega) (by omega)).2; show (Lib.itoa x.n).toArray.size ≤ 18; rw [List.size_toArray]; omega) (by show Lib.atoi (Lib.itoa x.n) = some x.n; exact atoi_itoa x.n) W4).mono ?_
 rintro e W5 ⟨rfl, tt, hw5⟩
 have hb5 : Below W4.heap.size W4 W5 := by rw [hw5]; exact Go.Joins.below_bytesWorld _ W4 _ tt (Nat.le_refl _)
 have X2c := hide (X2b.out.later hb5); have X4c := hide (X4b.out.later hb5); have HBc := hide (HBb.out.trans (hb5.mono HBb.out.size))
 clear hb5 hw5 X2b X4b HBb
 obtain ⟨c2, -, -⟩ := X2c.out
 go_wp2_with fail
 clear c2
 refine (apply_any W5 _ qs ⟨1, x.name, x.n, []⟩ none 0 ⟨_, rfl, HU.out.below HBc.out⟩ (catOk_left HX.out) ⟨none, 0, rfl, Nat.le_refl _, fun i => by simp, fun h => absurd h (by simp)⟩ (by simp)).mono ?_
 rintro e W6 hres
 rw [last_create HX.out] at hres
 obtain ⟨o6, n6, k6, q6, rfl, hc6, hm6, hb6⟩ := catRes_ok hres
 have X2d := hide (X2c.out.later hb6); have X4d := hide (X4c.out.later hb6); have HBd := hide (HBc.out.trans (hb6.mono HBc.out.size)); have HUd := hide ((HU.out.below HBc.out).below hb6)
 clear hres hb6 X2c X4c HBc
 have hno : ∀ k, NmOk ⟨x.name, x.n, x.gens.take k⟩ := fun k => ⟨HXO.out.name, HXO.out.n, by have := HXO.out.few; show (x.gens.take k).length ≤ 10; rw [List.length_take]; omega, fun g hg => HXO.out.gens g (List.mem_of_mem_take hg)⟩
 have HOKK : Hid (∀ k, CatOk (qs.map (·.x) ++ [⟨x.name, x.n, x.gens.take k⟩])) := fun k => catOk_last HX.out rfl (hno k)
 have hm6' : q6.map (·.x) = qs.map (·.x) ++ [⟨x.name, x.n, x.gens.take 0⟩] := hm6
 have hok6 : CatOk (q6.map (·.x)) := by rw [hm6']; exact HOKK.out 0
 have X2e := hide (X2d.out.writeP (.slice o6 n6 k6)); have X4e := hide (X4d.out.other (p := ⟨w.heap.size, 0, none⟩) (by show w.heap.size ≠ w.heap.size + 1; omega) (.slice o6 n6 k6))
 have HBe := hide (HBd.out.setCell (p := ⟨w.heap.size, 0, none⟩) (Nat.le_refl _) (.slice o6 n6 k6))
 have HCe := hide (hc6.setVarP (nonE_of_ok hok6.all) X2d.out.1 HUd.out (.slice o6 n6 k6))
 have HQe := hide hm6'
 obtain ⟨c2, c3, -⟩ := X2d.out
 have hem : (!x.gens.isEmpty) = decide (0 < x.gens.length) := by cases x.gens <;> simp
 rw [hem]
 obtain ⟨m0, hm0⟩ : ∃ m0, decide (0 < x.gens.length) = m0 := ⟨_, rfl⟩
 rw [hm0]
 obtain ⟨T0, hT0⟩ : ∃ T0, bytesP (tailT x.gens) = T0 := ⟨_, rfl⟩
 rw [hT0]
 have HM0 := hide hm0.symm; have HT0 : Hid (T0 = bytesP (tailT (x.gens.drop 0))) := by show _ = _; rw [List.drop_zero, hT0]
 have HS0 : Hid (T0.size ≤ 1000000) := by
  have h1 := HLL.out; have h2 := tail_le x.gens
  unfold lineT at h1
  rw [List.length_append, List.length_append] at h1
  show _ ≤ _
  rw [← hT0]
  show (tailT x.gens).toArray.size ≤ _
  rw [List.size_toArray]
  omega
 clear hno hm6 hm6' hok6 hc6 hem hm0 hT0 X2d X4d HBd HUd HU HLL
 go_wp2_with fail
 clear c2 c3
 generalize W6.setCell ⟨w.heap.size, 0, none⟩ (.slice o6 n6 k6) = W7 at *
 go_loopw [7, 8, 13] (fun tl mr er wr => ∃ (k : Nat) (TK : ByteArray) (mb : Bool) (co : Option Addr) (cl ck : Nat) (qs' : List Nc), k ≤ x.gens.length ∧ tl = .string TK ∧ mr = .bool mb ∧ er = .nilIface ∧ Hid (TK = bytesP (tailT (x.gens.drop k))) ∧ Hid (TK.size ≤ 1000000) ∧ Hid (mb = decide (k < x.gens.length)) ∧ Hid (One wr w.heap.size (.slice co cl ck)) ∧ Hid (CatN wr (.slice co cl ck) qs') ∧ Hid (qs'.map (·.x) = qs.map (·.x) ++ [⟨x.name, x.n, x.gens.take k⟩]) ∧ Hid (One wr (w.heap.size + 1) (.slice none 0 0)) ∧ Hid (Below w.heap.size w wr)) (fun tl _ _ _ => strSz tl)
 case atStart => exact ⟨0, T0, m0, o6, n6, k6, q6, Nat.zero_le _, rfl, rfl, rfl, HT0, HS0, HM0, X2e, HCe, HQe, X4e, HBe⟩
 case round =>
  clear HT0 HS0 HM0 X2e HCe HQe X4e HBe
  obtain ⟨k, TK, mb, co, cl, ck, q', hk, rfl, rfl, rfl, HTK, HTS, HMB, X2, HC, HQ, X4, HB⟩ := hrel
  cases mb with
  | true =>
   have hkl : k < x.gens.length := of_decide_eq_true HMB.out.symm
   have hdr : x.gens.drop k = x.gens[k] :: x.gens.drop (k + 1) := List.drop_eq_getElem_cons hkl
   have hgk := HXO.out.gens x.gens[k] (List.getElem_mem hkl)
   have hnn := HXO.out.n
   have hg := genF_ok.1 hgk
   have HG : Hid (0 < x.gens[k].length ∧ x.gens[k].length ≤ 4 ∧ ∀ z ∈ x.gens[k], -999 ≤ z ∧ z ≤ 999) := ⟨by omega, by omega, hg.2⟩
   have HTAK : Hid (x.gens.take (k + 1) = x.gens.take k ++ [x.gens[k]]) := by show _ = _; rw [List.take_succ_eq_append_getElem hkl]
   have hcut : Lib.cut TK.data.toList (⟨#[59, 32]⟩ : ByteArray).data.toList = (numT x.gens[k], tailT (x.gens.drop (k + 1)), !(x.gens.drop (k + 1)).isEmpty) := by
    rw [HTK.out, hdr]
    exact tail_cut _ _
   have HLS : Hid ((bytesP (tailT (x.gens.drop (k + 1)))).size < TK.size) := by
    have := tail_less (t := x.gens.drop (k + 1)) HG.out.1
    show _ < _
    rw [HTK.out, hdr]
    show (tailT _).toArray.size < (tailT _).toArray.size
    rw [List.size_toArray, List.size_toArray]
    exact this
   have hem : (!(x.gens.drop (k + 1)).isEmpty) = decide (k + 1 < x.gens.length) := by
    cases hd : x.gens.drop (k + 1) with
    | nil =>
     have := congrArg List.length hd
     rw [List.length_drop, List.length_nil] at this
     rw [decide_eq_false (by omega)]
     rfl
    | cons a b =>
     have := congrArg List.length hd
     rw [List.length_drop, List.length_cons] at this
     rw [decide_eq_true (by omega)]
     rfl
   rw [hem] at hcut
   have HCUT := hide hcut
   clear hdr hgk hnn hg hcut hem
   generalize x.gens[k] = g at *
   go_wp2_with fail
   refine (cutP_any wr (HM.out.below HB.out) TK ⟨#[59, 32]⟩ HTS.out _ _ _ HCUT.out).mono ?_
   rintro e w3 ⟨rfl, hb3⟩
   obtain ⟨T1, hT1⟩ : ∃ T1, bytesP (tailT (x.gens.drop (k + 1))) = T1 := ⟨_, rfl⟩
   obtain ⟨m1, hm1⟩ : ∃ m1, decide (k + 1 < x.gens.length) = m1 := ⟨_, rfl⟩
   obtain ⟨G1, hG1⟩ : ∃ G1, bytesP (numT g) = G1 := ⟨_, rfl⟩
   rw [hT1, hm1, hG1]
   rw [hT1] at HLS
   have HT1 := hide hT1.symm; have HM1 := hide hm1.symm; have HG1 := hide hG1.symm
   have X2a := hide (X2.out.later hb3); have X4a := hide (X4.out.later hb3); have HBa := hide (HB.out.trans (hb3.mono HB.out.size)); have HCa := hide (HC.out.below hb3)
   clear hT1 hm1 hG1 hb3 X2 X4 HB HC HCUT HTK HMB
   obtain ⟨c2, -, -⟩ := X2a.out
   go_wp2_with fail
   clear c2
   refine (withGen_ok w3 _ q' x.name G1 g ⟨_, rfl, HCa.out⟩ (by rw [HQ.out]; exact HOKK.out k) (HM.out.below HBa.out) HG1.out HG.out.1 HG.out.2.1 HG.out.2.2).mono ?_
   rintro e w4 hres
   rw [HQ.out, last_put (by rw [← HTAK.out]; exact HOKK.out (k + 1)), ← HTAK.out] at hres
   obtain ⟨o4, n4, k4, q4, rfl, hc4, hm4, hb4⟩ := catRes_ok hres
   have X2b := hide (X2a.out.later hb4)
   have X2c := hide (X2b.out.writeP (.slice o4 n4 k4)); have X4c := hide ((X4a.out.later hb4).other (p := ⟨w.heap.size, 0, none⟩) (by show w.heap.size ≠ w.heap.size + 1; omega) (.slice o4 n4 k4))
   have HBc := hide ((HBa.out.trans (hb4.mono HBa.out.size)).setCell (p := ⟨w.heap.size, 0, none⟩) (Nat.le_refl _) (.slice o4 n4 k4))
   have HCc := hide (hc4.setVarP (nonE_of_ok (by rw [hm4]; exact (HOKK.out (k + 1)).all)) X2b.out.1 (HCa.out.below hb4) (.slice o4 n4 k4))
   have HQc := hide hm4
   have HTS1 : Hid (T1.size ≤ 1000000) := Nat.le_trans (Nat.le_of_lt HLS.out) HTS.out
   obtain ⟨c2, c3, -⟩ := X2b.out
   clear hres hc4 hm4 hb4 X2a X4a HBa HCa HQ X2b
   go_wp2
   go_roundw
   case rel => exact ⟨k + 1, T1, m1, o4, n4, k4, q4, by omega, rfl, rfl, rfl, HT1, HTS1, HM1, X2c, HCc, HQc, X4c, HBc⟩
   case measure => exact HLS.out
  | false =>
   have hkl : ¬ k < x.gens.length := of_decide_eq_false HMB.out.symm
   have hq := HQ.out
   rw [List.take_of_length_le (by omega)] at hq
   have HFIN : Hid (CatRes w (0, qs.map (·.x) ++ [x]) (.returned (.tuple #[.agg #[.slice co cl ck], .nilIface])) (wr.setCell ⟨w.heap.size + 1, 0, none⟩ (.slice co cl ck))) :=
    ⟨.inr ⟨rfl, _, q', rfl, hq, _, rfl, HC.out.setOne (nonE_of_ok (by rw [HQ.out]; exact (HOKK.out k).all)) X4.out.1 _⟩, HB.out.setCell (p := ⟨w.heap.size + 1, 0, none⟩) (by show w.heap.size ≤ w.heap.size + 1; omega) _⟩
   obtain ⟨c2, -, -⟩ := X2.out
   obtain ⟨r0, r1, -⟩ := X4.out
   clear hq hkl
   go_wp2
   exact bodyPost_ret (v := .tuple #[.agg #[.slice co cl ck], .nilIface]) (by simp [results, Tryz.results88, go_sem, r0]) rfl HFIN.out

end Go.Proofs.YtnhbfehfipafoaaGreatDoor

/- pack.Parse: a catalog of its text. -/
namespace Go.Proofs.YtnhbfehfipafoaaGreatDoor
open Go.RowKit

theorem catOk_take {cs : List Nmd} (h : CatOk cs) (k : Nat) : CatOk (cs.take k) :=
 ⟨h.rise.sublist (List.take_sublist _ _), by have := h.few; rw [List.length_take]; omega, fun x hx => h.all x (List.mem_of_mem_take hx)⟩

theorem line_not {x : Nmd} (h : NmOk x) : (10 : UInt8) ∉ headT x ++ x.gens.flatMap genT := by
 rw [List.mem_append]
 rintro (h1 | h1)
 ·exact head_not h 10 (.inr rfl) h1
 ·obtain ⟨g, -, hg⟩ := List.mem_flatMap.1 h1
  unfold genT at hg
  rcases List.mem_append.1 hg with h2 | h2
  ·exact absurd h2 (by decide)
  ·exact numT_not 10 (.inr rfl) g h2

theorem text_cut {x : Nmd} (t : List Nmd) (h : NmOk x) : Lib.cut (textC (x :: t)) [10] = (headT x ++ x.gens.flatMap genT, textC t, true) := by
 have e : textC (x :: t) = (headT x ++ x.gens.flatMap genT) ++ 10 :: textC t := by
  unfold textC
  rw [List.flatMap_cons]
  unfold lineT
  simp
 rw [e]
 exact cut_hit 10 _ _ (line_not h)

theorem text_len {cs : List Nmd} (h : ∀ x ∈ cs, NmOk x) : (textC cs).length ≤ 234 * cs.length := by
 induction cs with
 | nil => simp [textC]
 | cons x t ih =>
  have h1 := lineT_len (h x (by simp))
  have h2 := ih (fun y hy => h y (List.mem_cons_of_mem _ hy))
  unfold textC at h2 ⊢
  rw [List.flatMap_cons, List.length_append, List.length_cons]
  omega

theorem bytesP_size (l : List UInt8) : (bytesP l).size = l.length := by
 show l.toArray.size = _
 rw [List.size_toArray]

theorem bytesP_ne {l : List UInt8} (h : l ≠ []) : bytesP l ≠ ⟨#[]⟩ := fun e => by
 have := congrArg ByteArray.size e
 rw [bytesP_size] at this
 exact h (List.eq_nil_of_length_eq_zero this)

theorem textC_ne {x : Nmd} (t : List Nmd) : textC (x :: t) ≠ [] := fun e => by
 have := congrArg List.length e
 unfold textC lineT at this
 simp at this

set_option linter.unusedSimpArgs false in
set_option maxRecDepth 100000 in
set_option maxHeartbeats 1600000 in
theorem parse_ok (w : World) (s : ByteArray) (cs : List Nmd) (hok : CatOk cs) (ht : TabP w) (hm : MaxL w) (hs : s = bytesP (textC cs)) :
  Calls Tryz.prog 63 #[.string s] w fun e w' => CatRes w (0, cs) e w' := by
 have hsz : s.size ≤ 1000000 := by
  have h1 := text_len hok.all; have h2 := hok.few
  rw [hs, bytesP_size]
  omega
 have HOK := hide hok; have HT := hide ht; have HM := hide hm; have HS := hide hs; have HSZ := hide hsz
 have hb1 := alloc_below w (.cells #[.slice none 0 0] 53)
 have hb2 := alloc_below (w.alloc (.cells #[.slice none 0 0] 53)) (.cells #[.slice none 0 0] 53)
 have X2 := hide ((One.new w (.slice none 0 0) 53).later hb2)
 have hx4 := One.new (w.alloc (.cells #[.slice none 0 0] 53)) (.slice none 0 0) 53
 have hs1 : (w.alloc (.cells #[.slice none 0 0] 53)).heap.size = w.heap.size + 1 := by simp
 rw [hs1] at hx4
 have X4 := hide hx4
 have HB := hide (hb1.trans (hb2.mono hb1.size))
 clear hb1 hb2 hx4 hs1 hok ht hm hs hsz
 go_enter Tryz.func63, Tryz.ntmps63
 go_wp2_with fail
 generalize (w.alloc (.cells #[.slice none 0 0] 53)).alloc (.cells #[.slice none 0 0] 53) = W2 at *
 have HC0 := hide (catN_nil W2)
 go_loopw [5] (fun tl wr => ∃ (k : Nat) (TK : ByteArray) (co : Option Addr) (cl ck : Nat) (qs' : List Nc), k ≤ cs.length ∧ tl = .string TK ∧ Hid (TK = bytesP (textC (cs.drop k))) ∧ Hid (TK.size ≤ 1000000) ∧ Hid (One wr (w.heap.size + 1) (.slice co cl ck)) ∧ Hid (CatN wr (.slice co cl ck) qs') ∧ Hid (qs'.map (·.x) = cs.take k) ∧ Hid (One wr w.heap.size (.slice none 0 0)) ∧ Hid (Below w.heap.size w wr)) (fun tl _ => strSz tl)
 case atStart => exact ⟨0, s, none, 0, 0, [], Nat.zero_le _, rfl, hide (by rw [List.drop_zero]; exact HS.out), HSZ, X4, HC0, hide rfl, X2, HB⟩
 case round =>
  clear HC0 X2 X4 HB
  obtain ⟨k, TK, co, cl, ck, q', hk, rfl, HTK, HTS, X4, HC, HQ, X2, HB⟩ := hrel
  by_cases hkl : k < cs.length
  ·have hdr : cs.drop k = cs[k] :: cs.drop (k + 1) := List.drop_eq_getElem_cons hkl
   have HNO : Hid (NmOk cs[k]) := HOK.out.all _ (List.getElem_mem hkl)
   have hcut : Lib.cut TK.data.toList (⟨#[10]⟩ : ByteArray).data.toList = (headT cs[k] ++ cs[k].gens.flatMap genT, textC (cs.drop (k + 1)), true) := by
    rw [HTK.out, hdr]
    exact text_cut _ HNO.out
   have HCUT := hide hcut
   have hne : TK ≠ ⟨#[]⟩ := by rw [HTK.out, hdr]; exact bytesP_ne (textC_ne _)
   have g1 : TK.toList.isEmpty = false := by
    rw [Lib.toList_data]
    cases h : TK.data.toList with
    | nil => exact absurd (ByteArray.ext (Array.toList_inj.1 h)) hne
    | cons => rfl
   have HLS : Hid ((bytesP (textC (cs.drop (k + 1)))).size < TK.size) := by
    show _ < _
    rw [HTK.out, hdr, bytesP_size, bytesP_size]
    unfold textC
    rw [List.flatMap_cons, List.length_append]
    unfold lineT
    simp
    omega
   have HXT : Hid (cs.take (k + 1) = cs.take k ++ [cs[k]]) := by show _ = _; rw [List.take_succ_eq_append_getElem hkl]
   clear hdr hcut hne
   generalize cs[k] = x at *
   go_wp2_with fail
   clear g1
   refine (cutP_any wr (HM.out.below HB.out) TK ⟨#[10]⟩ HTS.out _ _ _ HCUT.out).mono ?_
   rintro e w3 ⟨rfl, hb3⟩
   obtain ⟨T1, hT1⟩ : ∃ T1, bytesP (textC (cs.drop (k + 1))) = T1 := ⟨_, rfl⟩
   obtain ⟨L1, hL1⟩ : ∃ L1, bytesP (headT x ++ x.gens.flatMap genT) = L1 := ⟨_, rfl⟩
   rw [hT1, hL1]
   rw [hT1] at HLS
   have HT1 := hide hT1.symm; have HL1 := hide hL1.symm
   have X2a := hide (X2.out.later hb3); have X4a := hide (X4.out.later hb3); have HBa := hide (HB.out.trans (hb3.mono HB.out.size)); have HCa := hide (HC.out.below hb3)
   clear hT1 hL1 hb3 X2 X4 HB HC HCUT HTK
   obtain ⟨c4, -, -⟩ := X4a.out
   go_wp2_with fail
   clear c4
   refine (withLine_ok w3 _ q' x L1 ⟨_, rfl, HCa.out⟩ (by rw [HQ.out, ← HXT.out]; exact catOk_take HOK.out _) (HM.out.below HBa.out) HL1.out).mono ?_
   rintro e w4 hres
   rw [HQ.out, ← HXT.out] at hres
   obtain ⟨o4, n4, k4, q4, rfl, hc4, hm4, hb4⟩ := catRes_ok hres
   have hbA := alloc_below w4 (.cells #[.slice o4 n4 k4] 53)
   have X9 := hide (One.new w4 (.slice o4 n4 k4) 53)
   have X2b := hide ((X2a.out.later hb4).later hbA); have X4b := hide ((X4a.out.later hb4).later hbA)
   have HBb := hide ((HBa.out.trans (hb4.mono HBa.out.size)).trans (hbA.mono (HBa.out.trans (hb4.mono HBa.out.size)).size))
   have HCb := hide (hc4.below hbA); have HQb := hide hm4; have HCx := hide ((HCa.out.below hb4).below hbA)
   have HNE := hide (nonE_of_ok (by rw [hm4]; exact (catOk_take HOK.out (k + 1)).all))
   have HTS1 : Hid (T1.size ≤ 1000000) := Nat.le_trans (Nat.le_of_lt HLS.out) HTS.out
   clear hres hc4 hm4 hb4 hbA X2a X4a HBa HCa HQ
   obtain ⟨c9, c9', -⟩ := X9.out
   obtain ⟨c4, c4', -⟩ := X4b.out
   have X4d := hide (X4b.out.writeP (.slice o4 n4 k4))
   have X2d := hide (X2b.out.other (p := ⟨w.heap.size + 1, 0, none⟩) (by show w.heap.size + 1 ≠ w.heap.size; omega) (.slice o4 n4 k4))
   have HBd := hide (HBb.out.setCell (p := ⟨w.heap.size + 1, 0, none⟩) (by show w.heap.size ≤ w.heap.size + 1; omega) (.slice o4 n4 k4))
   have HCd := hide (HCb.out.setVarP HNE.out X4b.out.1 HCx.out (.slice o4 n4 k4))
   clear X9 X2b X4b HBb HCb HCx
   go_wp2
   go_roundw
   case rel => exact ⟨k + 1, T1, o4, n4, k4, q4, by omega, rfl, HT1, HTS1, X4d, HCd, HQb, X2d, HBd⟩
   case measure => exact HLS.out
  ·obtain rfl : k = cs.length := by omega
   have hq := HQ.out
   rw [List.take_length] at hq
   have hT : TK = ⟨#[]⟩ := by rw [HTK.out, List.drop_length]; rfl
   have g1 : TK.toList.isEmpty = true := by rw [hT, Lib.toList_data]; rfl
   clear hT
   have HQ2 := hide hq
   clear hq HTK HTS HQ
   obtain ⟨c4, -, -⟩ := X4.out
   go_wp2_with fail
   clear c4 g1
   refine (textP_any wr _ q' ⟨_, rfl, HC.out⟩ (by rw [HQ2.out]; exact HOK.out) (HT.out.below HB.out)).mono ?_
   rintro e w5 ⟨rfl, hb5⟩
   rw [HQ2.out]
   have hst : (⟨(textC cs).toArray⟩ : ByteArray) = s := HS.out.symm
   rw [hst]
   have X2a := hide (X2.out.later hb5); have X4a := hide (X4.out.later hb5); have HBa := hide (HB.out.trans (hb5.mono HB.out.size)); have HCa := hide (HC.out.below hb5)
   have HFIN : Hid (CatRes w (0, cs) (.returned (.tuple #[.agg #[.slice co cl ck], .nilIface])) (w5.setCell ⟨w.heap.size, 0, none⟩ (.slice co cl ck))) :=
    ⟨.inr ⟨rfl, _, q', rfl, HQ2.out, _, rfl, HCa.out.setOne (nonE_of_ok (by rw [HQ2.out]; exact HOK.out.all)) X2a.out.1 _⟩, HBa.out.setCell (p := ⟨w.heap.size, 0, none⟩) (Nat.le_refl _) _⟩
   clear hb5 hst X2 X4 HB HC HQ2
   obtain ⟨c4, -, -⟩ := X4a.out
   obtain ⟨r0, r1, -⟩ := X2a.out
   go_wp2
   exact bodyPost_ret (v := .tuple #[.agg #[.slice co cl ck], .nilIface]) (by simp [results, Tryz.results63, go_sem, r0]) rfl HFIN.out

end Go.Proofs.YtnhbfehfipafoaaGreatDoor
