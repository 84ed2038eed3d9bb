/- TopText, walked. -/
import Derived.Test.YtklhmnejmbgmjacDoorTopTextN
namespace Go.Proofs.YtklhmnejmbgmjacDoor
open Go.RowKit Limbs

/-- Two structs came in, and one more. -/
structure TB (w W : World) (C : Nat) (a0 a1 b0 b1 c0 c1 : Value) : Prop where
  two : Two w W a0 a1 b0 b1
  c : Box W C c0 c1
  lt : C < W.heap.size

theorem TB.later {w W W' : World} {C : Nat} {a0 a1 b0 b1 c0 c1 : Value} (h : TB w W C a0 a1 b0 b1 c0 c1) (hb : Below W.heap.size W W') : TB w W' C a0 a1 b0 b1 c0 c1 :=
  ⟨h.two.later hb, h.c.later hb h.lt, Nat.lt_of_lt_of_le h.lt hb.size⟩

theorem TB.drew {w W : World} {C : Nat} {a0 a1 b0 b1 c0 c1 : Value} (h : TB w W C a0 a1 b0 b1 c0 c1) : TB w W.drew C a0 a1 b0 b1 c0 c1 := ⟨h.two.drew, h.c, h.lt⟩

theorem TB.new {w W : World} {a0 a1 b0 b1 : Value} (h : Two w W a0 a1 b0 b1) (c0 c1 : Value) (t : TypeId) : TB w (W.alloc (.cells #[c0, c1] t)) W.heap.size a0 a1 b0 b1 c0 c1 :=
  ⟨h.later ((Below.refl _ _).alloc (Nat.le_refl _) _), box_new W _ _ _ _ rfl, by simp⟩

set_option maxRecDepth 100000 in
set_option maxHeartbeats 4000000 in
theorem topText_fit (w : World) (an bn : Bool) (ao bo : Option Addr) (acap bcap : Nat) (za zb : List Int) (v : Value) (rs : List Raw) (ht : Tab w) (hm : MaxLenSet w)
    (ha : Lim w (.slice ao za.length acap) za) (hb : Lim w (.slice bo zb.length bcap) zb) (hv : VecC w v rs)
    (la : za.length ≤ 12) (lb : zb.length ≤ 12) (ga : isNum an za = true) (gb : isNum bn zb = true) (hl : lightV rs = true) :
    Calls Tryd.prog 3 #[.agg #[.bool an, .slice ao za.length acap], .agg #[.bool bn, .slice bo zb.length bcap], v] w fun e w' => e = .returned (.bool true) ∧ Below w.heap.size w w' := by
  have HA := hide ha; have HB := hide hb; have HV := hide hv; have HTB := hide ht; have HM := hide hm
  have NA := hide (NumL.of_isNum ga ha la); have NB := hide (NumL.of_isNum gb hb lb)
  have HLV := hide hl
  clear ha hb hv ht hm hl
  have HG : Hid ([⟨an, .slice ao za.length acap, za⟩, ⟨bn, .slice bo zb.length bcap, zb⟩].all Raw.good = true) := by
    show _ = _; simp [Raw.good, ga, gb, la, lb]
  have HL8 : Hid (∀ r ∈ rs, r.zs.length ≤ 8) := by
    have := HLV.out
    unfold lightV at this
    rw [Bool.and_eq_true] at this
    exact fun r hr => of_decide_eq_true (List.all_eq_true.1 this.2 r hr)
  have HVL := hide (HV.out.light fun r hr => Nat.le_trans (HL8.out r hr) (by decide))
  clear ga gb
  go_enter Tryd.func3, Tryd.ntmps3
  go_wp2_with fail
  have hT := two w (.bool an) (.slice ao za.length acap) (.bool bn) (.slice bo zb.length bcap) 24 24
  generalize (w.alloc (.cells #[.bool an, .slice ao za.length acap] 24)).alloc (.cells #[.bool bn, .slice bo zb.length bcap] 24) = W at *
  refine (of_any W (-70) (by decide) (by decide)).mono ?_
  rintro e w1 ⟨r1, rfl, hr1, hb1⟩
  replace hT := hT.later hb1
  have HR1 := hide hr1; clear hr1 hb1
  go_wp2_with fail
  refine (text_small w1 _ (-70) 2 HR1.out (by decide) (by decide) (by decide)).mono ?_
  rintro e w2 ⟨rfl, hb2⟩
  rw [show txt (-70) = [45, 55, 48] by decide +kernel]
  replace hT := hT.later hb2
  clear HR1 hb2
  obtain ⟨p0, p1, -, -⟩ := hT.fst
  obtain ⟨q0, q1, -, -⟩ := hT.res
  have hT2 := hide hT; clear hT
  have d1 : decide (60 < (za.length : Int)) = false := by simp; omega
  have d2 : decide (60 < (zb.length : Int)) = false := by simp; omega
  go_wp2_with fail
  refine (fit_any _ w2.heap.size [⟨an, .slice ao za.length acap, za⟩, ⟨bn, .slice bo zb.length bcap, zb⟩] (raws2 _ _ _ _ _ _ _ _ (HA.out.below hT2.out.below (Nat.le_refl _)) (HB.out.below hT2.out.below (Nat.le_refl _))) (by simp)).mono ?_
  rintro e w3 ⟨rfl, hb3⟩
  rw [HG.out]
  have hT3 := hide (hT2.out.later ((((Below.refl _ _).alloc (Nat.le_refl _) _).trans (hb3.mono (by simp)))))
  clear hT2 p0 p1 q0 q1 hb3 HA HB HG
  go_wp2_with fail
  refine (lightV_any w3 v rs (HV.out.below hT3.out.below) true HLV.out.symm).mono ?_
  rintro e w4 ⟨rfl, rfl⟩
  clear HV HLV d1 d2 la lb
  obtain ⟨p0, p1, -, -⟩ := hT3.out.fst
  obtain ⟨q0, q1, -, -⟩ := hT3.out.res
  generalize sg an (lv za) = x at *
  generalize sg bn (lv zb) = y at *
  go_wp2_with fail
  refine (text_all w4 _ x 12 (HTB.out.below hT3.out.below) (NA.out.below hT3.out.below (Nat.le_refl _)) (by decide)).mono ?_
  rintro e w5 ⟨rfl, hb5⟩
  have hT5 := hide (hT3.out.later hb5)
  have HTL : Hid ((txt x).length ≤ 400) := Nat.le_trans (NumL.txt_len (n := 11) NA.out) (by decide)
  clear hT3 p0 p1 q0 q1 hb5
  go_wp2_with fail
  refine (parse_txt w5 x HTL.out).mono ?_
  rintro e w6 ⟨n, hn, vx, rfl, hvx, hb6⟩
  obtain ⟨r, rfl⟩ := hvx.nm
  have hT6 := hT5.out.later hb6
  have HC := hide (TB.new hT6 (.bool r.neg) (.slice r.o r.l r.c) 24)
  have HX := hide ((hvx.mono hn).below ((Below.refl _ _).alloc (Nat.le_refl _) (.cells #[.bool r.neg, .slice r.o r.l r.c] 24)) (Nat.le_refl _))
  clear hT5 hT6 hb6 hvx HTL
  go_wp2_with fail
  generalize w6.alloc (.cells #[.bool r.neg, .slice r.o r.l r.c] 24) = W7 at *
  generalize w6.heap.size = C at *
  have E1 := hide (show (cmpI x x == 0) = true by rw [cmpI_eq rfl]; rfl)
  have E3 : Hid ((cmpI x y == 0) = decide (x = y)) := by
    show _ = _
    by_cases h : x = y
    · rw [cmpI_eq h, decide_eq_true h]; rfl
    · rw [decide_eq_false h, beq_eq_false_iff_ne]
      unfold cmpI
      repeat' split
      all_goals omega
  have tok1 : True := trivial
  have tok2 : True := trivial
  have tok3 : True := trivial
  obtain ⟨p0, p1, -, -⟩ := HC.out.two.fst
  obtain ⟨q0, q1, -, -⟩ := HC.out.two.res
  obtain ⟨s0, s1, -, -⟩ := HC.out.c
  go_region_held3 (fun w' => w'.cell? ⟨w.heap.size, 0, none⟩ = some (.bool an) ∧ w'.cell? ⟨w.heap.size, 1, none⟩ = some (.slice ao za.length acap) ∧ w'.cell? ⟨w.heap.size + 1, 0, none⟩ = some (.bool bn) ∧ w'.cell? ⟨w.heap.size + 1, 1, none⟩ = some (.slice bo zb.length bcap) ∧ w'.cell? ⟨C, 0, none⟩ = some (.bool r.neg) ∧ w'.cell? ⟨C, 1, none⟩ = some (.slice r.o r.l r.c)) (go_keep)
    (first
      | (go_at_call 12; have _t := tok1; refine (is_any _ _ _ x x 400 12 (by exact HX.out) (NA.out.below HC.out.drew.two.below (Nat.le_refl _))).mono ?_; rintro e w8 ⟨rfl, hb8⟩; rw [E1.out]; have HC8 := hide (HC.out.drew.later hb8); clear hb8 tok1 HX; obtain ⟨p0, p1, -, -⟩ := HC8.out.two.fst; obtain ⟨q0, q1, -, -⟩ := HC8.out.two.res; obtain ⟨s0, s1, -, -⟩ := HC8.out.c)
      | (go_at_call 7; have _t := tok2; refine (text_all _ _ y 12 (HTB.out.below HC8.out.two.below) (NB.out.below HC8.out.two.below (Nat.le_refl _)) (by decide)).mono ?_; rintro e w9 ⟨rfl, hb9⟩; have HC9 := hide (HC8.out.later hb9); clear hb9 tok2 HC8; obtain ⟨p0, p1, -, -⟩ := HC9.out.two.fst; obtain ⟨q0, q1, -, -⟩ := HC9.out.two.res; obtain ⟨s0, s1, -, -⟩ := HC9.out.c)
      | (go_at_call 12; have _t := tok3; refine (is_any _ _ _ x y 12 12 (NA.out.below HC9.out.two.below (Nat.le_refl _)) (NB.out.below HC9.out.two.below (Nat.le_refl _))).mono ?_; rintro e w10 ⟨rfl, hb10⟩; rw [E3.out]; have HC10 := hide (HC9.out.later hb10); clear hb10 tok3 HC9; obtain ⟨p0, p1, -, -⟩ := HC10.out.two.fst; obtain ⟨q0, q1, -, -⟩ := HC10.out.two.res; obtain ⟨s0, s1, -, -⟩ := HC10.out.c))
  have E4 : (txt x == txt y) = decide (x = y) := by
    by_cases h : x = y
    · subst h; simp
    · rw [decide_eq_false h, beq_eq_false_iff_ne]; exact fun e => h (txt_inj e)
  rw [E4, beq_self_eq_true, Bool.not_true]
  clear E1 E3 E4 p0 p1 q0 q1 s0 s1 HC NA NB
  go_wp2_with fail
  refine (checkV_any w10 v rs (HVL.out.below HC10.out.two.below (Nat.le_refl _))).mono ?_
  rintro e w11 ⟨rfl, hb11⟩
  have HB11 := hide (show Below w.heap.size w w11 from HC10.out.two.below.trans (hb11.mono HC10.out.two.below.size))
  clear hb11 HC10
  by_cases hbad : rs.length < 1 ∨ 8 < rs.length
  · have e : checkedV rs = .iface 79 (.int .i64 6) := if_pos hbad
    rw [e]
    clear hbad e
    go_wp2
    go_ret
    exact ⟨rfl, HB11.out⟩
  have e : checkedV rs = checked (rs.all Raw.num) := if_neg hbad
  rw [e]
  cases hnum : rs.all Raw.num
  · have e : checked false = .iface 79 (.int .i64 3) := rfl
    rw [e]
    clear hbad e
    go_wp2
    go_ret
    exact ⟨rfl, HB11.out⟩
  have e : checked true = .nilIface := rfl
  rw [e]
  have HN := hide (HVL.out.nums hnum HL8.out)
  have h1 : 0 < (rs.map Raw.z).length := by rw [List.length_map]; omega
  have h8 : (rs.map Raw.z).length ≤ 8 := by rw [List.length_map]; omega
  clear e hbad hnum HL8 HVL
  generalize rs.map Raw.z = zs at *
  have HTX := hide HN.out.txts
  have HJN := hide (HN.out.join h8)
  go_wp2_with fail
  refine (vtext_any w11 v zs 8 (HTB.out.below HB11.out) (HN.out.below HB11.out (Nat.le_refl _)) (by decide) h1 h8 HJN.out).mono ?_
  rintro e w12 ⟨rfl, hb12⟩
  have HB12 := hide (HB11.out.trans (hb12.mono HB11.out.size))
  clear hb12 HB11 HTB
  go_wp2_with fail
  refine (parseV_any w12 zs (HM.out.below HB12.out) h1 h8 HTX.out HJN.out).mono ?_
  rintro e w13 ⟨v', rfl, hv', hb13⟩
  have HB13 := hide (HB12.out.trans (hb13.mono HB12.out.size))
  have HV' := hide hv'
  clear hb13 HB12 hv' HM HTX HJN
  go_wp2_with fail
  refine (alike_any w13 v' v zs zs 400 8 HV'.out (HN.out.below HB13.out (Nat.le_refl _)) (by omega) true (by simp)).mono ?_
  rintro e w14 ⟨rfl, hb14⟩
  have HB14 := hide (HB13.out.trans (hb14.mono HB13.out.size))
  clear hb14 HB13 HV' HN
  go_wp2
  go_ret
  exact ⟨rfl, HB14.out⟩

end Go.Proofs.YtklhmnejmbgmjacDoor
