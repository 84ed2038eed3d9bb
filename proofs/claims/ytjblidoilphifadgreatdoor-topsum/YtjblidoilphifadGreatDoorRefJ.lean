/- The reference: two numbers are compared; one less another; what is wrong with a number. -/
import Derived.Test.YtjblidoilphifadGreatDoorRefH

namespace Go.Proofs.YtjblidoilphifadGreatDoor
open Go.RowKit Limbs Digs

theorem cmp_signs {sa sb A B : Int} (ha : (A = 0 ∧ sa = 0) ∨ (0 < A ∧ (sa = 1 ∨ sa = -1))) (hb : (B = 0 ∧ sb = 0) ∨ (0 < B ∧ (sb = 1 ∨ sb = -1))) (hne : sa ≠ sb) : cmpI (sa * A) (sb * B) = if sa < sb then -1 else 1 := by
  unfold cmpI
  rcases ha with ⟨rfl, rfl⟩ | ⟨h1, rfl | rfl⟩ <;> rcases hb with ⟨rfl, rfl⟩ | ⟨h2, rfl | rfl⟩ <;> (repeat' split) <;> omega

theorem cmp_same {s A B : Int} (ha : (A = 0 ∧ s = 0) ∨ (0 < A ∧ (s = 1 ∨ s = -1))) (hb : (B = 0 ∧ s = 0) ∨ (0 < B ∧ (s = 1 ∨ s = -1))) : s * cmpI A B = cmpI (s * A) (s * B) := by
  unfold cmpI
  rcases ha with ⟨rfl, rfl⟩ | ⟨h1, rfl | rfl⟩ <;> (repeat' split) <;> omega

theorem cmpI_small (a b : Int) : -1 ≤ cmpI a b ∧ cmpI a b ≤ 1 := by unfold cmpI; repeat' split; all_goals omega

theorem sign_of {s : Int} {sl : Value} {ds : List Int} (hd : DB ds) (hn : Nrm ds) (h : (ds.length = 0 ∧ s = 0 ∧ sl = .slice none 0 0) ∨ (0 < ds.length ∧ (s = 1 ∨ s = -1))) : (dv ds = 0 ∧ s = 0) ∨ (0 < dv ds ∧ (s = 1 ∨ s = -1)) := by
  rcases h with ⟨h1, h2, -⟩ | ⟨h1, h2⟩
  · exact .inl ⟨(dv_zero_iff hd hn).2 h1, h2⟩
  · exact .inr ⟨dv_pos hd hn (by omega), h2⟩

set_option maxRecDepth 100000 in
set_option maxHeartbeats 1600000 in
theorem cmp_any (w : World) (va vb : Value) (x y : Int) (n m : Nat) (ha : NumR w va x n) (hb : NumR w vb y m) :
    Calls Tryz.prog 64 #[va, vb] w fun e w' => CmpPost w (cmpI x y) e w' := by
  obtain ⟨sa, la, a, rfl, hla, nra, hx, hsa, hna⟩ := ha
  obtain ⟨sb, lb, b, rfl, hlb, nrb, hy, hsb, hnb⟩ := hb
  have HA := hide hla; have HB := hide hlb
  obtain ⟨ao, acap, rfl, -, -, adb, -⟩ := hla
  obtain ⟨bo, bcap, rfl, -, -, bdb, -⟩ := hlb
  have h1 := sign_of adb nra hsa
  have h2 := sign_of bdb nrb hsb
  clear hsa hsb
  subst hx hy
  have hW : Below w.heap.size w ((w.alloc (.cells #[.int .i64 sa, .slice ao a.length acap] 64)).alloc (.cells #[.int .i64 sb, .slice bo b.length bcap] 64)) := ((Below.refl _ _).alloc (Nat.le_refl _) _).alloc (by simp) _
  have HW := hide hW
  clear hW
  by_cases hss : sa = sb
  · subst hss
    have HE := hide (cmp_same h1 h2)
    have hs1 : sa = 0 ∨ sa = 1 ∨ sa = -1 := by omega
    clear h1 h2
    go_enter Tryz.func64, Tryz.ntmps64
    have b1 : Box ((w.alloc (.cells #[.int .i64 sa, .slice ao a.length acap] 64)).alloc (.cells #[.int .i64 sa, .slice bo b.length bcap] 64)) w.heap.size (.int .i64 sa) (.slice ao a.length acap) := (box_new w _ _ _ _ rfl).later ((Below.refl _ _).alloc (by simp) _ : Below (w.heap.size + 1) _ _) (by omega)
    have b2 : Box ((w.alloc (.cells #[.int .i64 sa, .slice ao a.length acap] 64)).alloc (.cells #[.int .i64 sa, .slice bo b.length bcap] 64)) (w.heap.size + 1) (.int .i64 sa) (.slice bo b.length bcap) := box_new _ _ _ _ _ (by simp)
    have l1 : w.heap.size + 1 < ((w.alloc (.cells #[.int .i64 sa, .slice ao a.length acap] 64)).alloc (.cells #[.int .i64 sa, .slice bo b.length bcap] 64)).heap.size := by simp
    go_wp2_with fail
    generalize (w.alloc (.cells #[.int .i64 sa, .slice ao a.length acap] 64)).alloc (.cells #[.int .i64 sa, .slice bo b.length bcap] 64) = W at *
    have B1 := hide b1; have B2 := hide b2
    obtain ⟨k0, k1, -, -⟩ := b1
    obtain ⟨l0, l2, -, -⟩ := b2
    go_region_held3 (fun w' => w'.cell? ⟨w.heap.size, 0, none⟩ = some (.int .i64 sa) ∧ w'.cell? ⟨w.heap.size, 1, none⟩ = some (.slice ao a.length acap) ∧ w'.cell? ⟨w.heap.size + 1, 0, none⟩ = some (.int .i64 sa) ∧ w'.cell? ⟨w.heap.size + 1, 1, none⟩ = some (.slice bo b.length bcap)) (go_keep)
        (first | (go_at_call 99; refine (cmpDigits_any _ _ _ a b (HA.out.below HW.out.drew (Nat.le_refl _)) (HB.out.below HW.out.drew (Nat.le_refl _)) nra nrb).mono ?_; rintro e w1 ⟨rfl, hb1⟩; have C1 := hide (B1.out.drew.later hb1 (by show _ < W.heap.size; omega)); have C2 := hide (B2.out.drew.later hb1 (by show _ < W.heap.size; omega)); have HW1 := hide (HW.out.drew.trans (hb1.mono HW.out.size)); clear hb1; obtain ⟨p0, p1, -, -⟩ := C1.out; obtain ⟨q0, q1, -, -⟩ := C2.out))
    have hc := cmpI_small (dv a) (dv b)
    have hm : IntKind.i64.wrap (sa * cmpI (dv a) (dv b)) = sa * cmpI (dv a) (dv b) := by rw [IntKind.wrap_i64]; rcases hs1 with h | h | h <;> subst h <;> omega
    have HE' := hide (show CmpPost w (cmpI (sa * dv a) (sa * dv b)) (.returned (.int .i64 (sa * cmpI (dv a) (dv b)))) w1 from ⟨by rw [HE.out], HW1.out⟩)
    clear HE
    generalize cmpI (dv a) (dv b) = z at *
    go_wp2
    go_ret
    show CmpPost _ _ (.returned (.int .i64 (IntKind.i64.wrap (sa * z)))) _
    rw [hm]
    exact HE'.out
  · have hd1 : (sa == sb) = false := by simp [hss]
    have hd2 : (sa != sb) = true := by simp [hss]
    have HE := hide (cmp_signs h1 h2 hss)
    clear h1 h2
    by_cases hlt : sa < sb
    · rw [HE.out, if_pos hlt]
      clear HE
      go_enter Tryz.func64, Tryz.ntmps64
      go_wp2
      go_ret
      exact ⟨rfl, HW.out⟩
    · rw [HE.out, if_neg hlt]
      clear HE
      go_enter Tryz.func64, Tryz.ntmps64
      go_wp2
      go_ret
      exact ⟨rfl, HW.out⟩

set_option maxRecDepth 100000 in
set_option maxHeartbeats 1600000 in
theorem less_any (w : World) (va vb : Value) (x y : Int) (n : Nat) (ha : NumR w va x n) (hb : NumR w vb y n) (hn : n < 1000000000000) :
    Calls Tryz.prog 96 #[va, vb] w fun e w' => RefPost w (x - y) (n + 1) e w' := by
  have HA := hide ha; have HB := hide hb
  obtain ⟨sa, ao, al, ac, rfl, -⟩ := ha.form
  obtain ⟨sb, bo, bl, bc, rfl, -⟩ := hb.form
  clear ha hb
  go_enter Tryz.func96, Tryz.ntmps96
  go_wp2_with fail
  have hT := hide (threeR w (.int .i64 sa) (.slice ao al ac) (.int .i64 sb) (.slice bo bl bc) (.int .i64 0) (.slice none 0 0))
  generalize ((w.alloc (.cells #[.int .i64 sa, .slice ao al ac] 64)).alloc (.cells #[.int .i64 sb, .slice bo bl bc] 64)).alloc (.cells #[.int .i64 0, .slice none 0 0] 64) = W at *
  obtain ⟨k0, k1, -, -⟩ := hT.out.fst.box
  obtain ⟨l0, l1, -, -⟩ := hT.out.snd.box
  have hn2 : ¬ (w.heap.size + 1 + 1 = w.heap.size) := by omega
  have hn3 : ¬ (w.heap.size = w.heap.size + 1 + 1) := by omega
  go_region_held3 (fun w' => w'.cell? ⟨w.heap.size, 0, none⟩ = some (.int .i64 sa) ∧ w'.cell? ⟨w.heap.size, 1, none⟩ = some (.slice ao al ac) ∧ w'.cell? ⟨w.heap.size + 1, 0, none⟩ = some (.int .i64 sb) ∧ w'.cell? ⟨w.heap.size + 1, 1, none⟩ = some (.slice bo bl bc)) (go_keep)
      (first
        | (go_at_call 72; refine (minus_any _ _ y n (HB.out.below hT.out.drew.below (Nat.le_refl _))).mono ?_; rintro e w1 ⟨v1, rfl, hv1, hb1⟩; have hT1 := hide (hT.out.drew.later hb1); obtain ⟨s1, o1, m1, c1, rfl, -⟩ := hv1.form; have HV := hide hv1; clear hv1 hb1; obtain ⟨p0, p1, -, -⟩ := hT1.out.fst.box; obtain ⟨q0, q1, -, -⟩ := hT1.out.snd.box)
        | (go_at_call 95; refine (plus_any _ _ _ x (-y) n (HA.out.below hT1.out.below (Nat.le_refl _)) HV.out hn).mono ?_; rintro e w2 ⟨r, rfl, hr, hb2⟩; have hT2 := hide (hT1.out.later hb2); clear hb2; obtain ⟨p0', p1', -, -⟩ := hT2.out.fst.box; obtain ⟨q0', q1', -, -⟩ := hT2.out.snd.box; obtain ⟨c0, c1, f0, f1⟩ := hT2.out.res.box; rw [← Int.sub_eq_add_neg] at hr; have HR := hide hr; obtain ⟨sr, o, l, c, rfl, -⟩ := hr.form; clear hr))
  have HF := hide (boxedR (w := w) HR.out hT2.out.res hT2.out.below (by omega))
  clear hT1 hT2 HR HV
  go_wp2
  exact bodyPost_ret (v := .agg #[.int .i64 sr, .slice o l c]) (by simp [results, Tryz.results96, go_sem, c0, c1]) rfl HF.out

/-- what is wrong with a number, by the reference -/
def faulty (b : Bool) : Int := if b = true then 0 else 3

end Go.Proofs.YtjblidoilphifadGreatDoor

/- The reference: a number of limbs, in its digits. -/
namespace Go.Proofs.YtjblidoilphifadGreatDoor
open Go.RowKit Limbs Digs

theorem dgetD_set (zs : List Int) (k j : Nat) (z : Int) (h : k < zs.length) : (zs.set k z).getD j 0 = if j = k then z else zs.getD j 0 := by
  rw [List.getD_eq_getElem?_getD, List.getElem?_set]
  by_cases hk : k = j
  · subst hk; simp [h]
  · rw [if_neg hk, if_neg (fun e => hk e.symm), List.getD_eq_getElem?_getD]

/-- Two to the 32nd times the digits: so many are done. -/
def UInv (w wr : World) (base : Nat) (v : Value) (zs : List Int) (c0 : Int) (k : Nat) (cy : Int) (ys : List Int) : Prop :=
  wr.ownsRow base 3 1 v zs.length (ys.map (Value.int .i64)) ∧ ys.length = zs.length ∧ DB ys ∧ ys.drop k = zs.drop k ∧ dv (ys.take k) + dp k * cy = 4294967296 * dv (zs.take k) + c0 ∧ 0 ≤ cy ∧ cy < 4294967296 ∧ Below base w wr

theorem UInv.step {w wr : World} {base g cap : Nat} {zs ys : List Int} {c0 cy T : Int} {k : Nat} (h : UInv w wr base (.slice (some ⟨g, 0, none⟩) zs.length cap) zs c0 k cy ys) (hk : k < zs.length) (hT : T = ys.getD k 0 * 4294967296 + cy) :
    UInv w (wr.setCell ⟨g, k, none⟩ (.int .i64 (T % 10000))) base (.slice (some ⟨g, 0, none⟩) zs.length cap) zs c0 (k + 1) (T / 10000) (ys.set k (T % 10000)) := by
  obtain ⟨h1, h2, h3, h4, h5, h6, h7, h8⟩ := h
  have hz := h3 k
  have hst := h1.stored k (.int .i64 (T % 10000))
  have he : ys.getD k 0 = zs.getD k 0 := by
    have e1 := drop_cons_getD ys k (by omega)
    have e2 := drop_cons_getD zs k hk
    rw [h4] at e1
    rw [e1] at e2
    exact (List.cons.injEq _ _ _ _ ▸ e2).1
  have hlt := h1.lt g rfl
  refine ⟨by rw [List.map_set]; exact hst.1, by simp [h2], DB_set h3 k (by omega), ?_, ?_, by omega, by omega, h8.setCell (by simp; omega) _⟩
  · rw [drop_set_lt ys k (k + 1) _ (Nat.lt_succ_self k)]
    have e1 := congrArg (List.drop 1) h4
    rwa [List.drop_drop, List.drop_drop] at e1
  · rw [dv_take_succ, take_set_ge ys k k _ (Nat.le_refl _), dgetD_set _ _ _ _ (by omega), if_pos rfl, dv_take_succ]
    simp only [dp]
    have e1 : 10000 * dp k * (T / 10000) = dp k * (10000 * (T / 10000)) := by rw [Int.mul_comm 10000, Int.mul_assoc]
    have e2 : dp k * (T % 10000) + dp k * (10000 * (T / 10000)) = dp k * T := by rw [← Int.mul_add]; congr 1; omega
    have e3 : dp k * T = dp k * (4294967296 * ys.getD k 0) + dp k * cy := by rw [hT, Int.mul_add, Int.mul_comm (ys.getD k 0)]
    have e4 : dp k * (4294967296 * ys.getD k 0) = 4294967296 * (dp k * zs.getD k 0) := by rw [he, Int.mul_left_comm]
    rw [e1, Int.mul_add]
    omega

theorem UInv.fin {w wr : World} {base : Nat} {v : Value} {zs ys : List Int} {c0 cy : Int} (h : UInv w wr base v zs c0 zs.length cy ys) : dv ys + dp zs.length * cy = 4294967296 * dv zs + c0 := by
  have := h.2.2.2.2.1
  rw [List.take_length, dv_take_ge ys (by rw [h.2.1]; exact Nat.le_refl _)] at this
  exact this

/-- What is left is put behind: at most three more. -/
def VInv (w wr : World) (base : Nat) (n : Nat) (T : Int) (cy : Int) (d : Value) (ds : List Int) : Prop :=
  wr.ownsRow base 3 1 d ds.length (ds.map (Value.int .i64)) ∧ DB ds ∧ T = dv ds + dp ds.length * cy ∧ 0 ≤ cy ∧ (∃ j : Nat, j ≤ 3 ∧ ds.length + j ≤ n + 3 ∧ cy < dp j) ∧ Below base w wr

theorem UInv.behind {w wr : World} {base : Nat} {v : Value} {zs ys : List Int} {c0 cy : Int} (h : UInv w wr base v zs c0 zs.length cy ys) : VInv w wr base zs.length (4294967296 * dv zs + c0) cy v ys := by
  have hf := h.fin
  obtain ⟨h1, h2, h3, h4, h5, h6, h7, h8⟩ := h
  have e3 : dp 3 = 1000000000000 := by decide
  exact ⟨by rw [h2]; exact h1, h3, by rw [h2]; exact hf.symm, h6, ⟨3, Nat.le_refl _, by omega, by omega⟩, h8⟩

theorem VInv.step {w wr w3 : World} {base n : Nat} {T cy r : Int} {d d' : Value} {ds : List Int} (h : VInv w wr base n T cy d ds) (hb : base ≤ wr.heap.size) (hc : cy ≠ 0) (hr : cy % 10000 = r)
    (hown : w3.ownsRow base 3 1 d' (ds.length + 1) (ds.map (Value.int .i64) ++ [.int .i64 r])) (hg : (wr.alloc (.cells #[.int .i64 r] 3)).grownBy w3 d.ownBlock) : VInv w w3 base n T (cy / 10000) d' (ds ++ [r]) := by
  obtain ⟨h1, h2, h3, h4, ⟨j, hj, hl, hlt⟩, h6⟩ := h
  have hbb := below_app h1 hb hg
  refine ⟨by rw [List.length_append, List.map_append]; exact hown, DB_append h2 (by omega), ?_, by omega, ?_, h6.trans hbb⟩
  · rw [dv_snoc, List.length_append, List.length_singleton, h3]
    simp only [dp]
    have e : 10000 * dp ds.length * (cy / 10000) = dp ds.length * (10000 * (cy / 10000)) := by rw [Int.mul_comm 10000, Int.mul_assoc]
    rw [e, Int.add_assoc, ← Int.mul_add]
    congr 2
    omega
  · match j, hj, hl, hlt with
    | 0, _, _, hlt => simp only [dp] at hlt; omega
    | j + 1, hj, hl, hlt => exact ⟨j, by omega, by simp; omega, by simp only [dp] at hlt; omega⟩

theorem VInv.few {w wr : World} {base n : Nat} {T cy : Int} {d : Value} {ds : List Int} (h : VInv w wr base n T cy d ds) : ds.length ≤ n + 3 := by
  obtain ⟨_, _, _, _, ⟨j, _, hl, _⟩, _⟩ := h
  omega

/-- At the outer loop's head: the digits of the limbs from a place on. -/
def FInv (w wr : World) (vl : Value) (neg : Bool) (ls : List Int) (i : Nat) (d : Value) (ds : List Int) : Prop :=
  wr.ownsRow (w.heap.size + 2) 3 1 d ds.length (ds.map (Value.int .i64)) ∧ DB ds ∧ dv ds = lv (ls.drop i) ∧ ds.length ≤ 3 * (ls.length - i) ∧ Box wr w.heap.size (.bool neg) vl ∧ BoxR wr (w.heap.size + 1) (.int .i64 0) (.slice none 0 0) ∧ Below w.heap.size w wr

theorem FInv.size {w wr : World} {vl d : Value} {neg : Bool} {ls ds : List Int} {i : Nat} (h : FInv w wr vl neg ls i d ds) : w.heap.size + 2 ≤ wr.heap.size := by
  have := h.2.2.2.2.2.1.lt
  omega

theorem FInv.inner {w wr : World} {vl d : Value} {neg : Bool} {ls ds : List Int} {i : Nat} (h : FInv w wr vl neg ls i d ds) {c : Int} (hc : 0 ≤ c ∧ c < 4294967296) : UInv wr wr (w.heap.size + 2) d ds c 0 c ds :=
  ⟨h.1, rfl, h.2.1, rfl, by simp [dv, dp], hc.1, hc.2, Below.refl _ _⟩

theorem FInv.next {w wr w2 : World} {vl d d2 : Value} {neg : Bool} {ls ds ds2 : List Int} {i : Nat} (h : FInv w wr vl neg ls (i + 1) d ds) (hi : i < ls.length) (hv : VInv wr w2 (w.heap.size + 2) ds.length (4294967296 * dv ds + ls.getD i 0) 0 d2 ds2) : FInv w w2 vl neg ls i d2 ds2 := by
  have hf := hv.few
  obtain ⟨h1, h2, h3, h4, h5, h6, h7⟩ := h
  obtain ⟨k1, k2, k3, -, -, k6⟩ := hv
  refine ⟨k1, k2, ?_, by omega, h5.later k6 (by omega), h6.later k6 (by omega), h7.trans (k6.mono (by omega))⟩
  rw [drop_cons_getD ls i hi]
  simp only [lv]
  rw [← h3]
  omega

end Go.Proofs.YtjblidoilphifadGreatDoor
