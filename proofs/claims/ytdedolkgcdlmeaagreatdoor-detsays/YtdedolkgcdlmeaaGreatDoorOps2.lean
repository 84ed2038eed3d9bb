/- Products, the order of numbers, numbers of 64 bits, nought. -/
import Derived.Test.YtdedolkgcdlmeaaGreatDoorNum
import Derived.Deep.RegionHeld3
import Derived.Laws.CopyOwn

namespace Go.Proofs.YtdedolkgcdlmeaaGreatDoor
open Go.RowKit Limbs

theorem Box.drew {w : World} {B : Nat} {u0 u1 : Value} (h : Box w B u0 u1) : Box w.drew B u0 u1 := h

/-- Two structs came in, and the result's own variable: three new blocks. -/
structure Three (w W : World) (a0 a1 b0 b1 r0 r1 : Value) : Prop where
  fst : Box W w.heap.size a0 a1
  snd : Box W (w.heap.size + 1) b0 b1
  res : Box W (w.heap.size + 2) r0 r1
  below : Below w.heap.size w W
  size : w.heap.size + 2 < W.heap.size

theorem three (w : World) (a0 a1 b0 b1 r0 r1 : Value) (t1 t2 t3 : TypeId) : Three w (((w.alloc (.cells #[a0, a1] t1)).alloc (.cells #[b0, b1] t2)).alloc (.cells #[r0, r1] t3)) a0 a1 b0 b1 r0 r1 where
  fst := (box_new w _ _ _ _ rfl).later (((Below.refl _ _).alloc (by simp) _).alloc (by simp) _ : Below (w.heap.size + 1) _ _) (by omega)
  snd := (box_new (w.alloc _) _ _ _ _ (by simp)).later ((Below.refl _ _).alloc (by simp) _ : Below (w.heap.size + 2) _ _) (by omega)
  res := box_new _ _ _ _ _ (by simp)
  below := (((Below.refl _ _).alloc (Nat.le_refl _) _).alloc (by simp) _).alloc (by simp; omega) _
  size := by simp

theorem Three.later {w W W' : World} {a0 a1 b0 b1 r0 r1 : Value} (h : Three w W a0 a1 b0 b1 r0 r1) (hb : Below W.heap.size W W') : Three w W' a0 a1 b0 b1 r0 r1 where
  fst := h.fst.later hb (by have := h.size; omega)
  snd := h.snd.later hb (by have := h.size; omega)
  res := h.res.later hb h.size
  below := h.below.trans (hb.mono h.below.size)
  size := Nat.lt_of_lt_of_le h.size hb.size

theorem Three.drew {w W : World} {a0 a1 b0 b1 r0 r1 : Value} (h : Three w W a0 a1 b0 b1 r0 r1) : Three w W.drew a0 a1 b0 b1 r0 r1 := ⟨h.fst, h.snd, h.res, h.below.drew, h.size⟩

theorem sg_mul (an bn : Bool) (p q : Int) : (if (!(an == bn)) = true then -(p * q) else p * q) = sg an p * sg bn q := by
  unfold sg
  cases an <;> cases bn <;> simp [Int.neg_mul, Int.mul_neg]

set_option maxHeartbeats 800000 in
theorem mul_any (w : World) (va vb : Value) (x y : Int) (n m : Nat) (ha : NumL w va x n) (hb : NumL w vb y m) (hn : n ≤ 400000) (hm : m ≤ 400000) :
    Calls Tryz.prog 57 #[va, vb] w fun e w' => NumPost w (x * y) (n + m) e w' := by
  obtain ⟨an, sa, a, rfl, hla, nra, -, hx, hna⟩ := ha
  obtain ⟨bn, sb, b, rfl, hlb, nrb, -, hy, hnb⟩ := hb
  have HA := hide hla
  have HB := hide hlb
  obtain ⟨ao, acap, rfl, -⟩ := hla
  obtain ⟨bo, bcap, rfl, -⟩ := hlb
  have HX := hide hx; clear hx
  have HY := hide hy; clear hy
  go_enter Tryz.func57, Tryz.ntmps57
  go_wp2_with fail
  have hT := three w (.bool an) (.slice ao a.length acap) (.bool bn) (.slice bo b.length bcap) (.bool false) (.slice none 0 0) 29 29 29
  generalize ((w.alloc (.cells #[.bool an, .slice ao a.length acap] 29)).alloc (.cells #[.bool bn, .slice bo b.length bcap] 29)).alloc (.cells #[.bool false, .slice none 0 0] 29) = W at *
  obtain ⟨k0, k1, -, -⟩ := hT.fst
  obtain ⟨l0, l1, -, -⟩ := hT.snd
  have hn2 : ¬ (w.heap.size + 1 + 1 = w.heap.size) := by omega
  have hn3 : ¬ (w.heap.size = w.heap.size + 1 + 1) := by omega
  go_region_held3 (fun w' => w'.cell? ⟨w.heap.size, 0, none⟩ = some (.bool an) ∧ w'.cell? ⟨w.heap.size, 1, none⟩ = some (.slice ao a.length acap) ∧ w'.cell? ⟨w.heap.size + 1, 0, none⟩ = some (.bool bn) ∧ w'.cell? ⟨w.heap.size + 1, 1, none⟩ = some (.slice bo b.length bcap)) (go_keep)
    (first
      | (go_at_call 99; refine (mulLimbs_any _ _ _ a b (HA.out.below (by exact hT.below.drew) (Nat.le_refl _)) (HB.out.below (by exact hT.below.drew) (Nat.le_refl _)) (by omega) (by omega)).mono ?_; rintro e w1 ⟨v1, zs, rfl, hl1, hv1, hn1, hb1⟩; have HV := hide hv1; clear hv1; have hT1 := hT.drew.later hb1; obtain ⟨p0, p1, -, -⟩ := hT1.fst; obtain ⟨q0, q1, -, -⟩ := hT1.snd)
      | (go_at_call 95; refine (signed_any _ _ _ zs (n + m) hl1 (by omega)).mono ?_; rintro e w2 ⟨r, rfl, hr, hb2⟩; have hT2 := hT1.later hb2; obtain ⟨p0', p1', -, -⟩ := hT2.fst; obtain ⟨q0', q1', -, -⟩ := hT2.snd; obtain ⟨c0, c1, f0, f1⟩ := hT2.res; have HR := hide hr; obtain ⟨rn, rs, rz, rfl, hl, -⟩ := hr; obtain ⟨ro, rcap, rfl, -⟩ := hl))
  have e : (if (!(an == bn)) = true then -lv zs else lv zs) = x * y := by rw [HV.out, sg_mul, HX.out, HY.out]; rfl
  rw [e] at HR
  have HF := hide (boxed (w := w) HR.out c0 c1 (by simp) (by simp) hT2.below (by omega))
  clear hT hT1 hT2 hb1 hb2 HR e
  go_wp2
  exact bodyPost_ret (v := .agg #[.bool rn, .slice ro rz.length rcap]) (by simp [results, Tryz.results57, go_sem, c0, c1]) rfl HF.out

theorem zero_any (w : World) (va : Value) (x : Int) (n : Nat) (ha : NumL w va x n) :
    Calls Tryz.prog 14 #[va] w fun e w' => e = .returned (.bool (decide (x = 0))) ∧ Below w.heap.size w w' := by
  obtain ⟨an, sa, a, rfl, hla, nra, hz, hx, hna⟩ := ha
  obtain ⟨ao, acap, rfl, -, hlen, hlb, -⟩ := hla
  have e : decide (x = 0) = decide (a.length = 0) := by
    rw [decide_eq_decide, ← lv_zero_iff hlb nra, hx]
    split <;> omega
  rw [e]
  clear hx e
  by_cases h0 : a.length = 0
  · have h1 : ((a.length : Int) == 0) = true := by simp [h0]
    rw [decide_eq_true h0]
    clear h0
    go_enter Tryz.func14, Tryz.ntmps14
    go_wp2
    go_ret
    exact ⟨rfl, (Below.refl _ _).alloc (Nat.le_refl _) _⟩
  · have h1 : ((a.length : Int) == 0) = false := by rw [beq_eq_false_iff_ne]; omega
    rw [decide_eq_false h0]
    go_enter Tryz.func14, Tryz.ntmps14
    go_wp2
    go_ret
    exact ⟨rfl, (Below.refl _ _).alloc (Nat.le_refl _) _⟩

theorem lv_pos {zs : List Int} (h : LB zs) (hn : Nrm zs) (h0 : zs.length ≠ 0) : 0 < lv zs := by
  have h1 := lv_nonneg h
  have h2 := lv_zero_iff h hn
  by_cases e : lv zs = 0
  · exact absurd (h2.1 e) h0
  · omega

end Go.Proofs.YtdedolkgcdlmeaaGreatDoor

/- Numbers of 64 bits; what may be. -/
namespace Go.Proofs.YtdedolkgcdlmeaaGreatDoor
open Go.RowKit Limbs

/-- Two limbs in a new block. -/
theorem lim_two (W : World) (lo hi : Int) (t : TypeId) (hlo : 0 ≤ lo ∧ lo < 4294967296) (hhi : 0 ≤ hi ∧ hi < 4294967296) (B : Nat) (hB : B = W.heap.size) : Lim (W.alloc (.cells #[.int .u32 lo, .int .u32 hi] t)) (.slice (some ⟨B, 0, none⟩) 2 2) [lo, hi] := by
  subst hB
  refine ⟨_, 2, rfl, Nat.le_refl _, by simp, LB_cons hlo (LB_cons hhi LB_nil), fun _ => ⟨_, 0, rfl, by simp, fun i hi => ?_⟩⟩
  rcases (by simp at hi; omega : i = 0 ∨ i = 1) with rfl | rfl <;> simp

theorem lv_two (n : Int) : lv [n % 4294967296, n / 4294967296] = n := by simp only [lv]; omega

set_option maxHeartbeats 800000 in
theorem of_any (w : World) (n : Int) (h0 : -9223372036854775808 ≤ n) (h1 : n ≤ 9223372036854775807) :
    Calls Tryz.prog 53 #[.int .i64 n] w fun e w' => NumPost w n 2 e w' := by
  by_cases hn : n < 0
  · have hw : IntKind.u64.wrap (-IntKind.u64.wrap n) = -n := by rw [IntKind.wrap_u64, IntKind.wrap_u64]; omega
    have hw2 : -n / 4294967296 % 4294967296 = -n / 4294967296 := by omega
    have HN := hide (lv_two (-n))
    go_enter Tryz.func53, Tryz.ntmps53
    go_wp2_with fail
    refine (signed_any _ _ _ [-n % 4294967296, -n / 4294967296] 2 (lim_two _ _ _ _ (by omega) (by omega) _ (by simp)) (Nat.le_refl _)).mono ?_
    rintro e w2 ⟨r, rfl, hr, hb2⟩
    obtain ⟨c0, c1, f0, f1⟩ := Box.later (B := w.heap.size) ((box_new w _ _ _ _ rfl).later ((Below.refl _ _).alloc (by simp) _ : Below (w.heap.size + 1) _ _) (by omega)) hb2 (by simp; omega)
    rw [HN.out, if_pos rfl, Int.neg_neg] at hr
    have HF := hide (fun rn rs (h : NumL w2 (.agg #[.bool rn, rs]) n 2) => boxed (w := w) h c0 c1 (by simp) (by simp) ((((Below.refl _ _).alloc (Nat.le_refl _) _).alloc (by simp) _).trans (hb2.mono (by simp; omega))) (Nat.le_refl _))
    have HR := hide hr
    obtain ⟨rn, rs, rz, rfl, hl, -⟩ := hr
    obtain ⟨ro, rcap, rfl, -⟩ := hl
    clear hb2
    go_wp2
    exact bodyPost_ret (v := .agg #[.bool rn, .slice ro rz.length rcap]) (by simp [results, Tryz.results53, go_sem, c0, c1]) rfl (HF.out _ _ HR.out)
  · have HN := hide (lv_two n)
    go_enter Tryz.func53, Tryz.ntmps53
    go_wp2_with fail
    refine (signed_any _ _ _ [n % 4294967296, n / 4294967296] 2 (lim_two _ _ _ _ (by omega) (by omega) _ (by simp)) (Nat.le_refl _)).mono ?_
    rintro e w2 ⟨r, rfl, hr, hb2⟩
    obtain ⟨c0, c1, f0, f1⟩ := Box.later (B := w.heap.size) ((box_new w _ _ _ _ rfl).later ((Below.refl _ _).alloc (by simp) _ : Below (w.heap.size + 1) _ _) (by omega)) hb2 (by simp; omega)
    rw [HN.out, if_neg (by decide)] at hr
    have HF := hide (fun rn rs (h : NumL w2 (.agg #[.bool rn, rs]) n 2) => boxed (w := w) h c0 c1 (by simp) (by simp) ((((Below.refl _ _).alloc (Nat.le_refl _) _).alloc (by simp) _).trans (hb2.mono (by simp; omega))) (Nat.le_refl _))
    have HR := hide hr
    obtain ⟨rn, rs, rz, rfl, hl, -⟩ := hr
    obtain ⟨ro, rcap, rfl, -⟩ := hl
    clear hb2
    go_wp2
    exact bodyPost_ret (v := .agg #[.bool rn, .slice ro rz.length rcap]) (by simp [results, Tryz.results53, go_sem, c0, c1]) rfl (HF.out _ _ HR.out)

/-- Is it a number? -/
def isNum (neg : Bool) (zs : List Int) : Bool := if zs.length = 0 then !neg else zs.getD (zs.length - 1) 0 != 0

theorem NumL.of_isNum {w : World} {neg : Bool} {s : Value} {zs : List Int} {n : Nat} (h : isNum neg zs = true) (hl : Lim w s zs) (hn : zs.length ≤ n) : NumL w (.agg #[.bool neg, s]) (sg neg (lv zs)) n := by
  refine ⟨neg, s, zs, rfl, hl, ?_, fun h0 => ?_, rfl, hn⟩
  · unfold isNum at h
    by_cases h0 : zs.length = 0
    · exact .inl h0
    · rw [if_neg h0, bne_iff_ne] at h; exact .inr h
  · unfold isNum at h
    rw [if_pos h0] at h; simpa using h


/-- what Check answers -/
def checked (b : Bool) : Value := if b = true then .nilIface else .iface 102 (.int .i64 3)

theorem check_any (w : World) (neg : Bool) (s : Value) (zs : List Int) (hl : Lim w s zs) :
    Calls Tryz.prog 123 #[.agg #[.bool neg, s]] w fun e w' => e = .returned (checked (isNum neg zs)) ∧ Below w.heap.size w w' := by
  obtain ⟨ao, acap, rfl, -, hlen, hlb, hc⟩ := hl
  by_cases h0 : zs.length = 0
  · have hb : ((zs.length : Int) == 0) = true := by simp [h0]
    have e : isNum neg zs = !neg := by unfold isNum; rw [if_pos h0]
    rw [e]
    clear hc h0 e
    cases neg
    · go_enter Tryz.func123, Tryz.ntmps123
      go_wp2
      go_ret
      exact ⟨rfl, (Below.refl _ _).alloc (Nat.le_refl _) _⟩
    · go_enter Tryz.func123, Tryz.ntmps123
      go_wp2
      go_ret
      exact ⟨rfl, (Below.refl _ _).alloc (Nat.le_refl _) _⟩
  · have hb : ((zs.length : Int) == 0) = false := by rw [beq_eq_false_iff_ne]; omega
    obtain ⟨b, off, rfl, hbb, hc⟩ := hc (by omega)
    have hcc := hc (zs.length - 1) (by omega)
    have hi : (zs.length : Int) - 1 = ((zs.length - 1 : Nat) : Int) := by omega
    obtain ⟨k, hk⟩ : ∃ k, k = zs.length - 1 := ⟨_, rfl⟩
    have hkl : k < zs.length := by omega
    rw [← hk] at hi hcc
    have e : isNum neg zs = (zs.getD k 0 != 0) := by unfold isNum; rw [if_neg h0, hk]
    rw [e]
    have hz := hlb k
    clear hc hk e
    generalize zs.getD k 0 = z at *
    have hcc2 : ∀ o, (w.alloc o).cell? ⟨b, off + k, none⟩ = some (.int .u32 z) := fun o => ((((Below.refl w.heap.size w).alloc (Nat.le_refl _) o).cell (p := ⟨b, off + k, none⟩) hbb)).trans hcc
    by_cases hz0 : z = 0
    · subst hz0
      go_enter Tryz.func123, Tryz.ntmps123
      go_wp2
      go_ret
      exact ⟨rfl, (Below.refl _ _).alloc (Nat.le_refl _) _⟩
    · have hz1 : (z == 0) = false := by simp [hz0]
      have hz2 : (z != 0) = true := by simp [hz0]
      rw [hz2]
      go_enter Tryz.func123, Tryz.ntmps123
      go_wp2
      go_ret
      exact ⟨rfl, (Below.refl _ _).alloc (Nat.le_refl _) _⟩

end Go.Proofs.YtdedolkgcdlmeaaGreatDoor

/- Are these numbers, and not too great? -/
namespace Go.Proofs.YtdedolkgcdlmeaaGreatDoor
open Go.RowKit Limbs

theorem ret_bool {a b : Bool} (h : a = b) : Ending.returned (.bool a) = .returned (.bool b) := by rw [h]

/-- A number as it came in: a sign, a slice, its limbs. -/
structure Raw where
  neg : Bool
  s : Value
  zs : List Int

def Raw.good (r : Raw) : Bool := decide (r.zs.length ≤ 12) && isNum r.neg r.zs

/-- A row of such, two cells each. -/
def Raws (w : World) (B : Nat) (xs : List Raw) : Prop :=
  B < w.heap.size ∧ ∀ i r, xs[i]? = some r → w.cell? ⟨B, i * 2, none⟩ = some (.bool r.neg) ∧ w.cell? ⟨B, i * 2 + 1, none⟩ = some r.s ∧ Lim w r.s r.zs

theorem Raws.below {B C : Nat} {w w' : World} {xs : List Raw} (h : Raws w B xs) (hb : Below C w w') (hC : w.heap.size ≤ C) : Raws w' B xs := by
  obtain ⟨h1, h2⟩ := h
  refine ⟨Nat.lt_of_lt_of_le h1 hb.size, fun i r hi => ?_⟩
  obtain ⟨h3, h4, h5⟩ := h2 i r hi
  exact ⟨(hb.cell (p := ⟨B, i * 2, none⟩) (Nat.lt_of_lt_of_le h1 hC)).trans h3, (hb.cell (p := ⟨B, i * 2 + 1, none⟩) (Nat.lt_of_lt_of_le h1 hC)).trans h4, h5.below hb hC⟩


end Go.Proofs.YtdedolkgcdlmeaaGreatDoor

/- Vectors as they come in; what is wrong with one. -/
namespace Go.Proofs.YtdedolkgcdlmeaaGreatDoor
open Go.RowKit Limbs

/-- A vector: numbers as they came in, two cells each. -/
def VecL (w : World) (v : Value) (rs : List Raw) : Prop :=
  ∃ ao cap, v = .slice ao rs.length cap ∧ rs.length ≤ cap ∧
    (0 < rs.length → ∃ b off, ao = some ⟨b, off, none⟩ ∧ b < w.heap.size ∧ ∀ i r, rs[i]? = some r → w.cell? ⟨b, off + i * 2, none⟩ = some (.bool r.neg) ∧ w.cell? ⟨b, off + i * 2 + 1, none⟩ = some r.s ∧ Lim w r.s r.zs)

theorem VecL.below {C : Nat} {w w' : World} {v : Value} {rs : List Raw} (h : VecL w v rs) (hb : Below C w w') (hC : w.heap.size ≤ C) : VecL w' v rs := by
  obtain ⟨ao, cap, hv, h1, h2⟩ := h
  refine ⟨ao, cap, hv, h1, fun h0 => ?_⟩
  obtain ⟨b, off, e, hlt, hc⟩ := h2 h0
  refine ⟨b, off, e, Nat.lt_of_lt_of_le hlt hb.size, fun i r hi => ?_⟩
  obtain ⟨h3, h4, h5⟩ := hc i r hi
  exact ⟨(hb.cell (p := ⟨b, off + i * 2, none⟩) (Nat.lt_of_lt_of_le hlt hC)).trans h3, (hb.cell (p := ⟨b, off + i * 2 + 1, none⟩) (Nat.lt_of_lt_of_le hlt hC)).trans h4, h5.below hb hC⟩

def Raw.num (r : Raw) : Bool := isNum r.neg r.zs

/-- what Check answers of a vector -/
def checkedV (rs : List Raw) : Value := if rs.length < 1 ∨ 8 < rs.length then .iface 102 (.int .i64 6) else checked (rs.all Raw.num)

set_option maxRecDepth 100000 in
set_option maxHeartbeats 1600000 in
theorem checkV_any (w : World) (v : Value) (rs : List Raw) (hv : VecL w v rs) :
    Calls Tryz.prog 94 #[v] w fun e w' => e = .returned (checkedV rs) ∧ Below w.heap.size w w' := by
  have HV := hide hv
  obtain ⟨ao, cap, rfl, -, hc⟩ := hv
  by_cases h1 : rs.length < 1
  · have e : checkedV rs = .iface 102 (.int .i64 6) := if_pos (.inl h1)
    rw [e]
    have hl : (rs.length : Int) < 1 := by omega
    clear hc e
    go_enter Tryz.func94, Tryz.ntmps94
    go_wp2
    go_ret
    exact ⟨rfl, Below.refl _ _⟩
  · have hl : ¬ ((rs.length : Int) < 1) := by omega
    by_cases h2 : 8 < rs.length
    · have e : checkedV rs = .iface 102 (.int .i64 6) := if_pos (.inr h2)
      rw [e]
      have hl2 : (8 : Int) < (rs.length : Int) := by omega
      clear hc e
      go_enter Tryz.func94, Tryz.ntmps94
      go_wp2
      go_ret
      exact ⟨rfl, Below.refl _ _⟩
    · have e : checkedV rs = checked (rs.all Raw.num) := if_neg (by omega)
      rw [e]
      have hl2 : ¬ ((8 : Int) < (rs.length : Int)) := by omega
      obtain ⟨b, off, rfl, hlt, -⟩ := hc (by omega)
      clear e
      go_enter Tryz.func94, Tryz.ntmps94
      go_wp2
      go_loopw [16] (fun i wr => ∃ k : Nat, k ≤ rs.length ∧ i = .int .i64 k ∧ Hid ((rs.take k).all Raw.num = true) ∧ Below w.heap.size w wr) (fun i _ => rs.length - (intOf i).toNat)
      case atStart => exact ⟨0, Nat.zero_le _, rfl, by show _ = _; simp, Below.refl _ _⟩
      case round =>
        obtain ⟨k, hk, rfl, HG, hbe⟩ := hrel
        by_cases hkl : k < rs.length
        · obtain ⟨_, _, e, -, hc⟩ := HV.out.below hbe (Nat.le_refl _)
          simp only [Value.slice.injEq, true_and] at e
          obtain ⟨rfl, rfl⟩ := e
          obtain ⟨_, _, e, hb2, hc⟩ := hc (by omega)
          simp only [Option.some.injEq, Addr.mk.injEq, and_true] at e
          obtain ⟨rfl, rfl⟩ := e
          obtain ⟨c0, c1, hL⟩ := hc k rs[k] (by simp [hkl])
          clear hc
          have HT : Hid ((rs.take (k + 1)).all Raw.num = rs[k].num) := by
            show _ = _
            rw [List.take_succ_eq_append_getElem hkl, List.all_append, HG.out]; simp
          have HE : Hid (rs[k].num = false → rs.all Raw.num = false) := fun h => by
            rw [List.all_eq_false]; exact ⟨rs[k], List.getElem_mem hkl, by simp [h]⟩
          generalize rs[k] = r at *
          obtain ⟨rn, rsl, rz⟩ := r
          have HL := hide hL
          have HBE := hide hbe
          obtain ⟨ro, rcap, e, -⟩ := hL
          simp only at e c0 c1
          subst e
          clear hbe
          go_wp2_with fail
          refine (check_any _ _ _ _ HL.out).mono ?_
          rintro e w1 ⟨rfl, hb1⟩
          have HB1 := hide (HBE.out.trans (hb1.mono HBE.out.size))
          clear hb1
          cases hn : isNum rn rz
          · have HA := hide (HE.out hn)
            have e : checked false = .iface 102 (.int .i64 3) := rfl
            rw [e]
            clear HT HE e
            go_wp2
            go_ret
            exact ⟨by rw [HA.out]; rfl, HB1.out⟩
          · have e : checked true = .nilIface := rfl
            rw [e]
            have HG' := hide (HT.out.trans hn)
            clear HT HE HG e
            go_wp2
            go_roundw
            case rel => exact ⟨k + 1, by omega, by go_num, HG', HB1.out⟩
            case measure => simp [intOf]; omega
        · obtain rfl : k = rs.length := by omega
          have HA : Hid (rs.all Raw.num = true) := by have := HG.out; rwa [List.take_length] at this
          have HBE := hide hbe
          clear hbe HG
          go_wp2
          go_ret
          exact ⟨by rw [HA.out]; rfl, HBE.out⟩

end Go.Proofs.YtdedolkgcdlmeaaGreatDoor

/- Vectors of numbers; are two the same? -/
namespace Go.Proofs.YtdedolkgcdlmeaaGreatDoor
open Go.RowKit Limbs

/-- A vector of these numbers, each of at most so many limbs. -/
def VecN (w : World) (v : Value) (zs : List Int) (n : Nat) : Prop :=
  ∃ ao cap, v = .slice ao zs.length cap ∧ zs.length ≤ cap ∧
    (0 < zs.length → ∃ b off, ao = some ⟨b, off, none⟩ ∧ b < w.heap.size ∧ ∀ i, i < zs.length → ∃ (neg : Bool) (o : Option Addr) (l c : Nat), w.cell? ⟨b, off + i * 2, none⟩ = some (.bool neg) ∧ w.cell? ⟨b, off + i * 2 + 1, none⟩ = some (.slice o l c) ∧ NumL w (.agg #[.bool neg, .slice o l c]) (zs.getD i 0) n)

theorem VecN.below {C : Nat} {w w' : World} {v : Value} {zs : List Int} {n : Nat} (h : VecN w v zs n) (hb : Below C w w') (hC : w.heap.size ≤ C) : VecN w' v zs n := by
  obtain ⟨ao, cap, hv, h1, h2⟩ := h
  refine ⟨ao, cap, hv, h1, fun h0 => ?_⟩
  obtain ⟨b, off, e, hlt, hc⟩ := h2 h0
  refine ⟨b, off, e, Nat.lt_of_lt_of_le hlt hb.size, fun i hi => ?_⟩
  obtain ⟨neg, o, l, c, h3, h4, h5⟩ := hc i hi
  exact ⟨neg, o, l, c, (hb.cell (p := ⟨b, off + i * 2, none⟩) (Nat.lt_of_lt_of_le hlt hC)).trans h3, (hb.cell (p := ⟨b, off + i * 2 + 1, none⟩) (Nat.lt_of_lt_of_le hlt hC)).trans h4, h5.below hb hC⟩

/-- One of them, read. -/
theorem VecN.at {w : World} {b off cap : Nat} {zs : List Int} {n : Nat} (h : VecN w (.slice (some ⟨b, off, none⟩) zs.length cap) zs n) (i : Nat) (hi : i < zs.length) : b < w.heap.size ∧ ∃ (neg : Bool) (o : Option Addr) (l c : Nat), w.cell? ⟨b, off + i * 2, none⟩ = some (.bool neg) ∧ w.cell? ⟨b, off + i * 2 + 1, none⟩ = some (.slice o l c) ∧ NumL w (.agg #[.bool neg, .slice o l c]) (zs.getD i 0) n := by
  obtain ⟨_, _, e, -, hc⟩ := h
  simp only [Value.slice.injEq, true_and] at e
  obtain ⟨rfl, rfl⟩ := e
  obtain ⟨_, _, e, hlt, hc⟩ := hc (by omega)
  simp only [Option.some.injEq, Addr.mk.injEq, and_true] at e
  obtain ⟨rfl, rfl⟩ := e
  exact ⟨hlt, hc i hi⟩

theorem VecN.form {w : World} {v : Value} {zs : List Int} {n : Nat} (h : VecN w v zs n) (h0 : 0 < zs.length) : ∃ b off cap, v = .slice (some ⟨b, off, none⟩) zs.length cap := by
  obtain ⟨ao, cap, rfl, -, hc⟩ := h
  obtain ⟨b, off, rfl, -⟩ := hc h0
  exact ⟨b, off, cap, rfl⟩


end Go.Proofs.YtdedolkgcdlmeaaGreatDoor

/- Limbs in memory of their own; signs turned; differences; likeness. -/
namespace Go.Proofs.YtdedolkgcdlmeaaGreatDoor
open Go.RowKit Limbs

theorem Tryz.sizeU32 : (Tryz.prog.info? 104).map (·.size) = some 1 := by kernel_rfl

/-- A row of the call's own, known whole. -/
theorem Row.of_block {w : World} {g : Nat} {zs : List Int} {t : TypeId} (h : w.heap[g]? = some (.cells (zs.map (Value.int .u32)).toArray t (0, 0))) (hlb : LB zs) : Row w g zs := by
  refine ⟨?_, hlb, fun j hj => ⟨?_, frozen_of_row w g j _ t h⟩⟩
  · rcases Nat.lt_or_ge g w.heap.size with hlt | hge
    · exact hlt
    · rw [Array.getElem?_eq_none hge] at h; cases h
  · rw [cell_of_row w g j _ t (0, 0) h]
    simp [List.getD_eq_getElem?_getD, hj]

theorem madeCells_list (m : Nat) : madeCells #[Value.int .u32 0] m = ((List.replicate m (0 : Int)).map (Value.int .u32)).toArray := by
  apply Array.ext_getElem?
  intro j
  by_cases hj : j < m
  · simp [madeCells, hj, Nat.mod_one]
  · simp [madeCells, hj]

/-- The same limbs in a new row; the row may be written. -/
def FreshPost (w : World) (zs : List Int) (e : Ending) (w' : World) : Prop :=
  e = .returned (.slice (some ⟨w.heap.size, 0, none⟩) zs.length zs.length) ∧ Row w' w.heap.size zs ∧ Below w.heap.size w w'

/-- What copy does to the new row. -/
theorem copy_fresh (w : World) (ao : Option Addr) (cap : Nat) (zs : List Int) (hc : 0 < zs.length → ∃ b off, ao = some ⟨b, off, none⟩ ∧ b < w.heap.size ∧ ∀ i, i < zs.length → w.cell? ⟨b, off + i, none⟩ = some (.int .u32 (zs.getD i 0))) :
    ∃ W, (∀ ty, (Builtin.copy_ #[27, 27] ty #[.slice (some ⟨w.heap.size, 0, none⟩) zs.length zs.length, .slice ao zs.length cap]).run Tryz.prog (w.alloc (.cells ((List.replicate zs.length (0 : Int)).map (Value.int .u32)).toArray 104)) = .ok (goInt zs.length) W) ∧
      W.heap[w.heap.size]? = some (.cells (zs.map (Value.int .u32)).toArray 104 (0, 0)) ∧ Below w.heap.size w W := by
  by_cases h0 : zs.length = 0
  · obtain rfl : zs = [] := List.eq_nil_of_length_eq_zero h0
    refine ⟨_, fun ty => ?_, heap_alloc_new w _, (Below.refl _ _).alloc (Nat.le_refl _) _⟩
    exact run_copy_none _ _ _ ty 104 _ _ _ _ _ _ Tryz.underlying27 Tryz.sizeU32 (by simp)
  · obtain ⟨b, off, rfl, hb, hcell⟩ := hc (by omega)
    have hsrc : ∀ j v, (zs.map (Value.int .u32))[j]? = some v → (w.alloc (.cells ((List.replicate zs.length (0 : Int)).map (Value.int .u32)).toArray 104)).cell? ((⟨b, off, none⟩ : Addr).add j) = some v := by
      intro j u hj
      rw [List.getElem?_map] at hj
      by_cases hjl : j < zs.length
      · rw [List.getElem?_eq_getElem hjl] at hj
        simp at hj
        subst hj
        have hadd : (⟨b, off, none⟩ : Addr).add j = ⟨b, off + j, none⟩ := by unfold Addr.add; split <;> simp_all
        rw [hadd, World.cell?_alloc_past _ _ _ hb, hcell j hjl]
        simp [List.getD_eq_getElem?_getD, hjl]
      · rw [List.getElem?_eq_none (by omega)] at hj; cases hj
    have hrun := fun ty => run_copy_row (P := Tryz.prog) (w.alloc (.cells ((List.replicate zs.length (0 : Int)).map (Value.int .u32)).toArray 104)) 27 27 ty 104 w.heap.size 0 zs.length zs.length ⟨b, off, none⟩ zs.length cap _ 104 (zs.map (Value.int .u32)) Tryz.underlying27 Tryz.sizeU32 (heap_alloc_new w _) (by simp) hsrc (by simp) (ints_oneCell _ _)
    rw [List.length_map] at hrun
    refine ⟨_, hrun, ?_, below_setRow ((Below.refl _ _).alloc (Nat.le_refl _) _) (Nat.le_refl _) _⟩
    rw [setRow_heap _ _ _ _ _ _ (heap_alloc_new w _)]
    simp

set_option maxRecDepth 100000 in
set_option maxHeartbeats 400000 in
theorem freshLimbs_any (w : World) (v : Value) (zs : List Int) (h : Lim w v zs) :
    Calls Tryz.prog 96 #[v] w fun e w' => FreshPost w zs e w' := by
  obtain ⟨ao, cap, rfl, hcap, hlen, hlb, hc⟩ := h
  obtain ⟨W, hcp, hrow, hbe⟩ := copy_fresh w ao cap zs hc
  clear hc
  have hmk := run_mk zs.length (by omega)
  rw [madeCells_list] at hmk
  have HL := hide (Row.of_block hrow hlb)
  have HB := hide hbe
  clear hrow hbe
  generalize ((List.replicate zs.length (0 : Int)).map (Value.int .u32)).toArray = C at *
  go_enter Tryz.func96, Tryz.ntmps96
  go_wp2
  go_ret
  exact ⟨rfl, HL.out, HB.out⟩

theorem FreshPost.lim {w w' : World} {zs : List Int} (hr : Row w' w.heap.size zs) (hl : zs.length ≤ 1000000) : Lim w' (.slice (some ⟨w.heap.size, 0, none⟩) zs.length zs.length) zs := hr.lim _ (Nat.le_refl _) hl

/-- One struct came in, and the result's own variable. -/
structure Two (w W : World) (a0 a1 r0 r1 : Value) : Prop where
  fst : Box W w.heap.size a0 a1
  res : Box W (w.heap.size + 1) r0 r1
  below : Below w.heap.size w W
  size : w.heap.size + 1 < W.heap.size

theorem two (w : World) (a0 a1 r0 r1 : Value) (t1 t2 : TypeId) : Two w ((w.alloc (.cells #[a0, a1] t1)).alloc (.cells #[r0, r1] t2)) a0 a1 r0 r1 where
  fst := (box_new w _ _ _ _ rfl).later ((Below.refl _ _).alloc (by simp) _ : Below (w.heap.size + 1) _ _) (by omega)
  res := box_new _ _ _ _ _ (by simp)
  below := ((Below.refl _ _).alloc (Nat.le_refl _) _).alloc (by simp) _
  size := by simp

theorem Two.later {w W W' : World} {a0 a1 r0 r1 : Value} (h : Two w W a0 a1 r0 r1) (hb : Below W.heap.size W W') : Two w W' a0 a1 r0 r1 where
  fst := h.fst.later hb (by have := h.size; omega)
  res := h.res.later hb h.size
  below := h.below.trans (hb.mono h.below.size)
  size := Nat.lt_of_lt_of_le h.size hb.size

theorem Two.drew {w W : World} {a0 a1 r0 r1 : Value} (h : Two w W a0 a1 r0 r1) : Two w W.drew a0 a1 r0 r1 := ⟨h.fst, h.res, h.below.drew, h.size⟩

set_option maxHeartbeats 800000 in
theorem neg_any (w : World) (va : Value) (x : Int) (n : Nat) (ha : NumL w va x n) (hn : n ≤ 1000000) :
    Calls Tryz.prog 55 #[va] w fun e w' => NumPost w (-x) n e w' := by
  obtain ⟨an, sa, a, rfl, hla, nra, -, hx, hna⟩ := ha
  have HA := hide hla
  obtain ⟨ao, acap, rfl, -⟩ := hla
  have HX := hide hx; clear hx
  go_enter Tryz.func55, Tryz.ntmps55
  go_wp2_with fail
  have hT := two w (.bool an) (.slice ao a.length acap) (.bool false) (.slice none 0 0) 29 29
  generalize (w.alloc (.cells #[.bool an, .slice ao a.length acap] 29)).alloc (.cells #[.bool false, .slice none 0 0] 29) = W at *
  obtain ⟨k0, k1, -, -⟩ := hT.fst
  go_region_held3 (fun w' => w'.cell? ⟨w.heap.size, 0, none⟩ = some (.bool an) ∧ w'.cell? ⟨w.heap.size, 1, none⟩ = some (.slice ao a.length acap)) (go_keep)
    (first
      | (go_at_call 96; refine (freshLimbs_any _ _ a (HA.out.below (by exact hT.below.drew) (Nat.le_refl _))).mono ?_; rintro e w1 ⟨rfl, hr1, hb1⟩; have hT1 := hT.drew.later hb1; obtain ⟨p0, p1, -, -⟩ := hT1.fst)
      | (go_at_call 95; refine (signed_any _ _ _ a n (FreshPost.lim hr1 (by omega)) hna).mono ?_; rintro e w2 ⟨r, rfl, hr, hb2⟩; have hT2 := hT1.later hb2; obtain ⟨p0', p1', -, -⟩ := hT2.fst; obtain ⟨c0, c1, f0, f1⟩ := hT2.res; have HR := hide hr; obtain ⟨rn, rs, rz, rfl, hl, -⟩ := hr; obtain ⟨ro, rcap, rfl, -⟩ := hl))
  have e : (if (!an) = true then -lv a else lv a) = -x := by rw [HX.out]; cases an <;> simp
  rw [e] at HR
  have HF := hide (boxed (w := w) HR.out c0 c1 (by simp) (by simp) hT2.below (by omega))
  clear hT hT1 hT2 hb1 hb2 HR e hr1
  go_wp2
  exact bodyPost_ret (v := .agg #[.bool rn, .slice ro rz.length rcap]) (by simp [results, Tryz.results55, go_sem, c0, c1]) rfl HF.out

set_option maxHeartbeats 800000 in
theorem sub_any (w : World) (va vb : Value) (x y : Int) (n : Nat) (ha : NumL w va x n) (hb : NumL w vb y n) (hn : n ≤ 900000) :
    Calls Tryz.prog 97 #[va, vb] w fun e w' => NumPost w (x - y) (n + 1) e w' := by
  obtain ⟨an, sa, a, rfl, hla, nra, -, hx, hna⟩ := ha
  obtain ⟨bn, sb, b, rfl, hlb, nrb, -, hy, hnb⟩ := hb
  have HA := hide hla
  have HB := hide hlb
  obtain ⟨ao, acap, rfl, -⟩ := hla
  obtain ⟨bo, bcap, rfl, -⟩ := hlb
  have HX := hide hx; clear hx
  have HY := hide hy; clear hy
  go_enter Tryz.func97, Tryz.ntmps97
  go_wp2_with fail
  have hT := three w (.bool an) (.slice ao a.length acap) (.bool bn) (.slice bo b.length bcap) (.bool false) (.slice none 0 0) 29 29 29
  refine (addSigned_any _ _ _ a _ _ b (HA.out.below hT.below (Nat.le_refl _)) (HB.out.below hT.below (Nat.le_refl _)) nra nrb n hna hnb hn).mono ?_
  rintro e w2 ⟨r, rfl, hr, hb2⟩
  have hT2 := hT.later hb2
  obtain ⟨c0, c1, f0, f1⟩ := hT2.res
  have HR := hide hr
  obtain ⟨rn, rs, rz, rfl, hl, -⟩ := hr
  obtain ⟨ro, rcap, rfl, -⟩ := hl
  have e : sg an (lv a) + sg (!bn) (lv b) = x - y := by rw [HX.out, HY.out]; unfold sg; cases an <;> cases bn <;> simp <;> omega
  rw [e] at HR
  have HF := hide (boxed (w := w) HR.out c0 c1 (by simp) (by simp) hT2.below (by simp))
  clear hT hT2 hb2 HR e
  go_wp2
  exact bodyPost_ret (v := .agg #[.bool rn, .slice ro rz.length rcap]) (by simp [results, Tryz.results97, go_sem, c0, c1]) rfl HF.out

end Go.Proofs.YtdedolkgcdlmeaaGreatDoor
