/- Numbers divided; what they are without their sign; an error's number. -/
import Derived.Test.YtdedolkgcdlmeaaGreatDoorDivG
import Derived.Test.YtdedolkgcdlmeaaGreatDoorOps2
namespace Go.Proofs.YtdedolkgcdlmeaaGreatDoor
open Go.RowKit Limbs

theorem divLimbs_any (w : World) (va vb : Value) (a b : List Int) (ha : Lim w va a) (hb : Lim w vb b) (na : Nrm a) (nb : Nrm b) (h0 : b.length ≠ 0) (hla : a.length ≤ 900000) :
    Calls Tryz.prog 126 #[va, vb] w fun e w' => DivPost w a b e w' := by
  by_cases h1 : lv a < lv b
  · exact divLimbs_less w va vb a b ha hb na nb h1
  · by_cases h2 : b.length = 1
    · exact divLimbs_one w va vb a b ha hb na nb (by omega) h2
    · exact divLimbs_long w va vb a b ha hb na nb (by omega) (by omega) hla

set_option maxRecDepth 100000 in
set_option maxHeartbeats 800000 in
theorem abs_any (w : World) (va : Value) (x : Int) (n : Nat) (ha : NumL w va x n) (hn : n ≤ 1000000) :
    Calls Tryz.prog 149 #[va] w fun e w' => NumPost w (if x < 0 then -x else x) n e w' := by
  obtain ⟨an, sa, a, rfl, hla, nra, -, hx, hna⟩ := ha
  have HA := hide hla
  have hlb : LB a := by obtain ⟨_, _, _, _, _, h, _⟩ := hla; exact h
  have e : lv a = if x < 0 then -x else x := by
    have := lv_nonneg hlb
    rw [hx]; split <;> split <;> omega
  obtain ⟨ao, acap, rfl, -⟩ := hla
  rw [← e]
  clear hx e hlb
  go_enter Tryz.func149, Tryz.ntmps149
  go_wp2_with fail
  have hT := two w (.bool an) (.slice ao a.length acap) (.bool false) (.slice none 0 0) 29 29
  generalize (w.alloc (.cells #[.bool an, .slice ao a.length acap] 29)).alloc (.cells #[.bool false, .slice none 0 0] 29) = W at *
  refine (freshLimbs_any _ _ a (HA.out.below hT.below (Nat.le_refl _))).mono ?_
  rintro e w1 ⟨rfl, hr1, hb1⟩
  have hT1 := hT.later hb1
  go_wp2_with fail
  refine (signed_any _ _ _ a n (FreshPost.lim hr1 (by omega)) hna).mono ?_
  rintro e w2 ⟨r, rfl, hr, hb2⟩
  have hT2 := hT1.later hb2
  obtain ⟨c0, c1, f0, f1⟩ := hT2.res
  have HR := hide hr
  obtain ⟨rn, rs, rz, rfl, hl, -⟩ := hr
  obtain ⟨ro, rcap, rfl, -⟩ := hl
  rw [if_neg (by decide)] at HR
  have HF := hide (boxed (w := w) HR.out c0 c1 (by simp) (by simp) hT2.below (by omega))
  clear hT hT1 hT2 hb1 hb2 HR hr1
  go_wp2
  exact bodyPost_ret (v := .agg #[.bool rn, .slice ro rz.length rcap]) (by simp [results, Tryz.results149, go_sem, c0, c1]) rfl HF.out

/-- Two structs came in, and two results' own variables: four new blocks. -/
structure Four (w W : World) (a0 a1 b0 b1 r0 r1 s0 s1 : Value) : Prop where
  fst : Box W w.heap.size a0 a1
  snd : Box W (w.heap.size + 1) b0 b1
  res : Box W (w.heap.size + 2) r0 r1
  sec : Box W (w.heap.size + 3) s0 s1
  below : Below w.heap.size w W
  size : w.heap.size + 3 < W.heap.size

theorem four (w : World) (a0 a1 b0 b1 r0 r1 s0 s1 : Value) (t1 t2 t3 t4 : TypeId) : Four w ((((w.alloc (.cells #[a0, a1] t1)).alloc (.cells #[b0, b1] t2)).alloc (.cells #[r0, r1] t3)).alloc (.cells #[s0, s1] t4)) a0 a1 b0 b1 r0 r1 s0 s1 where
  fst := (three w a0 a1 b0 b1 r0 r1 t1 t2 t3).fst.later ((Below.refl _ _).alloc (by simp) _ : Below (w.heap.size + 3) _ _) (by omega)
  snd := (three w a0 a1 b0 b1 r0 r1 t1 t2 t3).snd.later ((Below.refl _ _).alloc (by simp) _ : Below (w.heap.size + 3) _ _) (by omega)
  res := (three w a0 a1 b0 b1 r0 r1 t1 t2 t3).res.later ((Below.refl _ _).alloc (by simp) _ : Below (w.heap.size + 3) _ _) (by omega)
  sec := box_new _ _ _ _ _ (by simp)
  below := (three w a0 a1 b0 b1 r0 r1 t1 t2 t3).below.alloc (by simp; omega) _
  size := by simp

theorem Four.later {w W W' : World} {a0 a1 b0 b1 r0 r1 s0 s1 : Value} (h : Four w W a0 a1 b0 b1 r0 r1 s0 s1) (hb : Below W.heap.size W W') : Four w W' a0 a1 b0 b1 r0 r1 s0 s1 where
  fst := h.fst.later hb (by have := h.size; omega)
  snd := h.snd.later hb (by have := h.size; omega)
  res := h.res.later hb (by have := h.size; omega)
  sec := h.sec.later hb h.size
  below := h.below.trans (hb.mono h.below.size)
  size := Nat.lt_of_lt_of_le h.size hb.size

theorem Four.drew {w W : World} {a0 a1 b0 b1 r0 r1 s0 s1 : Value} (h : Four w W a0 a1 b0 b1 r0 r1 s0 s1) : Four w W.drew a0 a1 b0 b1 r0 r1 s0 s1 := ⟨h.fst, h.snd, h.res, h.sec, h.below.drew, h.size⟩

/-- What is left has the second number's sign, or is nought, and is less. -/
def Left (r y : Int) : Prop := (0 < y → 0 ≤ r ∧ r < y) ∧ (y < 0 → y < r ∧ r ≤ 0)

def QuoPost (w : World) (x y : Int) (n m : Nat) (e : Ending) (w' : World) : Prop :=
  ∃ vq vr q r, e = .returned (.tuple #[vq, vr, .nilIface]) ∧ NumL w' vq q (n + 1) ∧ NumL w' vr r m ∧ x = q * y + r ∧ Left r y ∧ Below w.heap.size w w'

theorem quo_plain {A V q r : Int} (an bn : Bool) (h : A = V * q + r) (h0 : 0 ≤ r) (h1 : r < V) (hs : an = bn ∨ r = 0) :
    sg an A = (if (!(an == bn)) = true then -q else q) * sg bn V + (if bn = true then -r else r) ∧ Left (if bn = true then -r else r) (sg bn V) := by
  unfold sg Left
  have e : V * q = q * V := Int.mul_comm _ _
  rw [e] at h
  rcases hs with rfl | rfl
  · cases an <;> simp [Int.mul_neg] <;> omega
  · cases an <;> cases bn <;> simp [Int.mul_neg, Int.neg_mul] <;> omega

theorem quo_down {A V q r : Int} (an bn : Bool) (h : A = V * q + r) (h0 : 0 < r) (h1 : r < V) (hs : (an == bn) = false) :
    sg an A = (if (!(an == bn)) = true then -(q + 1) else q + 1) * sg bn V + (if bn = true then -(V - r) else V - r) ∧ Left (if bn = true then -(V - r) else V - r) (sg bn V) := by
  unfold sg Left
  have e : V * q = q * V := Int.mul_comm _ _
  rw [e] at h
  cases an <;> cases bn <;> simp at hs <;> simp [Int.mul_neg, Int.neg_mul, Int.add_mul, Int.neg_add] <;> omega

/-- The results' own variables are written, and read. -/
theorem boxed2 {w w2 : World} {B C : Nat} {q r : Int} {n m : Nat} {qn rn : Bool} {qs rs : Value} {u0 u1 t0 t1 : Value} (hq : NumL w2 (.agg #[.bool qn, qs]) q n) (hr : NumL w2 (.agg #[.bool rn, rs]) r m)
    (c0 : w2.cell? ⟨B, 0, none⟩ = some u0) (c1 : w2.cell? ⟨B, 1, none⟩ = some u1) (d0 : w2.cell? ⟨C, 0, none⟩ = some t0) (d1 : w2.cell? ⟨C, 1, none⟩ = some t1) (hBC : B ≠ C)
    (hu0 : ∀ z, u0 ≠ .int .u32 z) (hu1 : ∀ z, u1 ≠ .int .u32 z) (ht0 : ∀ z, t0 ≠ .int .u32 z) (ht1 : ∀ z, t1 ≠ .int .u32 z) (hb : Below w.heap.size w w2) (hB : w.heap.size ≤ B) (hC : w.heap.size ≤ C) :
    NumL ((((w2.setCell ⟨B, 0, none⟩ (.bool qn)).setCell ⟨B, 1, none⟩ qs).setCell ⟨C, 0, none⟩ (.bool rn)).setCell ⟨C, 1, none⟩ rs) (.agg #[.bool qn, qs]) q n ∧
    NumL ((((w2.setCell ⟨B, 0, none⟩ (.bool qn)).setCell ⟨B, 1, none⟩ qs).setCell ⟨C, 0, none⟩ (.bool rn)).setCell ⟨C, 1, none⟩ rs) (.agg #[.bool rn, rs]) r m ∧
    Below w.heap.size w ((((w2.setCell ⟨B, 0, none⟩ (.bool qn)).setCell ⟨B, 1, none⟩ qs).setCell ⟨C, 0, none⟩ (.bool rn)).setCell ⟨C, 1, none⟩ rs) := by
  have k1 : (w2.setCell ⟨B, 0, none⟩ (.bool qn)).cell? ⟨B, 1, none⟩ = some u1 := Eq.trans (World.cell?_setCell_other (h := fun e => by simp at e) ..) c1
  have k2 : ((w2.setCell ⟨B, 0, none⟩ (.bool qn)).setCell ⟨B, 1, none⟩ qs).cell? ⟨C, 0, none⟩ = some t0 := Eq.trans (World.cell?_setCell_other (h := fun e => by simp at e) ..) (Eq.trans (World.cell?_setCell_other (h := fun e => by simp at e) ..) d0)
  have k3 : (((w2.setCell ⟨B, 0, none⟩ (.bool qn)).setCell ⟨B, 1, none⟩ qs).setCell ⟨C, 0, none⟩ (.bool rn)).cell? ⟨C, 1, none⟩ = some t1 :=
    Eq.trans (World.cell?_setCell_other (h := fun e => by simp at e) ..) (Eq.trans (World.cell?_setCell_other (h := fun e => by simp at e) ..) (Eq.trans (World.cell?_setCell_other (h := fun e => by simp at e) ..) d1))
  exact ⟨(((hq.setCell c0 hu0).setCell k1 hu1).setCell k2 ht0).setCell k3 ht1, (((hr.setCell c0 hu0).setCell k1 hu1).setCell k2 ht0).setCell k3 ht1, (((hb.setCell (by exact hB) _).setCell (by exact hB) _).setCell (by exact hC) _).setCell (by exact hC) _⟩

end Go.Proofs.YtdedolkgcdlmeaaGreatDoor
