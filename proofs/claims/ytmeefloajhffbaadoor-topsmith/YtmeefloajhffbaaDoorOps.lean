/- Numbers: what is made of limbs and a sign. -/
import Derived.Test.YtmeefloajhffbaaDoorMul

namespace Go.Proofs.YtmeefloajhffbaaDoor
open Go.RowKit Limbs

/-- A value that is this number in this world, of at most so many limbs. -/
def NumL (w : World) (v : Value) (z : Int) (n : Nat) : Prop :=
  ∃ neg s zs, v = .agg #[.bool neg, s] ∧ Lim w s zs ∧ Nrm zs ∧ (zs.length = 0 → neg = false) ∧ z = (if neg = true then - lv zs else lv zs) ∧ zs.length ≤ n

def NumPost (w : World) (z : Int) (n : Nat) (e : Ending) (w' : World) : Prop :=
  ∃ r, e = .returned r ∧ NumL w' r z n ∧ Below w.heap.size w w'

theorem NumL.below {B : Nat} {w w' : World} {v : Value} {z : Int} {n : Nat} (h : NumL w v z n) (hb : Below B w w') (hB : w.heap.size ≤ B) : NumL w' v z n := by
  obtain ⟨neg, s, zs, h1, h2, h3⟩ := h
  exact ⟨neg, s, zs, h1, h2.below hb hB, h3⟩

theorem NumL.mono {w : World} {v : Value} {z : Int} {n m : Nat} (h : NumL w v z n) (hm : n ≤ m) : NumL w v z m := by
  obtain ⟨neg, s, zs, h1, h2, h3, h4, h5, h6⟩ := h
  exact ⟨neg, s, zs, h1, h2, h3, h4, h5, Nat.le_trans h6 hm⟩

set_option maxHeartbeats 400000 in
theorem signed_any (w : World) (neg : Bool) (v : Value) (zs : List Int) (n : Nat) (h : Lim w v zs) (hn : zs.length ≤ n) :
    Calls Tryd.prog 33 #[.bool neg, v] w fun e w' => NumPost w (if neg = true then - lv zs else lv zs) n e w' := by
  have HL : Hid (Lim w v zs) := h
  obtain ⟨ao, cap, rfl, hcap, hlen, hlb, hc⟩ := h
  clear hc
  go_enter Tryd.func33, Tryd.ntmps33
  go_wp2_with fail
  refine (trim_any _ _ _ zs (HL.out.below ((Below.refl _ _).alloc (Nat.le_refl _) _) (Nat.le_refl _))).mono ?_
  rintro e w' ⟨m, hm, rfl, hv, hnr, rfl⟩
  have HV : Hid (lv (zs.take m) = lv zs) := hv
  clear hv
  have hl : (zs.take m).length = m := by rw [List.length_take]; omega
  have HL2 := HL.out.take m hm
  cases neg
  · have HF : Hid (NumPost w (lv zs) n (.returned (.agg #[.bool false, .slice ao m cap])) (w.alloc (Obj.cells #[Value.bool false, .slice ao m cap] 26))) :=
      ⟨_, rfl, ⟨false, _, zs.take m, rfl, HL2.below ((Below.refl _ _).alloc (Nat.le_refl _) _) (Nat.le_refl _), hnr, fun _ => rfl, HV.out.symm, by omega⟩, (Below.refl _ _).alloc (Nat.le_refl _) _⟩
    go_wp2
    exact bodyPost_ret (v := .agg #[.bool false, .slice ao m cap]) (by simp [results, Tryd.results33, go_sem]) rfl HF.out
  · by_cases h0 : m = 0
    · subst h0
      have HF : Hid (NumPost w (-lv zs) n (.returned (.agg #[.bool false, .slice ao 0 cap])) (w.alloc (Obj.cells #[Value.bool false, .slice ao 0 cap] 26))) :=
        ⟨_, rfl, ⟨false, _, zs.take 0, rfl, HL2.below ((Below.refl _ _).alloc (Nat.le_refl _) _) (Nat.le_refl _), hnr, fun _ => rfl, by have := HV.out; simp [lv] at this ⊢; omega, by omega⟩, (Below.refl _ _).alloc (Nat.le_refl _) _⟩
      go_wp2
      exact bodyPost_ret (v := .agg #[.bool false, .slice ao 0 cap]) (by simp [results, Tryd.results33, go_sem]) rfl HF.out
    · have HF : Hid (NumPost w (-lv zs) n (.returned (.agg #[.bool true, .slice ao m cap])) (w.alloc (Obj.cells #[Value.bool true, .slice ao m cap] 26))) :=
        ⟨_, rfl, ⟨true, _, zs.take m, rfl, HL2.below ((Below.refl _ _).alloc (Nat.le_refl _) _) (Nat.le_refl _), hnr, fun h => absurd h (by omega), by rw [if_pos rfl, HV.out], by omega⟩, (Below.refl _ _).alloc (Nat.le_refl _) _⟩
      have hd : decide (0 < m) = true := by simp; omega
      go_wp2
      exact bodyPost_ret (v := .agg #[.bool true, .slice ao m cap]) (by simp [results, Tryd.results33, go_sem]) rfl HF.out

/-- Memory that is new. -/
def NewSl (w : World) (s : Value) : Prop := ∀ a l c, s = .slice (some a) l c → w.heap.size ≤ a.block

/-- A number whose limbs are new. -/
def IntPost (w : World) (x : Int) (n : Nat) (e : Ending) (w' : World) : Prop := NumPost w x n e w' ∧ ∀ neg s, e = .returned (.agg #[.bool neg, s]) → NewSl w s

theorem NumPost.below {w w0 : World} {z : Int} {n : Nat} {e : Ending} {w' : World} (h : NumPost w z n e w') (hb : Below w0.heap.size w0 w) : NumPost w0 z n e w' := by
  obtain ⟨r, h1, h2, h3⟩ := h
  exact ⟨r, h1, h2, hb.trans (h3.mono hb.size)⟩

/-- a number's sign and size -/
def sg (neg : Bool) (z : Int) : Int := if neg = true then - z else z

theorem Lim.setCell {w : World} {v : Value} {zs : List Int} (h : Lim w v zs) {p : Addr} {u x : Value} (hp : w.cell? p = some u) (hu : ∀ z, u ≠ .int .u32 z) : Lim (w.setCell p x) v zs := by
  obtain ⟨ao, cap, hv, h1, h2, h3, h4⟩ := h
  refine ⟨ao, cap, hv, h1, h2, h3, fun h0 => ?_⟩
  obtain ⟨b, off, e, hlt, hc⟩ := h4 h0
  refine ⟨b, off, e, by simpa using hlt, fun i hi => ?_⟩
  have hci := hc i hi
  refine Eq.trans (World.cell?_setCell_other (h := fun e => ?_) ..) hci
  rw [e, hci] at hp
  exact hu _ (Option.some.inj hp).symm

theorem NumL.setCell {w : World} {v : Value} {z : Int} {n : Nat} (h : NumL w v z n) {p : Addr} {u x : Value} (hp : w.cell? p = some u) (hu : ∀ z, u ≠ .int .u32 z) : NumL (w.setCell p x) v z n := by
  obtain ⟨neg, s, zs, h1, h2, h3⟩ := h
  exact ⟨neg, s, zs, h1, h2.setCell hp hu, h3⟩

/-- The result's own variable is written, and read. -/
theorem boxed {w w2 : World} {B : Nat} {z : Int} {n : Nat} {rn : Bool} {rs : Value} {u0 u1 : Value} (hr : NumL w2 (.agg #[.bool rn, rs]) z n) (c0 : w2.cell? ⟨B, 0, none⟩ = some u0) (c1 : w2.cell? ⟨B, 1, none⟩ = some u1) (hu0 : ∀ z, u0 ≠ .int .u32 z) (hu1 : ∀ z, u1 ≠ .int .u32 z) (hb : Below w.heap.size w w2) (hB : w.heap.size ≤ B) :
    NumPost w z n (.returned (.agg #[.bool rn, rs])) ((w2.setCell ⟨B, 0, none⟩ (.bool rn)).setCell ⟨B, 1, none⟩ rs) := by
  refine ⟨_, rfl, (hr.setCell c0 hu0).setCell (p := ⟨B, 1, none⟩) (u := u1) ?_ hu1, (hb.setCell (by exact hB) _).setCell (by exact hB) _⟩
  exact Eq.trans (World.cell?_setCell_other (h := fun e => by simp at e) ..) c1

/-- A struct's two cells in a block. -/
def Box (w : World) (B : Nat) (u0 u1 : Value) : Prop :=
  w.cell? ⟨B, 0, none⟩ = some u0 ∧ w.cell? ⟨B, 1, none⟩ = some u1 ∧ w.frozen? ⟨B, 0, none⟩ = false ∧ w.frozen? ⟨B, 1, none⟩ = false

theorem box_new (W : World) (u0 u1 : Value) (t : TypeId) (B : Nat) (hB : B = W.heap.size) : Box (W.alloc (.cells #[u0, u1] t)) B u0 u1 := by
  subst hB; simp [Box]

theorem Box.later {W w1 : World} {B C : Nat} {u0 u1 : Value} (h : Box W B u0 u1) (hb : Below C W w1) (hB : B < C) : Box w1 B u0 u1 := by
  obtain ⟨h1, h2, h3, h4⟩ := h
  exact ⟨(hb.cell (p := ⟨B, 0, none⟩) hB).trans h1, (hb.cell (p := ⟨B, 1, none⟩) hB).trans h2, (hb.frozen (p := ⟨B, 0, none⟩) hB).trans h3, (hb.frozen (p := ⟨B, 1, none⟩) hB).trans h4⟩

set_option maxHeartbeats 800000 in
theorem addSigned_any (w : World) (an : Bool) (va : Value) (a : List Int) (neg : Bool) (vb : Value) (b : List Int) (ha : Lim w va a) (hb : Lim w vb b) (na : Nrm a) (nb : Nrm b) (n : Nat) (hla : a.length ≤ n) (hlb : b.length ≤ n) (hn : n ≤ 900000) :
    Calls Tryd.prog 55 #[.agg #[.bool an, va], .bool neg, vb] w fun e w' => NumPost w (sg an (lv a) + sg neg (lv b)) (n + 1) e w' := by
  have HA : Hid (Lim w va a) := ha
  have HB : Hid (Lim w vb b) := hb
  obtain ⟨ao, acap, rfl, hacap, halen, halb, hac⟩ := ha
  obtain ⟨bo, bcap, rfl, hbcap, hblen, hblb, hbc⟩ := hb
  clear hac hbc
  have hbel : ∀ o1 o2, Below w.heap.size w ((w.alloc o1).alloc o2) := fun o1 o2 => ((Below.refl _ _).alloc (Nat.le_refl _) _).alloc (by simp) _
  by_cases hs : an = neg
  · subst hs
    go_enter Tryd.func55, Tryd.ntmps55
    go_wp2_with fail
    refine (addLimbs_any _ _ _ a b (HA.out.below (hbel _ _) (Nat.le_refl _)) (HB.out.below (hbel _ _) (Nat.le_refl _)) (by omega) (by omega)).mono ?_
    rintro e w1 ⟨v1, zs, rfl, hl1, hv1, hn1, hb1⟩
    go_wp2_with fail
    refine (signed_any _ _ _ zs (n + 1) hl1 (by omega)).mono ?_
    rintro e w2 ⟨r, rfl, hr, hb2⟩
    have hb12 := hb1.trans (hb2.mono hb1.size)
    have c0 : w2.cell? ⟨w.heap.size + 1, 0, none⟩ = some (.bool false) := (hb12.cell (p := ⟨w.heap.size + 1, 0, none⟩) (by simp)).trans (by simp)
    have c1 : w2.cell? ⟨w.heap.size + 1, 1, none⟩ = some (.slice none 0 0) := (hb12.cell (p := ⟨w.heap.size + 1, 1, none⟩) (by simp)).trans (by simp)
    have f0 : w2.frozen? ⟨w.heap.size + 1, 0, none⟩ = false := (hb12.frozen (p := ⟨w.heap.size + 1, 0, none⟩) (by simp)).trans (by simp)
    have f1 : w2.frozen? ⟨w.heap.size + 1, 1, none⟩ = false := (hb12.frozen (p := ⟨w.heap.size + 1, 1, none⟩) (by simp)).trans (by simp)
    have HR := hide hr
    obtain ⟨rn, rs, rz, rfl, hl, -⟩ := hr
    obtain ⟨ro, rcap, rfl, -⟩ := hl
    clear hl1
    have HV := hide hv1; clear hv1
    have e : (if an = true then -lv zs else lv zs) = sg an (lv a) + sg an (lv b) := by rw [HV.out]; unfold sg; split <;> omega
    rw [e] at HR
    have HF := hide (boxed (w := w) HR.out c0 c1 (by simp) (by simp) ((hbel _ _).trans (hb12.mono (by simp; omega))) (by simp))
    clear hb12 hb1 hb2 HR e
    go_wp2
    exact bodyPost_ret (v := .agg #[.bool rn, .slice ro rz.length rcap]) (by simp [results, Tryd.results55, go_sem, c0, c1]) rfl HF.out
  · have hs1 : (an == neg) = false := by simpa using hs
    have hs2 : neg = !an := by cases an <;> cases neg <;> simp_all
    subst hs2
    clear hs
    by_cases hlt : lv a < lv b
    · have hcm := hide (cmpI_lt hlt)
      go_enter Tryd.func55, Tryd.ntmps55
      go_wp2_with fail
      refine (compareLimbs_any _ _ _ a b (HA.out.below (hbel _ _) (Nat.le_refl _)) (HB.out.below (hbel _ _) (Nat.le_refl _)) na nb).mono ?_
      rintro e w0 ⟨rfl, hb0⟩
      rw [hcm.out]
      have q1 : w0.cell? ⟨w.heap.size, 1, none⟩ = some (.slice ao a.length acap) := (hb0.cell (p := ⟨w.heap.size, 1, none⟩) (by simp; omega)).trans (by simp)
      have hbw := (hbel _ _).trans (hb0.mono (by simp; omega))
      go_wp2_with fail
      refine (subLimbs_any _ _ _ b a (HB.out.below hbw (Nat.le_refl _)) (HA.out.below hbw (Nat.le_refl _)) na (by omega)).mono ?_
      rintro e w1 ⟨v1, zs, rfl, hl1, hv1, hn1, hb1⟩
      go_wp2_with fail
      refine (signed_any _ _ _ zs (n + 1) hl1 (by omega)).mono ?_
      rintro e w2 ⟨r, rfl, hr, hb2⟩
      have hb12 := hb0.trans ((hb1.trans (hb2.mono hb1.size)).mono hb0.size)
      have c0 : w2.cell? ⟨w.heap.size + 1, 0, none⟩ = some (.bool false) := (hb12.cell (p := ⟨w.heap.size + 1, 0, none⟩) (by simp)).trans (by simp)
      have c1 : w2.cell? ⟨w.heap.size + 1, 1, none⟩ = some (.slice none 0 0) := (hb12.cell (p := ⟨w.heap.size + 1, 1, none⟩) (by simp)).trans (by simp)
      have f0 : w2.frozen? ⟨w.heap.size + 1, 0, none⟩ = false := (hb12.frozen (p := ⟨w.heap.size + 1, 0, none⟩) (by simp)).trans (by simp)
      have f1 : w2.frozen? ⟨w.heap.size + 1, 1, none⟩ = false := (hb12.frozen (p := ⟨w.heap.size + 1, 1, none⟩) (by simp)).trans (by simp)
      have HR := hide hr
      obtain ⟨rn, rs, rz, rfl, hl, -⟩ := hr
      obtain ⟨ro, rcap, rfl, -⟩ := hl
      clear hl1
      have HV := hide hv1; clear hv1
      have e : (if (!an) = true then -lv zs else lv zs) = sg an (lv a) + sg (!an) (lv b) := by rw [HV.out]; unfold sg; cases an <;> simp <;> omega
      rw [e] at HR
      have HF := hide (boxed (w := w) HR.out c0 c1 (by simp) (by simp) ((hbel _ _).trans (hb12.mono (by simp; omega))) (by simp))
      clear hb12 hb1 hb2 HR e hbw hb0 q1
      go_wp2
      exact bodyPost_ret (v := .agg #[.bool rn, .slice ro rz.length rcap]) (by simp [results, Tryd.results55, go_sem, c0, c1]) rfl HF.out
    · have hcm : 0 ≤ cmpI (lv a) (lv b) := by unfold cmpI; rw [if_neg hlt]; split <;> decide
      go_enter Tryd.func55, Tryd.ntmps55
      go_wp2_with fail
      refine (compareLimbs_any _ _ _ a b (HA.out.below (hbel _ _) (Nat.le_refl _)) (HB.out.below (hbel _ _) (Nat.le_refl _)) na nb).mono ?_
      rintro e w0 ⟨rfl, hb0⟩
      generalize cmpI (lv a) (lv b) = cc at *
      have q0 : w0.cell? ⟨w.heap.size, 0, none⟩ = some (.bool an) := (hb0.cell (p := ⟨w.heap.size, 0, none⟩) (by simp; omega)).trans (by simp)
      have q1 : w0.cell? ⟨w.heap.size, 1, none⟩ = some (.slice ao a.length acap) := (hb0.cell (p := ⟨w.heap.size, 1, none⟩) (by simp; omega)).trans (by simp)
      have hbw := (hbel _ _).trans (hb0.mono (by simp; omega))
      have r0 : w0.cell? ⟨w.heap.size + 1, 0, none⟩ = some (.bool false) := (hb0.cell (p := ⟨w.heap.size + 1, 0, none⟩) (by simp)).trans (by simp)
      have r1 : w0.cell? ⟨w.heap.size + 1, 1, none⟩ = some (.slice none 0 0) := (hb0.cell (p := ⟨w.heap.size + 1, 1, none⟩) (by simp)).trans (by simp)
      have g0 : w0.frozen? ⟨w.heap.size + 1, 0, none⟩ = false := (hb0.frozen (p := ⟨w.heap.size + 1, 0, none⟩) (by simp)).trans (by simp)
      have g1 : w0.frozen? ⟨w.heap.size + 1, 1, none⟩ = false := (hb0.frozen (p := ⟨w.heap.size + 1, 1, none⟩) (by simp)).trans (by simp)
      have hz0 : w.heap.size + 1 < w0.heap.size := by have := hb0.size; simp at this; omega
      go_wp2_with fail
      go_region_held3 (fun w' => w'.cell? ⟨w.heap.size, 0, none⟩ = some (.bool an) ∧ w'.cell? ⟨w.heap.size, 1, none⟩ = some (.slice ao a.length acap)) (go_keep)
        (first
          | (go_at_call 45; refine (subLimbs_any _ _ _ a b (HA.out.below (by exact hbw.drew) (Nat.le_refl _)) (HB.out.below (by exact hbw.drew) (Nat.le_refl _)) nb (by omega)).mono ?_; rintro e w1 ⟨v1, zs, rfl, hl1, hv1, hn1, hb1⟩; have p0 : w1.cell? ⟨w.heap.size, 0, none⟩ = some (.bool an) := (hb1.cell (p := ⟨w.heap.size, 0, none⟩) (by simp; omega)).trans q0; have p1 : w1.cell? ⟨w.heap.size, 1, none⟩ = some (.slice ao a.length acap) := (hb1.cell (p := ⟨w.heap.size, 1, none⟩) (by simp; omega)).trans q1; have HV := hide hv1; clear hv1)
          | (go_at_call 33; refine (signed_any _ _ _ zs (n + 1) hl1 (by omega)).mono ?_; rintro e w2 ⟨r, rfl, hr, hb2⟩; have hb12 := hb1.trans (hb2.mono hb1.size); have p0' : w2.cell? ⟨w.heap.size, 0, none⟩ = some (.bool an) := (hb12.cell (p := ⟨w.heap.size, 0, none⟩) (by simp; omega)).trans q0; have p1' : w2.cell? ⟨w.heap.size, 1, none⟩ = some (.slice ao a.length acap) := (hb12.cell (p := ⟨w.heap.size, 1, none⟩) (by simp; omega)).trans q1; have c0 : w2.cell? ⟨w.heap.size + 1, 0, none⟩ = some (.bool false) := (hb12.cell (p := ⟨w.heap.size + 1, 0, none⟩) (by simp; omega)).trans r0; have c1 : w2.cell? ⟨w.heap.size + 1, 1, none⟩ = some (.slice none 0 0) := (hb12.cell (p := ⟨w.heap.size + 1, 1, none⟩) (by simp; omega)).trans r1; have f0 : w2.frozen? ⟨w.heap.size + 1, 0, none⟩ = false := (hb12.frozen (p := ⟨w.heap.size + 1, 0, none⟩) (by simp; omega)).trans g0; have f1 : w2.frozen? ⟨w.heap.size + 1, 1, none⟩ = false := (hb12.frozen (p := ⟨w.heap.size + 1, 1, none⟩) (by simp; omega)).trans g1; have HR := hide hr; obtain ⟨rn, rs, rz, rfl, hl, -⟩ := hr; obtain ⟨ro, rcap, rfl, -⟩ := hl))
      have e : (if an = true then -lv zs else lv zs) = sg an (lv a) + sg (!an) (lv b) := by rw [HV.out]; unfold sg; cases an <;> simp <;> omega
      rw [e] at HR
      have HF := hide (boxed (w := w) HR.out c0 c1 (by simp) (by simp) (hbw.trans ((show Below w0.heap.size w0 w2 from ⟨hb12.os, hb12.tape, hb12.output, hb12.size, hb12.block⟩).mono (by omega))) (by simp))
      clear hb12 hb1 hb2 HR e hbw hb0
      go_wp2
      exact bodyPost_ret (v := .agg #[.bool rn, .slice ro rz.length rcap]) (by simp [results, Tryd.results55, go_sem, c0, c1]) rfl HF.out

set_option maxHeartbeats 800000 in
theorem add_any (w : World) (va vb : Value) (x y : Int) (n : Nat) (ha : NumL w va x n) (hb : NumL w vb y n) (hn : n ≤ 900000) :
    Calls Tryd.prog 37 #[va, vb] w fun e w' => NumPost w (x + y) (n + 1) e w' := by
  obtain ⟨an, sa, a, rfl, hla, nra, -, hx, hna⟩ := ha
  obtain ⟨bn, sb, b, rfl, hlb, nrb, -, hy, hnb⟩ := hb
  have HA := hide hla
  have HB := hide hlb
  obtain ⟨ao, acap, rfl, -⟩ := hla
  obtain ⟨bo, bcap, rfl, -⟩ := hlb
  have hbel : ∀ o1 o2 o3, Below w.heap.size w (((w.alloc o1).alloc o2).alloc o3) := fun o1 o2 o3 => (((Below.refl _ _).alloc (Nat.le_refl _) _).alloc (by simp) _).alloc (by simp; omega) _
  have HX := hide hx; clear hx
  have HY := hide hy; clear hy
  go_enter Tryd.func37, Tryd.ntmps37
  go_wp2_with fail
  refine (addSigned_any _ _ _ a _ _ b (HA.out.below (hbel _ _ _) (Nat.le_refl _)) (HB.out.below (hbel _ _ _) (Nat.le_refl _)) nra nrb n hna hnb hn).mono ?_
  rintro e w2 ⟨r, rfl, hr, hb2⟩
  obtain ⟨c0, c1, f0, f1⟩ := (box_new _ _ _ _ (w.heap.size + 2) (by simp)).later hb2 (by simp)
  have HR := hide hr
  obtain ⟨rn, rs, rz, rfl, hl, -⟩ := hr
  obtain ⟨ro, rcap, rfl, -⟩ := hl
  have e : sg an (lv a) + sg bn (lv b) = x + y := by rw [HX.out, HY.out]; rfl
  rw [e] at HR
  have HF := hide (boxed (w := w) HR.out c0 c1 (by simp) (by simp) ((hbel _ _ _).trans (hb2.mono (by simp; omega))) (by simp))
  clear hb2 HR e
  go_wp2
  exact bodyPost_ret (v := .agg #[.bool rn, .slice ro rz.length rcap]) (by simp [results, Tryd.results37, go_sem, c0, c1]) rfl HF.out

end Go.Proofs.YtmeefloajhffbaaDoor

/- Products, the order of numbers, numbers of 64 bits, nought. -/
namespace Go.Proofs.YtmeefloajhffbaaDoor
open Go.RowKit Limbs

theorem Box.drew {w : World} {B : Nat} {u0 u1 : Value} (h : Box w B u0 u1) : Box w.drew B u0 u1 := h

/-- Two structs came in, and the result's own variable: three new blocks. -/
structure Three (w W : World) (a0 a1 b0 b1 r0 r1 : Value) : Prop where
  fst : Box W w.heap.size a0 a1
  snd : Box W (w.heap.size + 1) b0 b1
  res : Box W (w.heap.size + 2) r0 r1
  below : Below w.heap.size w W
  size : w.heap.size + 2 < W.heap.size

theorem three (w : World) (a0 a1 b0 b1 r0 r1 : Value) (t1 t2 t3 : TypeId) : Three w (((w.alloc (.cells #[a0, a1] t1)).alloc (.cells #[b0, b1] t2)).alloc (.cells #[r0, r1] t3)) a0 a1 b0 b1 r0 r1 where
  fst := (box_new w _ _ _ _ rfl).later (((Below.refl _ _).alloc (by simp) _).alloc (by simp) _ : Below (w.heap.size + 1) _ _) (by omega)
  snd := (box_new (w.alloc _) _ _ _ _ (by simp)).later ((Below.refl _ _).alloc (by simp) _ : Below (w.heap.size + 2) _ _) (by omega)
  res := box_new _ _ _ _ _ (by simp)
  below := (((Below.refl _ _).alloc (Nat.le_refl _) _).alloc (by simp) _).alloc (by simp; omega) _
  size := by simp

theorem Three.later {w W W' : World} {a0 a1 b0 b1 r0 r1 : Value} (h : Three w W a0 a1 b0 b1 r0 r1) (hb : Below W.heap.size W W') : Three w W' a0 a1 b0 b1 r0 r1 where
  fst := h.fst.later hb (by have := h.size; omega)
  snd := h.snd.later hb (by have := h.size; omega)
  res := h.res.later hb h.size
  below := h.below.trans (hb.mono h.below.size)
  size := Nat.lt_of_lt_of_le h.size hb.size

theorem Three.drew {w W : World} {a0 a1 b0 b1 r0 r1 : Value} (h : Three w W a0 a1 b0 b1 r0 r1) : Three w W.drew a0 a1 b0 b1 r0 r1 := ⟨h.fst, h.snd, h.res, h.below.drew, h.size⟩

theorem sg_mul (an bn : Bool) (p q : Int) : (if (!(an == bn)) = true then -(p * q) else p * q) = sg an p * sg bn q := by
  unfold sg
  cases an <;> cases bn <;> simp [Int.neg_mul, Int.mul_neg]

set_option maxHeartbeats 800000 in
theorem mul_any (w : World) (va vb : Value) (x y : Int) (n m : Nat) (ha : NumL w va x n) (hb : NumL w vb y m) (hn : n ≤ 400000) (hm : m ≤ 400000) :
    Calls Tryd.prog 13 #[va, vb] w fun e w' => NumPost w (x * y) (n + m) e w' := by
  obtain ⟨an, sa, a, rfl, hla, nra, -, hx, hna⟩ := ha
  obtain ⟨bn, sb, b, rfl, hlb, nrb, -, hy, hnb⟩ := hb
  have HA := hide hla
  have HB := hide hlb
  obtain ⟨ao, acap, rfl, -⟩ := hla
  obtain ⟨bo, bcap, rfl, -⟩ := hlb
  have HX := hide hx; clear hx
  have HY := hide hy; clear hy
  go_enter Tryd.func13, Tryd.ntmps13
  go_wp2_with fail
  have hT := three w (.bool an) (.slice ao a.length acap) (.bool bn) (.slice bo b.length bcap) (.bool false) (.slice none 0 0) 26 26 26
  generalize ((w.alloc (.cells #[.bool an, .slice ao a.length acap] 26)).alloc (.cells #[.bool bn, .slice bo b.length bcap] 26)).alloc (.cells #[.bool false, .slice none 0 0] 26) = W at *
  obtain ⟨k0, k1, -, -⟩ := hT.fst
  obtain ⟨l0, l1, -, -⟩ := hT.snd
  have hn2 : ¬ (w.heap.size + 1 + 1 = w.heap.size) := by omega
  have hn3 : ¬ (w.heap.size = w.heap.size + 1 + 1) := by omega
  go_region_held3 (fun w' => w'.cell? ⟨w.heap.size, 0, none⟩ = some (.bool an) ∧ w'.cell? ⟨w.heap.size, 1, none⟩ = some (.slice ao a.length acap) ∧ w'.cell? ⟨w.heap.size + 1, 0, none⟩ = some (.bool bn) ∧ w'.cell? ⟨w.heap.size + 1, 1, none⟩ = some (.slice bo b.length bcap)) (go_keep)
    (first
      | (go_at_call 34; refine (mulLimbs_any _ _ _ a b (HA.out.below (by exact hT.below.drew) (Nat.le_refl _)) (HB.out.below (by exact hT.below.drew) (Nat.le_refl _)) (by omega) (by omega)).mono ?_; rintro e w1 ⟨v1, zs, rfl, hl1, hv1, hn1, hb1⟩; have HV := hide hv1; clear hv1; have hT1 := hT.drew.later hb1; obtain ⟨p0, p1, -, -⟩ := hT1.fst; obtain ⟨q0, q1, -, -⟩ := hT1.snd)
      | (go_at_call 33; refine (signed_any _ _ _ zs (n + m) hl1 (by omega)).mono ?_; rintro e w2 ⟨r, rfl, hr, hb2⟩; have hT2 := hT1.later hb2; obtain ⟨p0', p1', -, -⟩ := hT2.fst; obtain ⟨q0', q1', -, -⟩ := hT2.snd; obtain ⟨c0, c1, f0, f1⟩ := hT2.res; have HR := hide hr; obtain ⟨rn, rs, rz, rfl, hl, -⟩ := hr; obtain ⟨ro, rcap, rfl, -⟩ := hl))
  have e : (if (!(an == bn)) = true then -lv zs else lv zs) = x * y := by rw [HV.out, sg_mul, HX.out, HY.out]; rfl
  rw [e] at HR
  have HF := hide (boxed (w := w) HR.out c0 c1 (by simp) (by simp) hT2.below (by omega))
  clear hT hT1 hT2 hb1 hb2 HR e
  go_wp2
  exact bodyPost_ret (v := .agg #[.bool rn, .slice ro rz.length rcap]) (by simp [results, Tryd.results13, go_sem, c0, c1]) rfl HF.out

theorem zero_any (w : World) (va : Value) (x : Int) (n : Nat) (ha : NumL w va x n) :
    Calls Tryd.prog 11 #[va] w fun e w' => e = .returned (.bool (decide (x = 0))) ∧ Below w.heap.size w w' := by
  obtain ⟨an, sa, a, rfl, hla, nra, hz, hx, hna⟩ := ha
  obtain ⟨ao, acap, rfl, -, hlen, hlb, -⟩ := hla
  have e : decide (x = 0) = decide (a.length = 0) := by
    rw [decide_eq_decide, ← lv_zero_iff hlb nra, hx]
    split <;> omega
  rw [e]
  clear hx e
  by_cases h0 : a.length = 0
  · have h1 : ((a.length : Int) == 0) = true := by simp [h0]
    rw [decide_eq_true h0]
    clear h0
    go_enter Tryd.func11, Tryd.ntmps11
    go_wp2
    go_ret
    exact ⟨rfl, (Below.refl _ _).alloc (Nat.le_refl _) _⟩
  · have h1 : ((a.length : Int) == 0) = false := by rw [beq_eq_false_iff_ne]; omega
    rw [decide_eq_false h0]
    go_enter Tryd.func11, Tryd.ntmps11
    go_wp2
    go_ret
    exact ⟨rfl, (Below.refl _ _).alloc (Nat.le_refl _) _⟩

theorem lv_pos {zs : List Int} (h : LB zs) (hn : Nrm zs) (h0 : zs.length ≠ 0) : 0 < lv zs := by
  have h1 := lv_nonneg h
  have h2 := lv_zero_iff h hn
  by_cases e : lv zs = 0
  · exact absurd (h2.1 e) h0
  · omega

theorem cmpI_neg (a b : Int) : cmpI b a = cmpI (-a) (-b) := by
  unfold cmpI
  repeat' split
  all_goals omega

set_option maxHeartbeats 800000 in
theorem compare_any (w : World) (va vb : Value) (x y : Int) (n m : Nat) (ha : NumL w va x n) (hb : NumL w vb y m) :
    Calls Tryd.prog 20 #[va, vb] w fun e w' => CmpPost w (cmpI x y) e w' := by
  obtain ⟨an, sa, a, rfl, hla, nra, hza, hx, -⟩ := ha
  obtain ⟨bn, sb, b, rfl, hlb, nrb, hzb, hy, -⟩ := hb
  have HA := hide hla
  have HB := hide hlb
  obtain ⟨ao, acap, rfl, -, -, halb, -⟩ := hla
  obtain ⟨bo, bcap, rfl, -, -, hblb, -⟩ := hlb
  have hpa := lv_pos halb nra
  have hpb := lv_pos hblb nrb
  have hqa := lv_nonneg halb
  have hqb := lv_nonneg hblb
  have hbel : ∀ o1 o2, Below w.heap.size w ((w.alloc o1).alloc o2) := fun o1 o2 => ((Below.refl _ _).alloc (Nat.le_refl _) _).alloc (by simp) _
  cases an <;> cases bn
  · have HX : Hid (cmpI (lv a) (lv b) = cmpI x y) := by show _ = _; rw [hx, hy]; rfl
    clear hx hy hza hzb hpa hpb
    go_enter Tryd.func20, Tryd.ntmps20
    go_wp2_with fail
    refine (compareLimbs_any _ _ _ a b (HA.out.below (hbel _ _) (Nat.le_refl _)) (HB.out.below (hbel _ _) (Nat.le_refl _)) nra nrb).mono ?_
    rintro e w2 ⟨rfl, hb2⟩
    go_wp2
    go_ret
    exact ⟨ret_i64 HX.out, (hbel _ _).trans (hb2.mono (by simp; omega))⟩
  · have HX : Hid (1 = cmpI x y) := by
      have : 0 < lv b := hpb (fun h => by have := hzb h; simp at this)
      show _ = _; rw [cmpI_gt]; rw [hx, hy]; simp; omega
    clear hx hy hza hzb hpa hpb
    go_enter Tryd.func20, Tryd.ntmps20
    go_wp2
    go_ret
    exact ⟨ret_i64 HX.out, hbel _ _⟩
  · have HX : Hid (-1 = cmpI x y) := by
      have : 0 < lv a := hpa (fun h => by have := hza h; simp at this)
      show _ = _; rw [cmpI_lt]; rw [hx, hy]; simp; omega
    clear hx hy hza hzb hpa hpb
    go_enter Tryd.func20, Tryd.ntmps20
    go_wp2
    go_ret
    exact ⟨ret_i64 HX.out, hbel _ _⟩
  · have HX : Hid (cmpI (lv b) (lv a) = cmpI x y) := by show _ = _; rw [hx, hy]; exact cmpI_neg _ _
    clear hx hy hza hzb hpa hpb
    go_enter Tryd.func20, Tryd.ntmps20
    go_wp2_with fail
    refine (compareLimbs_any _ _ _ b a (HB.out.below (hbel _ _) (Nat.le_refl _)) (HA.out.below (hbel _ _) (Nat.le_refl _)) nrb nra).mono ?_
    rintro e w2 ⟨rfl, hb2⟩
    go_wp2
    go_ret
    exact ⟨ret_i64 HX.out, (hbel _ _).trans (hb2.mono (by simp; omega))⟩

end Go.Proofs.YtmeefloajhffbaaDoor
