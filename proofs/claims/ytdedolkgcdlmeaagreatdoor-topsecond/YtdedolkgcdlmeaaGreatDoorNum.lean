/- Numbers: what is made of limbs and a sign. -/
import Derived.Test.YtdedolkgcdlmeaaGreatDoorMul
namespace Go.Proofs.YtdedolkgcdlmeaaGreatDoor
open Go.RowKit Limbs

/-- A value that is this number in this world, of at most so many limbs. -/
def NumL (w : World) (v : Value) (z : Int) (n : Nat) : Prop :=
  ∃ neg s zs, v = .agg #[.bool neg, s] ∧ Lim w s zs ∧ Nrm zs ∧ (zs.length = 0 → neg = false) ∧ z = (if neg = true then - lv zs else lv zs) ∧ zs.length ≤ n

def NumPost (w : World) (z : Int) (n : Nat) (e : Ending) (w' : World) : Prop :=
  ∃ r, e = .returned r ∧ NumL w' r z n ∧ Below w.heap.size w w'

theorem NumL.below {B : Nat} {w w' : World} {v : Value} {z : Int} {n : Nat} (h : NumL w v z n) (hb : Below B w w') (hB : w.heap.size ≤ B) : NumL w' v z n := by
  obtain ⟨neg, s, zs, h1, h2, h3⟩ := h
  exact ⟨neg, s, zs, h1, h2.below hb hB, h3⟩

theorem NumL.mono {w : World} {v : Value} {z : Int} {n m : Nat} (h : NumL w v z n) (hm : n ≤ m) : NumL w v z m := by
  obtain ⟨neg, s, zs, h1, h2, h3, h4, h5, h6⟩ := h
  exact ⟨neg, s, zs, h1, h2, h3, h4, h5, Nat.le_trans h6 hm⟩

set_option maxHeartbeats 400000 in
theorem signed_any (w : World) (neg : Bool) (v : Value) (zs : List Int) (n : Nat) (h : Lim w v zs) (hn : zs.length ≤ n) :
    Calls Tryz.prog 95 #[.bool neg, v] w fun e w' => NumPost w (if neg = true then - lv zs else lv zs) n e w' := by
  have HL : Hid (Lim w v zs) := h
  obtain ⟨ao, cap, rfl, hcap, hlen, hlb, hc⟩ := h
  clear hc
  go_enter Tryz.func95, Tryz.ntmps95
  go_wp2_with fail
  refine (trim_any _ _ _ zs (HL.out.below ((Below.refl _ _).alloc (Nat.le_refl _) _) (Nat.le_refl _))).mono ?_
  rintro e w' ⟨m, hm, rfl, hv, hnr, rfl⟩
  have HV : Hid (lv (zs.take m) = lv zs) := hv
  clear hv
  have hl : (zs.take m).length = m := by rw [List.length_take]; omega
  have HL2 := HL.out.take m hm
  cases neg
  · have HF : Hid (NumPost w (lv zs) n (.returned (.agg #[.bool false, .slice ao m cap])) (w.alloc (Obj.cells #[Value.bool false, .slice ao m cap] 29))) :=
      ⟨_, rfl, ⟨false, _, zs.take m, rfl, HL2.below ((Below.refl _ _).alloc (Nat.le_refl _) _) (Nat.le_refl _), hnr, fun _ => rfl, HV.out.symm, by omega⟩, (Below.refl _ _).alloc (Nat.le_refl _) _⟩
    go_wp2
    exact bodyPost_ret (v := .agg #[.bool false, .slice ao m cap]) (by simp [results, Tryz.results95, go_sem]) rfl HF.out
  · by_cases h0 : m = 0
    · subst h0
      have HF : Hid (NumPost w (-lv zs) n (.returned (.agg #[.bool false, .slice ao 0 cap])) (w.alloc (Obj.cells #[Value.bool false, .slice ao 0 cap] 29))) :=
        ⟨_, rfl, ⟨false, _, zs.take 0, rfl, HL2.below ((Below.refl _ _).alloc (Nat.le_refl _) _) (Nat.le_refl _), hnr, fun _ => rfl, by have := HV.out; simp [lv] at this ⊢; omega, by omega⟩, (Below.refl _ _).alloc (Nat.le_refl _) _⟩
      go_wp2
      exact bodyPost_ret (v := .agg #[.bool false, .slice ao 0 cap]) (by simp [results, Tryz.results95, go_sem]) rfl HF.out
    · have HF : Hid (NumPost w (-lv zs) n (.returned (.agg #[.bool true, .slice ao m cap])) (w.alloc (Obj.cells #[Value.bool true, .slice ao m cap] 29))) :=
        ⟨_, rfl, ⟨true, _, zs.take m, rfl, HL2.below ((Below.refl _ _).alloc (Nat.le_refl _) _) (Nat.le_refl _), hnr, fun h => absurd h (by omega), by rw [if_pos rfl, HV.out], by omega⟩, (Below.refl _ _).alloc (Nat.le_refl _) _⟩
      have hd : decide (0 < m) = true := by simp; omega
      go_wp2
      exact bodyPost_ret (v := .agg #[.bool true, .slice ao m cap]) (by simp [results, Tryz.results95, go_sem]) rfl HF.out

/-- Memory that is new. -/
def NewSl (w : World) (s : Value) : Prop := ∀ a l c, s = .slice (some a) l c → w.heap.size ≤ a.block

/-- A number whose limbs are new. -/
def IntPost (w : World) (x : Int) (n : Nat) (e : Ending) (w' : World) : Prop := NumPost w x n e w' ∧ ∀ neg s, e = .returned (.agg #[.bool neg, s]) → NewSl w s

theorem NumPost.below {w w0 : World} {z : Int} {n : Nat} {e : Ending} {w' : World} (h : NumPost w z n e w') (hb : Below w0.heap.size w0 w) : NumPost w0 z n e w' := by
  obtain ⟨r, h1, h2, h3⟩ := h
  exact ⟨r, h1, h2, hb.trans (h3.mono hb.size)⟩

/-- a number's sign and size -/
def sg (neg : Bool) (z : Int) : Int := if neg = true then - z else z

theorem Lim.setCell {w : World} {v : Value} {zs : List Int} (h : Lim w v zs) {p : Addr} {u x : Value} (hp : w.cell? p = some u) (hu : ∀ z, u ≠ .int .u32 z) : Lim (w.setCell p x) v zs := by
  obtain ⟨ao, cap, hv, h1, h2, h3, h4⟩ := h
  refine ⟨ao, cap, hv, h1, h2, h3, fun h0 => ?_⟩
  obtain ⟨b, off, e, hlt, hc⟩ := h4 h0
  refine ⟨b, off, e, by simpa using hlt, fun i hi => ?_⟩
  have hci := hc i hi
  refine Eq.trans (World.cell?_setCell_other (h := fun e => ?_) ..) hci
  rw [e, hci] at hp
  exact hu _ (Option.some.inj hp).symm

theorem NumL.setCell {w : World} {v : Value} {z : Int} {n : Nat} (h : NumL w v z n) {p : Addr} {u x : Value} (hp : w.cell? p = some u) (hu : ∀ z, u ≠ .int .u32 z) : NumL (w.setCell p x) v z n := by
  obtain ⟨neg, s, zs, h1, h2, h3⟩ := h
  exact ⟨neg, s, zs, h1, h2.setCell hp hu, h3⟩

/-- The result's own variable is written, and read. -/
theorem boxed {w w2 : World} {B : Nat} {z : Int} {n : Nat} {rn : Bool} {rs : Value} {u0 u1 : Value} (hr : NumL w2 (.agg #[.bool rn, rs]) z n) (c0 : w2.cell? ⟨B, 0, none⟩ = some u0) (c1 : w2.cell? ⟨B, 1, none⟩ = some u1) (hu0 : ∀ z, u0 ≠ .int .u32 z) (hu1 : ∀ z, u1 ≠ .int .u32 z) (hb : Below w.heap.size w w2) (hB : w.heap.size ≤ B) :
    NumPost w z n (.returned (.agg #[.bool rn, rs])) ((w2.setCell ⟨B, 0, none⟩ (.bool rn)).setCell ⟨B, 1, none⟩ rs) := by
  refine ⟨_, rfl, (hr.setCell c0 hu0).setCell (p := ⟨B, 1, none⟩) (u := u1) ?_ hu1, (hb.setCell (by exact hB) _).setCell (by exact hB) _⟩
  exact Eq.trans (World.cell?_setCell_other (h := fun e => by simp at e) ..) c1

/-- A struct's two cells in a block. -/
def Box (w : World) (B : Nat) (u0 u1 : Value) : Prop :=
  w.cell? ⟨B, 0, none⟩ = some u0 ∧ w.cell? ⟨B, 1, none⟩ = some u1 ∧ w.frozen? ⟨B, 0, none⟩ = false ∧ w.frozen? ⟨B, 1, none⟩ = false

theorem box_new (W : World) (u0 u1 : Value) (t : TypeId) (B : Nat) (hB : B = W.heap.size) : Box (W.alloc (.cells #[u0, u1] t)) B u0 u1 := by
  subst hB; simp [Box]

theorem Box.later {W w1 : World} {B C : Nat} {u0 u1 : Value} (h : Box W B u0 u1) (hb : Below C W w1) (hB : B < C) : Box w1 B u0 u1 := by
  obtain ⟨h1, h2, h3, h4⟩ := h
  exact ⟨(hb.cell (p := ⟨B, 0, none⟩) hB).trans h1, (hb.cell (p := ⟨B, 1, none⟩) hB).trans h2, (hb.frozen (p := ⟨B, 0, none⟩) hB).trans h3, (hb.frozen (p := ⟨B, 1, none⟩) hB).trans h4⟩

set_option maxHeartbeats 800000 in
theorem addSigned_any (w : World) (an : Bool) (va : Value) (a : List Int) (neg : Bool) (vb : Value) (b : List Int) (ha : Lim w va a) (hb : Lim w vb b) (na : Nrm a) (nb : Nrm b) (n : Nat) (hla : a.length ≤ n) (hlb : b.length ≤ n) (hn : n ≤ 900000) :
    Calls Tryz.prog 125 #[.agg #[.bool an, va], .bool neg, vb] w fun e w' => NumPost w (sg an (lv a) + sg neg (lv b)) (n + 1) e w' := by
  have HA : Hid (Lim w va a) := ha
  have HB : Hid (Lim w vb b) := hb
  obtain ⟨ao, acap, rfl, hacap, halen, halb, hac⟩ := ha
  obtain ⟨bo, bcap, rfl, hbcap, hblen, hblb, hbc⟩ := hb
  clear hac hbc
  have hbel : ∀ o1 o2, Below w.heap.size w ((w.alloc o1).alloc o2) := fun o1 o2 => ((Below.refl _ _).alloc (Nat.le_refl _) _).alloc (by simp) _
  by_cases hs : an = neg
  · subst hs
    go_enter Tryz.func125, Tryz.ntmps125
    go_wp2_with fail
    refine (addLimbs_any _ _ _ a b (HA.out.below (hbel _ _) (Nat.le_refl _)) (HB.out.below (hbel _ _) (Nat.le_refl _)) (by omega) (by omega)).mono ?_
    rintro e w1 ⟨v1, zs, rfl, hl1, hv1, hn1, hb1⟩
    go_wp2_with fail
    refine (signed_any _ _ _ zs (n + 1) hl1 (by omega)).mono ?_
    rintro e w2 ⟨r, rfl, hr, hb2⟩
    have hb12 := hb1.trans (hb2.mono hb1.size)
    have c0 : w2.cell? ⟨w.heap.size + 1, 0, none⟩ = some (.bool false) := (hb12.cell (p := ⟨w.heap.size + 1, 0, none⟩) (by simp)).trans (by simp)
    have c1 : w2.cell? ⟨w.heap.size + 1, 1, none⟩ = some (.slice none 0 0) := (hb12.cell (p := ⟨w.heap.size + 1, 1, none⟩) (by simp)).trans (by simp)
    have f0 : w2.frozen? ⟨w.heap.size + 1, 0, none⟩ = false := (hb12.frozen (p := ⟨w.heap.size + 1, 0, none⟩) (by simp)).trans (by simp)
    have f1 : w2.frozen? ⟨w.heap.size + 1, 1, none⟩ = false := (hb12.frozen (p := ⟨w.heap.size + 1, 1, none⟩) (by simp)).trans (by simp)
    have HR := hide hr
    obtain ⟨rn, rs, rz, rfl, hl, -⟩ := hr
    obtain ⟨ro, rcap, rfl, -⟩ := hl
    clear hl1
    have HV := hide hv1; clear hv1
    have e : (if an = true then -lv zs else lv zs) = sg an (lv a) + sg an (lv b) := by rw [HV.out]; unfold sg; split <;> omega
    rw [e] at HR
    have HF := hide (boxed (w := w) HR.out c0 c1 (by simp) (by simp) ((hbel _ _).trans (hb12.mono (by simp; omega))) (by simp))
    clear hb12 hb1 hb2 HR e
    go_wp2
    exact bodyPost_ret (v := .agg #[.bool rn, .slice ro rz.length rcap]) (by simp [results, Tryz.results125, go_sem, c0, c1]) rfl HF.out
  · have hs1 : (an == neg) = false := by simpa using hs
    have hs2 : neg = !an := by cases an <;> cases neg <;> simp_all
    subst hs2
    clear hs
    by_cases hlt : lv a < lv b
    · have hcm := hide (cmpI_lt hlt)
      go_enter Tryz.func125, Tryz.ntmps125
      go_wp2_with fail
      refine (compareLimbs_any _ _ _ a b (HA.out.below (hbel _ _) (Nat.le_refl _)) (HB.out.below (hbel _ _) (Nat.le_refl _)) na nb).mono ?_
      rintro e w0 ⟨rfl, hb0⟩
      rw [hcm.out]
      have q1 : w0.cell? ⟨w.heap.size, 1, none⟩ = some (.slice ao a.length acap) := (hb0.cell (p := ⟨w.heap.size, 1, none⟩) (by simp; omega)).trans (by simp)
      have hbw := (hbel _ _).trans (hb0.mono (by simp; omega))
      go_wp2_with fail
      refine (subLimbs_any _ _ _ b a (HB.out.below hbw (Nat.le_refl _)) (HA.out.below hbw (Nat.le_refl _)) na (by omega)).mono ?_
      rintro e w1 ⟨v1, zs, rfl, hl1, hv1, hn1, hb1⟩
      go_wp2_with fail
      refine (signed_any _ _ _ zs (n + 1) hl1 (by omega)).mono ?_
      rintro e w2 ⟨r, rfl, hr, hb2⟩
      have hb12 := hb0.trans ((hb1.trans (hb2.mono hb1.size)).mono hb0.size)
      have c0 : w2.cell? ⟨w.heap.size + 1, 0, none⟩ = some (.bool false) := (hb12.cell (p := ⟨w.heap.size + 1, 0, none⟩) (by simp)).trans (by simp)
      have c1 : w2.cell? ⟨w.heap.size + 1, 1, none⟩ = some (.slice none 0 0) := (hb12.cell (p := ⟨w.heap.size + 1, 1, none⟩) (by simp)).trans (by simp)
      have f0 : w2.frozen? ⟨w.heap.size + 1, 0, none⟩ = false := (hb12.frozen (p := ⟨w.heap.size + 1, 0, none⟩) (by simp)).trans (by simp)
      have f1 : w2.frozen? ⟨w.heap.size + 1, 1, none⟩ = false := (hb12.frozen (p := ⟨w.heap.size + 1, 1, none⟩) (by simp)).trans (by simp)
      have HR := hide hr
      obtain ⟨rn, rs, rz, rfl, hl, -⟩ := hr
      obtain ⟨ro, rcap, rfl, -⟩ := hl
      clear hl1
      have HV := hide hv1; clear hv1
      have e : (if (!an) = true then -lv zs else lv zs) = sg an (lv a) + sg (!an) (lv b) := by rw [HV.out]; unfold sg; cases an <;> simp <;> omega
      rw [e] at HR
      have HF := hide (boxed (w := w) HR.out c0 c1 (by simp) (by simp) ((hbel _ _).trans (hb12.mono (by simp; omega))) (by simp))
      clear hb12 hb1 hb2 HR e hbw hb0 q1
      go_wp2
      exact bodyPost_ret (v := .agg #[.bool rn, .slice ro rz.length rcap]) (by simp [results, Tryz.results125, go_sem, c0, c1]) rfl HF.out
    · have hcm : 0 ≤ cmpI (lv a) (lv b) := by unfold cmpI; rw [if_neg hlt]; split <;> decide
      go_enter Tryz.func125, Tryz.ntmps125
      go_wp2_with fail
      refine (compareLimbs_any _ _ _ a b (HA.out.below (hbel _ _) (Nat.le_refl _)) (HB.out.below (hbel _ _) (Nat.le_refl _)) na nb).mono ?_
      rintro e w0 ⟨rfl, hb0⟩
      generalize cmpI (lv a) (lv b) = cc at *
      have q0 : w0.cell? ⟨w.heap.size, 0, none⟩ = some (.bool an) := (hb0.cell (p := ⟨w.heap.size, 0, none⟩) (by simp; omega)).trans (by simp)
      have q1 : w0.cell? ⟨w.heap.size, 1, none⟩ = some (.slice ao a.length acap) := (hb0.cell (p := ⟨w.heap.size, 1, none⟩) (by simp; omega)).trans (by simp)
      have hbw := (hbel _ _).trans (hb0.mono (by simp; omega))
      have r0 : w0.cell? ⟨w.heap.size + 1, 0, none⟩ = some (.bool false) := (hb0.cell (p := ⟨w.heap.size + 1, 0, none⟩) (by simp)).trans (by simp)
      have r1 : w0.cell? ⟨w.heap.size + 1, 1, none⟩ = some (.slice none 0 0) := (hb0.cell (p := ⟨w.heap.size + 1, 1, none⟩) (by simp)).trans (by simp)
      have g0 : w0.frozen? ⟨w.heap.size + 1, 0, none⟩ = false := (hb0.frozen (p := ⟨w.heap.size + 1, 0, none⟩) (by simp)).trans (by simp)
      have g1 : w0.frozen? ⟨w.heap.size + 1, 1, none⟩ = false := (hb0.frozen (p := ⟨w.heap.size + 1, 1, none⟩) (by simp)).trans (by simp)
      have hz0 : w.heap.size + 1 < w0.heap.size := by have := hb0.size; simp at this; omega
      go_wp2_with fail
      go_region_held3 (fun w' => w'.cell? ⟨w.heap.size, 0, none⟩ = some (.bool an) ∧ w'.cell? ⟨w.heap.size, 1, none⟩ = some (.slice ao a.length acap)) (go_keep)
        (first
          | (go_at_call 128; refine (subLimbs_any _ _ _ a b (HA.out.below (by exact hbw.drew) (Nat.le_refl _)) (HB.out.below (by exact hbw.drew) (Nat.le_refl _)) nb (by omega)).mono ?_; rintro e w1 ⟨v1, zs, rfl, hl1, hv1, hn1, hb1⟩; have p0 : w1.cell? ⟨w.heap.size, 0, none⟩ = some (.bool an) := (hb1.cell (p := ⟨w.heap.size, 0, none⟩) (by simp; omega)).trans q0; have p1 : w1.cell? ⟨w.heap.size, 1, none⟩ = some (.slice ao a.length acap) := (hb1.cell (p := ⟨w.heap.size, 1, none⟩) (by simp; omega)).trans q1; have HV := hide hv1; clear hv1)
          | (go_at_call 95; refine (signed_any _ _ _ zs (n + 1) hl1 (by omega)).mono ?_; rintro e w2 ⟨r, rfl, hr, hb2⟩; have hb12 := hb1.trans (hb2.mono hb1.size); have p0' : w2.cell? ⟨w.heap.size, 0, none⟩ = some (.bool an) := (hb12.cell (p := ⟨w.heap.size, 0, none⟩) (by simp; omega)).trans q0; have p1' : w2.cell? ⟨w.heap.size, 1, none⟩ = some (.slice ao a.length acap) := (hb12.cell (p := ⟨w.heap.size, 1, none⟩) (by simp; omega)).trans q1; have c0 : w2.cell? ⟨w.heap.size + 1, 0, none⟩ = some (.bool false) := (hb12.cell (p := ⟨w.heap.size + 1, 0, none⟩) (by simp; omega)).trans r0; have c1 : w2.cell? ⟨w.heap.size + 1, 1, none⟩ = some (.slice none 0 0) := (hb12.cell (p := ⟨w.heap.size + 1, 1, none⟩) (by simp; omega)).trans r1; have f0 : w2.frozen? ⟨w.heap.size + 1, 0, none⟩ = false := (hb12.frozen (p := ⟨w.heap.size + 1, 0, none⟩) (by simp; omega)).trans g0; have f1 : w2.frozen? ⟨w.heap.size + 1, 1, none⟩ = false := (hb12.frozen (p := ⟨w.heap.size + 1, 1, none⟩) (by simp; omega)).trans g1; have HR := hide hr; obtain ⟨rn, rs, rz, rfl, hl, -⟩ := hr; obtain ⟨ro, rcap, rfl, -⟩ := hl))
      have e : (if an = true then -lv zs else lv zs) = sg an (lv a) + sg (!an) (lv b) := by rw [HV.out]; unfold sg; cases an <;> simp <;> omega
      rw [e] at HR
      have HF := hide (boxed (w := w) HR.out c0 c1 (by simp) (by simp) (hbw.trans ((show Below w0.heap.size w0 w2 from ⟨hb12.os, hb12.tape, hb12.output, hb12.size, hb12.block⟩).mono (by omega))) (by simp))
      clear hb12 hb1 hb2 HR e hbw hb0
      go_wp2
      exact bodyPost_ret (v := .agg #[.bool rn, .slice ro rz.length rcap]) (by simp [results, Tryz.results125, go_sem, c0, c1]) rfl HF.out

set_option maxHeartbeats 800000 in
theorem add_any (w : World) (va vb : Value) (x y : Int) (n : Nat) (ha : NumL w va x n) (hb : NumL w vb y n) (hn : n ≤ 900000) :
    Calls Tryz.prog 160 #[va, vb] w fun e w' => NumPost w (x + y) (n + 1) e w' := by
  obtain ⟨an, sa, a, rfl, hla, nra, -, hx, hna⟩ := ha
  obtain ⟨bn, sb, b, rfl, hlb, nrb, -, hy, hnb⟩ := hb
  have HA := hide hla
  have HB := hide hlb
  obtain ⟨ao, acap, rfl, -⟩ := hla
  obtain ⟨bo, bcap, rfl, -⟩ := hlb
  have hbel : ∀ o1 o2 o3, Below w.heap.size w (((w.alloc o1).alloc o2).alloc o3) := fun o1 o2 o3 => (((Below.refl _ _).alloc (Nat.le_refl _) _).alloc (by simp) _).alloc (by simp; omega) _
  have HX := hide hx; clear hx
  have HY := hide hy; clear hy
  go_enter Tryz.func160, Tryz.ntmps160
  go_wp2_with fail
  refine (addSigned_any _ _ _ a _ _ b (HA.out.below (hbel _ _ _) (Nat.le_refl _)) (HB.out.below (hbel _ _ _) (Nat.le_refl _)) nra nrb n hna hnb hn).mono ?_
  rintro e w2 ⟨r, rfl, hr, hb2⟩
  obtain ⟨c0, c1, f0, f1⟩ := (box_new _ _ _ _ (w.heap.size + 2) (by simp)).later hb2 (by simp)
  have HR := hide hr
  obtain ⟨rn, rs, rz, rfl, hl, -⟩ := hr
  obtain ⟨ro, rcap, rfl, -⟩ := hl
  have e : sg an (lv a) + sg bn (lv b) = x + y := by rw [HX.out, HY.out]; rfl
  rw [e] at HR
  have HF := hide (boxed (w := w) HR.out c0 c1 (by simp) (by simp) ((hbel _ _ _).trans (hb2.mono (by simp; omega))) (by simp))
  clear hb2 HR e
  go_wp2
  exact bodyPost_ret (v := .agg #[.bool rn, .slice ro rz.length rcap]) (by simp [results, Tryz.results160, go_sem, c0, c1]) rfl HF.out

end Go.Proofs.YtdedolkgcdlmeaaGreatDoor
