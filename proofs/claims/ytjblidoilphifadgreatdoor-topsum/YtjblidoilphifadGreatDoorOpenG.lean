/- TopSum: the sum is the least lattice in which both lie. -/
import Derived.Test.YtjblidoilphifadGreatDoorDigs
import Derived.Test.YtjblidoilphifadGreatDoorLatT
import Derived.Test.YtjblidoilphifadGreatDoorSumL
import Derived.Test.YtjblidoilphifadGreatDoorMatRaw
import Derived.Test.YtjblidoilphifadGreatDoorLatK
import Derived.Deep.SlicePairs

namespace Go.Proofs.YtjblidoilphifadGreatDoor
open Go.RowKit Limbs Digs

/-- A variable of two cells that lies there. -/
def BoxL (W : World) (B : Nat) (u0 u1 : Value) : Prop := Box W B u0 u1 ∧ B < W.heap.size

theorem BoxL.later {W W' : World} {B : Nat} {u0 u1 : Value} (h : BoxL W B u0 u1) (hb : Below W.heap.size W W') : BoxL W' B u0 u1 := ⟨h.1.later hb h.2, Nat.lt_of_lt_of_le h.2 hb.size⟩

theorem BoxL.new (W : World) (u0 u1 : Value) (t : TypeId) : BoxL (W.alloc (.cells #[u0, u1] t)) W.heap.size u0 u1 := ⟨box_new W u0 u1 t _ rfl, by simp⟩

/-- A lattice, and what made it. -/
structure LatG (W : World) (v : Value) (n : Nat) (hs : List (List Int)) (nv : Nat) : Prop where
  lat : LatN W v n hs nv

theorem LatG.later {W W' : World} {v : Value} {n : Nat} {hs : List (List Int)} {nv : Nat} (h : LatG W v n hs nv) (hb : Below W.heap.size W W') : LatG W' v n hs nv := ⟨h.lat.below hb⟩

theorem MadeGot.later {W W' : World} {nI : Int} {rs : List (List Int)} {i : Int} {o : Option Addr} {l c : Nat} {ok : Bool} (h : MadeGot W nI rs i o l c ok) (hb : Below W.heap.size W W') : MadeGot W' nI rs i o l c ok := h.keep fun _ _ _ _ _ h => h.below hb

theorem good_parts' {nI : Int} {rs : List (List Int)} (h : goodG nI rs = true) : (1 ≤ nI ∧ nI ≤ 4 ∧ rs.length ≤ 8) ∧ ∀ r ∈ rs, goodRow nI r = true := by
  unfold goodG at h
  rw [Bool.and_eq_true, decide_eq_true_eq, List.all_eq_true] at h
  exact h

theorem below_new (W : World) (ob : Obj) : Below W.heap.size W (W.alloc ob) := (Below.refl _ _).alloc (Nat.le_refl _) _

set_option linter.unusedSimpArgs false in
set_option maxRecDepth 100000 in
set_option maxHeartbeats 6400000 in
theorem topSum_any (w : World) (ht : Tab w) (nA nB nC : Int) (ga gb gc : Option Addr) (ca cb cc : Nat) (ra rb rc : List (List Int)) (ha : RowsS w (.slice ga ra.length ca) ra) (hb : RowsS w (.slice gb rb.length cb) rb) (hc : RowsS w (.slice gc rc.length cc) rc) :
    Calls Tryz.prog 7 #[.agg #[.int .i64 nA, .slice ga ra.length ca], .agg #[.int .i64 nB, .slice gb rb.length cb], .agg #[.int .i64 nC, .slice gc rc.length cc]] w fun e w' => e = .returned (.bool true) ∧ Below w.heap.size w w' := by
  have HT := hide ht; have HA := hide ha; have HB := hide hb; have HC := hide hc
  clear ht ha hb hc
  have XA := hide (((BoxL.new w (.int .i64 nA) (.slice ga ra.length ca) 57).later (below_new _ (.cells #[.int .i64 nB, .slice gb rb.length cb] 57))).later (below_new _ (.cells #[.int .i64 nC, .slice gc rc.length cc] 57)))
  have XB := hide ((BoxL.new (w.alloc (.cells #[.int .i64 nA, .slice ga ra.length ca] 57)) (.int .i64 nB) (.slice gb rb.length cb) 57).later (below_new _ (.cells #[.int .i64 nC, .slice gc rc.length cc] 57)))
  have XC := hide (BoxL.new ((w.alloc (.cells #[.int .i64 nA, .slice ga ra.length ca] 57)).alloc (.cells #[.int .i64 nB, .slice gb rb.length cb] 57)) (.int .i64 nC) (.slice gc rc.length cc) 57)
  have HBW := hide ((((Below.refl w.heap.size w).alloc (Nat.le_refl _) (.cells #[.int .i64 nA, .slice ga ra.length ca] 57)).alloc (by simp) (.cells #[.int .i64 nB, .slice gb rb.length cb] 57)).alloc (by simp; omega) (.cells #[.int .i64 nC, .slice gc rc.length cc] 57))
  have HS1 : Hid ((w.alloc (.cells #[.int .i64 nA, .slice ga ra.length ca] 57)).heap.size = w.heap.size + 1) := by show _ = _; simp
  have HS2 : Hid (((w.alloc (.cells #[.int .i64 nA, .slice ga ra.length ca] 57)).alloc (.cells #[.int .i64 nB, .slice gb rb.length cb] 57)).heap.size = w.heap.size + 1 + 1) := by show _ = _; simp
  rw [HS1.out] at XB
  rw [HS2.out] at XC
  clear HS1 HS2
  go_enter Tryz.func7, Tryz.ntmps7
  go_wp2_with fail
  generalize (((w.alloc (.cells #[.int .i64 nA, .slice ga ra.length ca] 57)).alloc (.cells #[.int .i64 nB, .slice gb rb.length cb] 57)).alloc (.cells #[.int .i64 nC, .slice gc rc.length cc] 57)) = W0 at *
  refine (ready_any W0 (HT.out.below HBW.out)).mono ?_
  rintro e w1 ⟨rfl, hb1⟩
  have XA' := hide (XA.out.later hb1)
  have XB' := hide (XB.out.later hb1)
  have XC' := hide (XC.out.later hb1)
  clear XA XB XC
  have XA := XA'
  have XB := XB'
  have XC := XC'
  clear XA' XB' XC'
  have HBW' := hide (HBW.out.trans (hb1.mono HBW.out.size))
  clear HBW
  have HBW := HBW'
  clear HBW'
  clear hb1
  obtain ⟨a0, a1, a2, a3⟩ := XA.out.1
  obtain ⟨b0, b1, b2, b3⟩ := XB.out.1
  go_wp2_with fail
  refine (two_any w1 nA nB ga gb ca cb ra rb (HA.out.below HBW.out) (HB.out.below HBW.out)).mono ?_
  rintro e w2 ⟨hb2, i1, o1, l1, k1, i2, o2, l2, k2, ok, too, rfl, hg1, hg2⟩
  clear a0 a1 a2 a3 b0 b1 b2 b3
  have XA' := hide (XA.out.later hb2)
  have XC' := hide (XC.out.later hb2)
  clear XA XC
  have XA := XA'
  have XC := XC'
  clear XA' XC'
  have HBW' := hide (HBW.out.trans (hb2.mono HBW.out.size))
  clear HBW
  have HBW := HBW'
  clear HBW'
  clear hb2 XB
  have HG1 := hide hg1; have HG2 := hide hg2
  clear hg1 hg2
  have hN1 := below_new w2 (.cells #[.int .i64 i1, .slice o1 l1 k1] 25)
  have hN2 := below_new (w2.alloc (.cells #[.int .i64 i1, .slice o1 l1 k1] 25)) (.cells #[.int .i64 i2, .slice o2 l2 k2] 25)
  have hN3 := hN1.trans (hN2.mono hN1.size)
  have X8 := hide ((BoxL.new w2 (.int .i64 i1) (.slice o1 l1 k1) 25).later hN2)
  have X9 := hide (BoxL.new (w2.alloc (.cells #[.int .i64 i1, .slice o1 l1 k1] 25)) (.int .i64 i2) (.slice o2 l2 k2) 25)
  have HS1 : Hid ((w2.alloc (.cells #[.int .i64 i1, .slice o1 l1 k1] 25)).heap.size = w2.heap.size + 1) := by show _ = _; simp
  rw [HS1.out] at X9
  have HG1' := hide (HG1.out.later hN3); have HG2' := hide (HG2.out.later hN3)
  clear HG1 HG2 HS1
  have HN3 := hide hN3
  clear hN1 hN2 hN3
  have XA' := hide (XA.out.later HN3.out)
  have XC' := hide (XC.out.later HN3.out)
  clear XA XC
  have XA := XA'
  have XC := XC'
  clear XA' XC'
  have HBW' := hide (HBW.out.trans (HN3.out.mono HBW.out.size))
  clear HBW
  have HBW := HBW'
  clear HBW'
  clear HN3
  generalize hokk : (ok && too && decide (nA = nB)) = okk at *
  have HOK := hide hokk
  clear hokk
  cases okk with
  | false =>
    go_wp2
    go_ret
    exact ⟨rfl, HBW.out⟩
  | true =>
    obtain ⟨h3, h5⟩ : (ok = true ∧ too = true) ∧ nA = nB := by have := HOK.out; simpa using this
    obtain ⟨h3, h4'⟩ := h3
    subst h3 h4'
    rcases HG1'.out with ⟨h, -⟩ | ⟨-, hga, e1, hs, hx, hax⟩
    · cases h
    rcases HG2'.out with ⟨h, -⟩ | ⟨-, hgb, e2, ks, hy, hay⟩
    · cases h
    obtain ⟨h14, -⟩ := good_parts' hga
    obtain ⟨n, hn⟩ := Int.eq_ofNat_of_zero_le (show 0 ≤ nA by omega)
    have hn2 : nB = (n : Int) := h5.symm.trans hn
    clear h5
    subst hn hn2 e1 e2
    have h1 : 1 ≤ n := by omega
    have h4 : n ≤ 4 := by omega
    rw [Int.toNat_natCast] at hx hy
    have LX := hide (LatG.mk hx); have LY := hide (LatG.mk hy)
    obtain ⟨p, hFx⟩ := hx.2
    obtain ⟨q, hFy⟩ := hy.2
    have HFX := hide hFx; have HFY := hide hFy
    clear hx hy hga hgb hax hay hFx hFy HG1' HG2' HOK h14
    have hNB := nb6 n (by omega)
    have hN4 : n * (n * 6 + 2 + 2) ≤ 4 * 28 := Nat.mul_le_mul h4 (by omega)
    go_wp2_with fail
    generalize (w2.alloc (.cells #[.int .i64 (n : Int), .slice o1 l1 k1] 25)).alloc (.cells #[.int .i64 (n : Int), .slice o2 l2 k2] 25) = W3 at *
    generalize w2.heap.size = B8 at *
    refine (sumL_ok W3 _ _ n 6 hs ks (by exact LX.out.lat) (by exact LY.out.lat) h1 h4 hNB).mono ?_
    rintro e w3 ⟨v3, ss, rfl, hl3, hb3, ha3, -⟩
    have HA3 := hide ha3; have LS := hide (LatG.mk hl3)
    obtain ⟨p3, hF3⟩ := hl3.2
    have HF3 := hide hF3
    obtain ⟨⟨u3, rfl, ⟨o3, k3, rfl, -, -⟩⟩, -⟩ := hl3
    clear hF3 ha3
    have XA' := hide (XA.out.later hb3)
    have XC' := hide (XC.out.later hb3)
    have X8' := hide (X8.out.later hb3)
    have X9' := hide (X9.out.later hb3)
    have LX' := hide (LX.out.later hb3)
    have LY' := hide (LY.out.later hb3)
    clear XA XC X8 X9 LX LY
    have XA := XA'
    have XC := XC'
    have X8 := X8'
    have X9 := X9'
    have LX := LX'
    have LY := LY'
    clear XA' XC' X8' X9' LX' LY'
    have HBW' := hide (HBW.out.trans (hb3.mono HBW.out.size))
    clear HBW
    have HBW := HBW'
    clear HBW'
    clear hb3
    have hN1 := below_new w3 (.cells #[.int .i64 (n : Int), .slice o3 ss.length k3] 25)
    have X10 := hide (BoxL.new w3 (.int .i64 (n : Int)) (.slice o3 ss.length k3) 25)
    have XA' := hide (XA.out.later hN1)
    have XC' := hide (XC.out.later hN1)
    have X8' := hide (X8.out.later hN1)
    have X9' := hide (X9.out.later hN1)
    have LX' := hide (LX.out.later hN1)
    have LY' := hide (LY.out.later hN1)
    have LS' := hide (LS.out.later hN1)
    clear XA XC X8 X9 LX LY LS
    have XA := XA'
    have XC := XC'
    have X8 := X8'
    have X9 := X9'
    have LX := LX'
    have LY := LY'
    have LS := LS'
    clear XA' XC' X8' X9' LX' LY' LS'
    have HBW' := hide (HBW.out.trans (hN1.mono HBW.out.size))
    clear HBW
    have HBW := HBW'
    clear HBW'
    clear hN1
    obtain ⟨a0, a1, a2, a3⟩ := X8.out.1
    obtain ⟨b0, b1, b2, b3⟩ := X9.out.1
    go_wp2_with fail
    clear a0 a1 a2 a3 b0 b1 b2 b3
    generalize w3.alloc (.cells #[.int .i64 (n : Int), .slice o3 ss.length k3] 25) = W4 at *
    generalize w3.heap.size = B10 at *
    refine (sumL_ok W4 _ _ n 6 ks hs (by exact LY.out.lat) (by exact LX.out.lat) h1 h4 hNB).mono ?_
    rintro e w4 ⟨v4, ts, rfl, hl4, hb4, ha4, -⟩
    have LT := hide (LatG.mk hl4)
    obtain ⟨p4, hF4⟩ := hl4.2
    have HE := hide (sum_same HF3.out hF4 HA3.out ha4)
    obtain ⟨⟨u4, rfl, ⟨o4, k4, rfl, -, -⟩⟩, -⟩ := hl4
    clear hF4 ha4
    have XA' := hide (XA.out.later hb4)
    have XC' := hide (XC.out.later hb4)
    have X8' := hide (X8.out.later hb4)
    have X9' := hide (X9.out.later hb4)
    have X10' := hide (X10.out.later hb4)
    have LX' := hide (LX.out.later hb4)
    have LY' := hide (LY.out.later hb4)
    have LS' := hide (LS.out.later hb4)
    clear XA XC X8 X9 X10 LX LY LS
    have XA := XA'
    have XC := XC'
    have X8 := X8'
    have X9 := X9'
    have X10 := X10'
    have LX := LX'
    have LY := LY'
    have LS := LS'
    clear XA' XC' X8' X9' X10' LX' LY' LS'
    have HBW' := hide (HBW.out.trans (hb4.mono HBW.out.size))
    clear HBW
    have HBW := HBW'
    clear HBW'
    clear hb4
    have hN1 := below_new w4 (.cells #[.int .i64 (n : Int), .slice o4 ts.length k4] 25)
    have X12 := hide (BoxL.new w4 (.int .i64 (n : Int)) (.slice o4 ts.length k4) 25)
    have XA' := hide (XA.out.later hN1)
    have XC' := hide (XC.out.later hN1)
    have X8' := hide (X8.out.later hN1)
    have X9' := hide (X9.out.later hN1)
    have X10' := hide (X10.out.later hN1)
    have LX' := hide (LX.out.later hN1)
    have LY' := hide (LY.out.later hN1)
    have LS' := hide (LS.out.later hN1)
    have LT' := hide (LT.out.later hN1)
    clear XA XC X8 X9 X10 LX LY LS LT
    have XA := XA'
    have XC := XC'
    have X8 := X8'
    have X9 := X9'
    have X10 := X10'
    have LX := LX'
    have LY := LY'
    have LS := LS'
    have LT := LT'
    clear XA' XC' X8' X9' X10' LX' LY' LS' LT'
    have HBW' := hide (HBW.out.trans (hN1.mono HBW.out.size))
    clear HBW
    have HBW := HBW'
    clear HBW'
    clear hN1
    obtain ⟨a0, a1, a2, a3⟩ := X8.out.1
    obtain ⟨b0, b1, b2, b3⟩ := X9.out.1
    obtain ⟨c0, c1, c2, c3⟩ := X10.out.1
    obtain ⟨d0, d1, d2, d3⟩ := X12.out.1
    go_wp2_with fail
    clear a0 a1 a2 a3 b0 b1 b2 b3 c0 c1 c2 c3 d0 d1 d2 d3
    generalize w4.alloc (.cells #[.int .i64 (n : Int), .slice o4 ts.length k4] 25) = W5 at *
    generalize w4.heap.size = B12 at *
    refine (alikeB_any W5 _ _ n (n * 6 + 2) (n * 6 + 2) ss ts (by exact LS.out.lat) (by exact LT.out.lat) (by omega)).mono ?_
    rintro e w5 ⟨rfl, hb5⟩
    rw [decide_eq_true HE.out]
    have XA' := hide (XA.out.later hb5)
    have XC' := hide (XC.out.later hb5)
    have X8' := hide (X8.out.later hb5)
    have X9' := hide (X9.out.later hb5)
    have X10' := hide (X10.out.later hb5)
    have LX' := hide (LX.out.later hb5)
    have LY' := hide (LY.out.later hb5)
    have LS' := hide (LS.out.later hb5)
    clear XA XC X8 X9 X10 LX LY LS
    have XA := XA'
    have XC := XC'
    have X8 := X8'
    have X9 := X9'
    have X10 := X10'
    have LX := LX'
    have LY := LY'
    have LS := LS'
    clear XA' XC' X8' X9' X10' LX' LY' LS'
    have HBW' := hide (HBW.out.trans (hb5.mono HBW.out.size))
    clear HBW
    have HBW := HBW'
    clear HBW'
    clear hb5 X12 LT HE
    obtain ⟨a0, a1, a2, a3⟩ := X8.out.1
    obtain ⟨b0, b1, b2, b3⟩ := X9.out.1
    obtain ⟨c0, c1, c2, c3⟩ := X10.out.1
    go_wp2_with fail
    clear a0 a1 a2 a3 b0 b1 b2 b3 c0 c1 c2 c3
    refine (inside_any w5 _ _ n 6 (n * 6 + 2) hs ss (by exact LX.out.lat) (by exact LS.out.lat) h1 h4 (by omega) true ⟨fun _ => sum_left HA3.out HFX.out.len, fun _ => rfl⟩).mono ?_
    rintro e w6 ⟨rfl, hb6⟩
    have XA' := hide (XA.out.later hb6)
    have XC' := hide (XC.out.later hb6)
    have X8' := hide (X8.out.later hb6)
    have X9' := hide (X9.out.later hb6)
    have X10' := hide (X10.out.later hb6)
    have LX' := hide (LX.out.later hb6)
    have LY' := hide (LY.out.later hb6)
    have LS' := hide (LS.out.later hb6)
    clear XA XC X8 X9 X10 LX LY LS
    have XA := XA'
    have XC := XC'
    have X8 := X8'
    have X9 := X9'
    have X10 := X10'
    have LX := LX'
    have LY := LY'
    have LS := LS'
    clear XA' XC' X8' X9' X10' LX' LY' LS'
    have HBW' := hide (HBW.out.trans (hb6.mono HBW.out.size))
    clear HBW
    have HBW := HBW'
    clear HBW'
    clear hb6
    obtain ⟨a0, a1, a2, a3⟩ := X8.out.1
    obtain ⟨b0, b1, b2, b3⟩ := X9.out.1
    obtain ⟨c0, c1, c2, c3⟩ := X10.out.1
    go_wp2_with fail
    clear a0 a1 a2 a3 b0 b1 b2 b3 c0 c1 c2 c3
    refine (inside_any w6 _ _ n 6 (n * 6 + 2) ks ss (by exact LY.out.lat) (by exact LS.out.lat) h1 h4 (by omega) true ⟨fun _ => sum_right HA3.out HFY.out.len, fun _ => rfl⟩).mono ?_
    rintro e w7 ⟨rfl, hb7⟩
    have XA' := hide (XA.out.later hb7)
    have XC' := hide (XC.out.later hb7)
    have X8' := hide (X8.out.later hb7)
    have X9' := hide (X9.out.later hb7)
    have X10' := hide (X10.out.later hb7)
    have LX' := hide (LX.out.later hb7)
    have LY' := hide (LY.out.later hb7)
    have LS' := hide (LS.out.later hb7)
    clear XA XC X8 X9 X10 LX LY LS
    have XA := XA'
    have XC := XC'
    have X8 := X8'
    have X9 := X9'
    have X10 := X10'
    have LX := LX'
    have LY := LY'
    have LS := LS'
    clear XA' XC' X8' X9' X10' LX' LY' LS'
    have HBW' := hide (HBW.out.trans (hb7.mono HBW.out.size))
    clear HBW
    have HBW := HBW'
    clear HBW'
    clear hb7
    obtain ⟨a0, a1, a2, a3⟩ := XC.out.1
    go_wp2_with fail
    clear a0 a1 a2 a3
    refine (made_one_shape w7 nC gc cc rc (HC.out.below HBW.out)).mono ?_
    rintro e w8 ⟨hb8, i5, o5, l5, k5, m5, okc, rfl, hg5⟩
    have HG5 := hide hg5
    clear hg5
    have XA' := hide (XA.out.later hb8)
    have XC' := hide (XC.out.later hb8)
    have X8' := hide (X8.out.later hb8)
    have X9' := hide (X9.out.later hb8)
    have X10' := hide (X10.out.later hb8)
    have LX' := hide (LX.out.later hb8)
    have LY' := hide (LY.out.later hb8)
    have LS' := hide (LS.out.later hb8)
    clear XA XC X8 X9 X10 LX LY LS
    have XA := XA'
    have XC := XC'
    have X8 := X8'
    have X9 := X9'
    have X10 := X10'
    have LX := LX'
    have LY := LY'
    have LS := LS'
    clear XA' XC' X8' X9' X10' LX' LY' LS'
    have HBW' := hide (HBW.out.trans (hb8.mono HBW.out.size))
    clear HBW
    have HBW := HBW'
    clear HBW'
    clear hb8
    have hN1 := below_new w8 (.cells #[.int .i64 i5, .slice o5 l5 k5] 25)
    have X14 := hide (BoxL.new w8 (.int .i64 i5) (.slice o5 l5 k5) 25)
    have XA' := hide (XA.out.later hN1)
    have XC' := hide (XC.out.later hN1)
    have X8' := hide (X8.out.later hN1)
    have X9' := hide (X9.out.later hN1)
    have X10' := hide (X10.out.later hN1)
    have LX' := hide (LX.out.later hN1)
    have LY' := hide (LY.out.later hN1)
    have LS' := hide (LS.out.later hN1)
    have HG5' := hide (HG5.out.later hN1)
    clear XA XC X8 X9 X10 LX LY LS HG5
    have XA := XA'
    have XC := XC'
    have X8 := X8'
    have X9 := X9'
    have X10 := X10'
    have LX := LX'
    have LY := LY'
    have LS := LS'
    have HG5 := HG5'
    clear XA' XC' X8' X9' X10' LX' LY' LS' HG5'
    have HBW' := hide (HBW.out.trans (hN1.mono HBW.out.size))
    clear HBW
    have HBW := HBW'
    clear HBW'
    clear hN1
    obtain ⟨a0, a1, a2, a3⟩ := X8.out.1
    obtain ⟨b0, b1, b2, b3⟩ := X9.out.1
    obtain ⟨c0, c1, c2, c3⟩ := X10.out.1
    obtain ⟨d0, d1, d2, d3⟩ := X14.out.1
    obtain ⟨f0, f1, f2, f3⟩ := XA.out.1
    obtain ⟨g0, g1, g2, g3⟩ := XC.out.1
    cases okc with
    | false =>
      go_wp2
      go_ret
      exact ⟨rfl, HBW.out⟩
    | true =>
      by_cases hnc : nC = (n : Int)
      · subst hnc
        rcases HG5.out with ⟨h, -⟩ | ⟨-, -, e5, zs, hz, -⟩
        · cases h
        subst e5
        rw [Int.toNat_natCast] at hz
        have LZ := hide (LatG.mk hz)
        clear hz HG5
        go_wp2_with fail
        clear a0 a1 a2 a3 b0 b1 b2 b3 c0 c1 c2 c3 d0 d1 d2 d3 f0 f1 f2 f3 g0 g1 g2 g3
        generalize w8.alloc (.cells #[.int .i64 (n : Int), .slice o5 l5 k5] 25) = W9 at *
        generalize w8.heap.size = B14 at *
        by_cases hp1 : ∀ us ∈ hs, Gens n (InL zs) us
        · have HP1 := hide hp1
          clear hp1
          refine (inside_any W9 _ _ n 6 6 hs zs (by exact LX.out.lat) (by exact LZ.out.lat) h1 h4 (by omega) true ⟨fun _ => HP1.out, fun _ => rfl⟩).mono ?_
          rintro e w9 ⟨rfl, hb9⟩
          have X9' := hide (X9.out.later hb9)
          have X10' := hide (X10.out.later hb9)
          have X14' := hide (X14.out.later hb9)
          have LY' := hide (LY.out.later hb9)
          have LS' := hide (LS.out.later hb9)
          have LZ' := hide (LZ.out.later hb9)
          clear X9 X10 X14 LY LS LZ
          have X9 := X9'
          have X10 := X10'
          have X14 := X14'
          have LY := LY'
          have LS := LS'
          have LZ := LZ'
          clear X9' X10' X14' LY' LS' LZ'
          have HBW' := hide (HBW.out.trans (hb9.mono HBW.out.size))
          clear HBW
          have HBW := HBW'
          clear HBW'
          clear hb9 XA XC X8
          obtain ⟨a0, a1, a2, a3⟩ := X9.out.1
          obtain ⟨b0, b1, b2, b3⟩ := X14.out.1
          go_wp2_with fail
          clear a0 a1 a2 a3 b0 b1 b2 b3
          by_cases hp2 : ∀ us ∈ ks, Gens n (InL zs) us
          · have HP2 := hide hp2
            clear hp2
            refine (inside_any w9 _ _ n 6 6 ks zs (by exact LY.out.lat) (by exact LZ.out.lat) h1 h4 (by omega) true ⟨fun _ => HP2.out, fun _ => rfl⟩).mono ?_
            rintro e w10 ⟨rfl, hb10⟩
            have X10' := hide (X10.out.later hb10)
            have X14' := hide (X14.out.later hb10)
            have LS' := hide (LS.out.later hb10)
            have LZ' := hide (LZ.out.later hb10)
            clear X10 X14 LS LZ
            have X10 := X10'
            have X14 := X14'
            have LS := LS'
            have LZ := LZ'
            clear X10' X14' LS' LZ'
            have HBW' := hide (HBW.out.trans (hb10.mono HBW.out.size))
            clear HBW
            have HBW := HBW'
            clear HBW'
            clear hb10 X9
            obtain ⟨a0, a1, a2, a3⟩ := X10.out.1
            obtain ⟨b0, b1, b2, b3⟩ := X14.out.1
            go_wp2_with fail
            clear a0 a1 a2 a3 b0 b1 b2 b3
            refine (inside_any w10 _ _ n (n * 6 + 2) 6 ss zs (by exact LS.out.lat) (by exact LZ.out.lat) h1 h4 (by omega) true ⟨fun _ => sum_least HA3.out HF3.out.len HP1.out HP2.out, fun _ => rfl⟩).mono ?_
            rintro e w11 ⟨rfl, hb11⟩
            have HBE := hide (HBW.out.trans (hb11.mono HBW.out.size))
            clear hb11
            go_wp2
            go_ret
            exact ⟨rfl, HBE.out⟩
          · have HP2 := hide hp2
            clear hp2
            refine (inside_any w9 _ _ n 6 6 ks zs (by exact LY.out.lat) (by exact LZ.out.lat) h1 h4 (by omega) false ⟨fun h => (by cases h), fun h => absurd h HP2.out⟩).mono ?_
            rintro e w10 ⟨rfl, hb10⟩
            have HBE := hide (HBW.out.trans (hb10.mono HBW.out.size))
            clear hb10
            go_wp2
            go_ret
            exact ⟨rfl, HBE.out⟩
        · have HP1 := hide hp1
          clear hp1
          refine (inside_any W9 _ _ n 6 6 hs zs (by exact LX.out.lat) (by exact LZ.out.lat) h1 h4 (by omega) false ⟨fun h => (by cases h), fun h => absurd h HP1.out⟩).mono ?_
          rintro e w9 ⟨rfl, hb9⟩
          have HBE := hide (HBW.out.trans (hb9.mono HBW.out.size))
          clear hb9
          go_wp2
          go_ret
          exact ⟨rfl, HBE.out⟩
      · have g1 : ((nC : Int) == (n : Int)) = false := beq_false_of_ne hnc
        have g2 : ((nC : Int) != (n : Int)) = true := by rw [bne, g1]; rfl
        have g3 : decide (nC = (n : Int)) = false := decide_eq_false hnc
        go_wp2
        go_ret
        exact ⟨rfl, HBW.out⟩

end Go.Proofs.YtjblidoilphifadGreatDoor

/- Rows of whole numbers that came in, in a struct: as they read. -/
namespace Go.Proofs.YtjblidoilphifadGreatDoor
open Go.ChangeShapes Go.WideShapes Go.ChangeAt Go.RowKit Go.Joins Limbs

theorem Tryz.cellsGens : Tryz.prog.cellsOf 57 = 2 := by kernel_rfl
theorem Tryz.cellsIntS : Tryz.prog.cellsOf 62 = 1 := by kernel_rfl
theorem Tryz.cellsInt : Tryz.prog.cellsOf 3 = 1 := by kernel_rfl

set_option maxRecDepth 100000 in
theorem open_rowS {H : Type} {enc : TypeId × Value → H} {W : World} {n : Nat} {v : Value} {y : DataW H × List MemPlace}
    (h : DataW.trod enc Tryz.prog W 0 (fun _ => true) true n 62 [v] = some y) : ∃ ks, RowS W v ks := by
  rcases open_ints Tryz.underlying62 Tryz.underlying3 Tryz.cellsInt h with ⟨hcs, _⟩ | ⟨x, l, c, zs, hcs, _, hl, hm, hz, _, hcell, hwz⟩
  · simp only [List.cons.injEq, and_true] at hcs
    subst hcs
    exact ⟨[], none, 0, rfl, Nat.le_refl _, fun i => by simp, fun h => absurd h (by simp)⟩
  · simp only [List.cons.injEq, and_true] at hcs
    subst hcs
    have hz' : zs.length = c := by simpa using hz
    have hlen : (zs.take l).length = l := by rw [List.length_take]; omega
    refine ⟨zs.take l, some x, c, by rw [hlen], by rw [hlen]; exact hl, fun i => ?_, fun h0 => ?_⟩
    · by_cases hi : i < (zs.take l).length
      · rw [List.getD_eq_getElem?_getD, List.getElem?_eq_getElem hi, Option.getD_some]
        have := hwz _ (List.mem_of_mem_take (List.getElem_mem hi))
        simp [Lit.wf, IntKind.min, IntKind.max, IntKind.signed, IntKind.bits] at this
        rw [List.getElem_take]
        omega
      · rw [List.getD_eq_getElem?_getD, List.getElem?_eq_none (by omega)]
        simp
    · obtain ⟨blk, off, spot⟩ := x
      rw [hlen] at h0
      have h00 := hcell 0 (by omega)
      have hspot : spot = none := by simpa [Addr.add] using World.cell?_spot h00
      subst hspot
      refine ⟨blk, off, rfl, World.block_lt_of_cell? W _ h00, fun i hi => ?_⟩
      rw [hlen] at hi
      have := hcell i (by omega)
      rw [getD_take zs l i (by omega)]
      by_cases hi0 : i = 0
      · subst hi0; simpa [Addr.add] using this
      · simpa [Addr.add, hi0] using this

set_option maxRecDepth 100000 in
theorem open_gens {H : Type} {enc : TypeId × Value → H} {W : World} {r : Reach} {b0 : Nat} {v : Value} {d : DataW H} {p : List MemPlace}
    (hv : Value.okWide Tryz.prog W r b0 57 v) (h : DataW.Trod enc Tryz.prog W 0 (fun _ => true) true 57 v d p) :
    ∃ nI go gcap rs, v = .agg #[.int .i64 nI, .slice go rs.length gcap] ∧ RowsS W (.slice go rs.length gcap) rs := by
  obtain ⟨c0, c1, y0, y1, m, rfl, rfl, rfl, hy0, hy1⟩ := open_agg2 Tryz.underlying57 (by kernel_rfl) Tryz.cellsGens hv h
  obtain ⟨nI, e0, -, -⟩ := DataW.trod_int Tryz.underlying3 hy0
  simp only [List.cons.injEq, and_true] at e0
  subst e0
  rcases Go.Deep.open_slice1 Tryz.underlying55 Tryz.cellsIntS hy1 with ⟨hcs, _⟩ | ⟨a, l, c, m, n, V, D, Pl, hcs, _, hl, hm, hmm, _, hc⟩
  · simp only [List.cons.injEq, and_true] at hcs
    subst hcs
    exact ⟨nI, none, 0, [], rfl, none, 0, rfl, by simp, fun h => absurd h (by simp)⟩
  · simp only [List.cons.injEq, and_true] at hcs
    subst hcs
    have hm' : l ≤ m := by simp at hmm; omega
    have each : ∀ i, i < l → ∃ ks : List Int, RowS W (V i) ks := fun i hi => open_rowS (hc i (by omega)).2
    obtain ⟨q, hq⟩ := Go.Deep.choose_lt each
    have hlen : ((List.range l).map q).length = l := by simp
    refine ⟨nI, some a, c, (List.range l).map q, by rw [hlen], some a, c, rfl, by rw [hlen]; exact hl, fun h0 => ?_⟩
    rw [hlen] at h0
    obtain ⟨k0, -⟩ := hc 0 (by omega)
    obtain ⟨blk, off, spot⟩ := a
    have hsp : spot = none := by simpa [Addr.add] using World.cell?_spot k0
    subst hsp
    refine ⟨blk, off, rfl, by simpa [Addr.add] using World.block_lt_of_cell? W _ k0, fun i rs hi => ?_⟩
    obtain ⟨hi', e⟩ := List.getElem?_eq_some_iff.1 hi
    rw [hlen] at hi'
    have e' : rs = q i := by simpa using e.symm
    obtain ⟨c0, -⟩ := hc i (by omega)
    rw [Go.WideShapes.add_plain] at c0
    rw [e']
    exact ⟨_, c0, hq i hi'⟩

end Go.Proofs.YtjblidoilphifadGreatDoor
