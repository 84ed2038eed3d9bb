/- mat.Kernel: what rows make nought of. -/
import Derived.Test.YtofegldopgkikaaNouW
import Derived.Test.YtofegldopgkikaaFormP
import Derived.Test.YtofegldopgkikaaMatRaw

namespace Go.Proofs.Ytofegldopgkikaa
open Go.RowKit Limbs

theorem nbKer : ∀ n, n < 9 → nbK n (n * 8 + 2) 8 n ≤ 100000 ∧ ∀ h, h < 9 → h ≤ n → nbK (h + n) (n * (n * 8 + 2) + 2) (n * 8 + 2) (h + n) ≤ 100000 := by decide

def KerPost (w : World) (n : Nat) (ms : List (List Int)) (e : Ending) (w' : World) : Prop :=
  ∃ u hs us p q, e = .returned (.tuple #[u, .nilIface]) ∧ MatN w' u (behindL hs.length us) (n * (n * 8 + 2) + 2) ∧ FormL n hs p ∧ Alikes n (InL hs) (InL ms) ∧ FormL (hs.length + n) us q ∧ Alikes (hs.length + n) (InL us) (InL (tracedL hs n)) ∧ us.length ≤ 100 ∧ Below w.heap.size w w'

set_option linter.unusedSimpArgs false in
set_option maxRecDepth 100000 in
set_option maxHeartbeats 1600000 in
theorem kernel_ok (w : World) (v : Value) (ms : List (List Int)) (n : Nat) (hv : MatN w v ms 8) (hr : ∀ us ∈ ms, us.length = n) (hn1 : 1 ≤ n) (hn : n ≤ 8) (hm : ms.length ≤ 12) :
    Calls Try.prog 4 #[v, .int .i64 (n : Int)] w fun e w' => KerPost w n ms e w' := by
  have HC := hide (checkM_ok w v ms n 8 hv hn1 hn hm hr)
  have HV := hide hv; have HR := hide hr
  obtain ⟨ao, cap, rfl, -, -⟩ := hv
  clear hr
  obtain ⟨hb1, hb2⟩ := nbKer n (by omega)
  have HB1 := hide hb1; have HB2 := hide hb2
  clear hb1 hb2
  go_enter Try.func4, Try.ntmps4
  go_wp2_with fail
  refine HC.out.mono ?_
  rintro e w1 ⟨rfl, hbe1⟩
  have HE1 := hide hbe1
  clear hbe1 HC
  go_wp2_with fail
  refine (oneForm_any w1 _ ms n 8 (HV.out.below HE1.out (Nat.le_refl _)) HR.out hn1 (by omega) (by omega) HB1.out).mono ?_
  rintro e w2 ⟨u2, hs, p, rfl, h1, h2, h3, h4, h5⟩
  have HH := hide h1; have HF := hide h4; have HA := hide h5
  have HE2 := hide (HE1.out.trans (h3.mono HE1.out.size))
  obtain ⟨ho, hcap, rfl, -, -⟩ := h1
  clear h3 h4 h5 HE1
  go_wp2_with fail
  refine (traced_any w2 _ n (n * 8 + 2) hs HH.out HF.out.len hn1 (by omega) (by omega) (by omega)).mono ?_
  rintro e w3 ⟨u3, rfl, h6, h7⟩
  have HT := hide h6
  have HE3 := hide (HE2.out.trans (h7.mono HE2.out.size))
  clear h6 h7 HE2
  go_wp2_with fail
  rw [show ((hs.length : Int) + (n : Int)) = ((hs.length + n : Nat) : Int) by omega]
  refine (oneForm_q w3 _ (tracedL hs n) (hs.length + n) (n * 8 + 2) n (.inr (by rw [tracedL_length]; exact Nat.le_refl _)) (by omega) HT.out (tracedL_len hs n) (by omega) (by omega) (by rw [tracedL_length]; omega) (HB2.out hs.length (by omega) h2)).mono ?_
  rintro e w4 ⟨u4, us, q, rfl, g1, g2, g3, g4, g5, -⟩
  have HU := hide g1; have HG := hide g4; have HGA := hide g5
  have HE4 := hide (HE3.out.trans (g3.mono HE3.out.size))
  clear g1 g3 g4 g5 HE3 HT HH
  go_wp2_with fail
  refine (noughts_any w4 _ hs.length n (n * (n * 8 + 2) + 2) us HU.out HG.out.len hn1 (by omega) (by omega)).mono ?_
  rintro e w5 ⟨u5', rfl, k1, k2⟩
  have HK := hide k1
  have HE5 := hide (HE4.out.trans (k2.mono HE4.out.size))
  clear k1 k2 HE4 HU
  have hul : us.length ≤ 100 := by omega
  clear g2 h2
  go_wp2
  go_ret2
  exact ⟨_, hs, us, p, q, rfl, HK.out, HF.out, HA.out, HG.out, HGA.out, hul, HE5.out⟩

end Go.Proofs.Ytofegldopgkikaa

/- Are rows in the one form? Those that are. -/
namespace Go.Proofs.Ytofegldopgkikaa
open Go.RowKit Limbs

set_option maxRecDepth 100000 in
set_option maxHeartbeats 1600000 in
theorem form_any (w : World) (v : Value) (hs : List (List Int)) (n nv : Nat) (p : Nat → Nat) (hv : MatN w v hs nv) (hF : FormL n hs p) (hn : n ≤ 1000) (hl : hs.length ≤ 1000) :
    Calls Try.prog 8 #[v] w fun e w' => e = .returned (.bool true) ∧ Below w.heap.size w w' := by
  have HV := hide hv; have HF := hide hF
  obtain ⟨ao, cap, rfl, -, -⟩ := hv
  clear hF
  go_enter Try.func8, Try.ntmps8
  go_wp2
  go_loopw [3, 4] (fun last i wr => ∃ k : Nat, k ≤ hs.length ∧ i = .int .i64 k ∧ last = .int .i64 (lastP p k) ∧ Hid (Below w.heap.size w wr)) (fun _ i _ => hs.length - (intOf i).toNat)
  case atStart => exact ⟨0, Nat.zero_le _, rfl, rfl, hide (Below.refl _ _)⟩
  case round =>
    obtain ⟨k, hk, rfl, rfl, HBE⟩ := hrel
    by_cases hkl : k < hs.length
    · obtain ⟨b, off, _, e, hlt, u, cu, hu⟩ := (HV.out.below HBE.out (Nat.le_refl _)).at k hkl
      simp only [Value.slice.injEq, true_and] at e
      obtain ⟨rfl, rfl⟩ := e
      obtain ⟨f1, f2, f3⟩ := HF.out.first hkl
      have hlen := HF.out.len _ (List.getElem_mem hkl)
      have hlast := HF.out.last hkl
      have hrg := lastP_range HF.out (Nat.le_of_lt hkl)
      have HNX : Hid (lastP p (k + 1) = (p k : Int)) := by show _ = _; unfold lastP; rw [if_neg (by omega), Nat.add_sub_cancel]
      obtain ⟨rb, roff, rcap, rfl⟩ := hu.form (by omega)
      have HU := hide hu
      have HRED := hide (fun j (hj : j < k) => HF.out.red hj hkl)
      have hlu := (hu.at (p k) (by omega)).1
      have hqz : p k < hs[k].length := by omega
      have hzl : hs[k].length ≤ 1000 := by omega
      generalize hq : p k = q at *
      generalize hs[k] = zs at *
      generalize lastP p k = lp at *
      have HL := hide hlen; have HQ := hide hq; have HF1 := hide f1
      clear hlen hq f1 hu
      go_wp2_with fail
      refine (firstV_any wr _ zs nv (by exact HU.out) (by omega)).mono ?_
      rintro e w1 ⟨rfl, hb1⟩
      rw [HF1.out]
      have HB1 := hide (HBE.out.trans (hb1.mono HBE.out.size))
      have HU1 := hide (HU.out.below hb1 (Nat.le_refl _))
      have cu1 := (hb1.cell (p := ⟨b, off + k, none⟩) hlt).trans cu
      obtain ⟨lu1, rn, ro, rl, rc, r0, r1, rnum⟩ := HU1.out.at q hqz
      have hneg : rn = false := by
        have := rnum.sgn
        cases rn
        · rfl
        · have := this.1 rfl; omega
      subst hneg
      have hlt1 : b < w1.heap.size := Nat.lt_of_lt_of_le hlt hb1.size
      have g1 : decide ((q : Int) ≤ lp) = false := decide_eq_false (by omega)
      have g2 : decide ((q : Int) < 0) = false := decide_eq_false (by omega)
      have HRN := hide rnum
      clear rnum hb1 HU HBE cu hlt hlu HF1
      go_wp2
      go_loopw [6] (fun i wr => ∃ j : Nat, j ≤ k ∧ i = .int .i64 j ∧ Hid (Below w1.heap.size w1 wr)) (fun i _ => k - (intOf i).toNat)
      case atStart => exact ⟨0, Nat.zero_le _, rfl, hide (Below.refl _ _)⟩
      case round =>
        obtain ⟨j, hj, rfl, HBI⟩ := hrel
        by_cases hjk : j < k
        · have hjl : j < hs.length := by omega
          obtain ⟨_, _, _, e, -, x, cx, hx⟩ := (HV.out.below (HB1.out.trans (HBI.out.mono HB1.out.size)) (Nat.le_refl _)).at j hjl
          simp only [Value.slice.injEq, Option.some.injEq, Addr.mk.injEq, and_true, true_and] at e
          obtain ⟨⟨rfl, rfl⟩, rfl⟩ := e
          have hxl : q < hs[j].length := by have := HF.out.len _ (List.getElem_mem hjl); have := HL.out; omega
          obtain ⟨hr1, hr2⟩ := HRED.out j hjk
          obtain ⟨xb, xoff, xcap, rfl⟩ := hx.form (by omega)
          obtain ⟨lx, xn, xo, xl, xc, x0, x1, xnum⟩ := hx.at q hxl
          have hneg : xn = false := by
            have := xnum.sgn
            cases xn
            · rfl
            · have := this.1 rfl; omega
          subst hneg
          have cu2 := (HBI.out.cell (p := ⟨b, off + k, none⟩) hlt1).trans cu1
          have q0 := (HBI.out.cell (p := ⟨rb, roff + q * 2, none⟩) lu1).trans r0
          have q1 := (HBI.out.cell (p := ⟨rb, roff + q * 2 + 1, none⟩) lu1).trans r1
          have hlb : b < wr.heap.size := Nat.lt_of_lt_of_le hlt1 HBI.out.size
          have hlr : rb < wr.heap.size := Nat.lt_of_lt_of_le lu1 HBI.out.size
          have HXN := hide xnum
          have HRN2 := hide (HRN.out.below HBI.out (Nat.le_refl _))
          have HCM : Hid (cmpI (hs[j].getD q 0) (zs.getD q 0) = -1) := if_pos hr2
          clear xnum hx hr1 hr2 r0 r1 cu1
          generalize hs[j].getD q 0 = xv at *
          generalize hs[j].length = xlen at *
          have hbx : Below wr.heap.size wr (wr.alloc (.cells #[.bool false, .slice xo xl xc] 36)) := (Below.refl _ _).alloc (Nat.le_refl _) _
          have HBX := hide hbx
          have c0 : (wr.alloc (.cells #[.bool false, .slice xo xl xc] 36)).cell? ⟨wr.heap.size, 0, none⟩ = some (.bool false) := by rw [World.cell?_alloc_new]; rfl
          have c1 : (wr.alloc (.cells #[.bool false, .slice xo xl xc] 36)).cell? ⟨wr.heap.size, 1, none⟩ = some (.slice xo xl xc) := by rw [World.cell?_alloc_new]; rfl
          have c2 := (hbx.cell (p := ⟨b, off + k, none⟩) hlb).trans cu2
          have c3 := (hbx.cell (p := ⟨rb, roff + q * 2, none⟩) hlr).trans q0
          have c4 := (hbx.cell (p := ⟨rb, roff + q * 2 + 1, none⟩) hlr).trans q1
          have HXB := hide (HXN.out.below hbx (Nat.le_refl _))
          have HRB := hide (HRN2.out.below hbx (Nat.le_refl _))
          clear hbx HXN HRN2
          go_wp2_with fail
          go_region_held3 (fun w' => w'.cell? ⟨wr.heap.size, 0, none⟩ = some (.bool false) ∧ w'.cell? ⟨wr.heap.size, 1, none⟩ = some (.slice xo xl xc) ∧ w'.cell? ⟨b, off + k, none⟩ = some (.slice (some ⟨rb, roff, none⟩) zs.length rcap) ∧ w'.cell? ⟨rb, roff + q * 2, none⟩ = some (.bool false) ∧ w'.cell? ⟨rb, roff + q * 2 + 1, none⟩ = some (.slice ro rl rc)) (go_keep)
            (first
              | (go_at_call 21; refine (compare_any _ _ _ xv (zs.getD q 0) nv nv (by exact HXB.out) (by exact HRB.out)).mono ?_; rintro e w2 ⟨rfl, hb2⟩; have p0 := (hb2.cell (p := ⟨wr.heap.size, 0, none⟩) (by simp)).trans c0; have p1 := (hb2.cell (p := ⟨wr.heap.size, 1, none⟩) (by simp)).trans c1; have p2 := (hb2.cell (p := ⟨b, off + k, none⟩) (by simp; omega)).trans c2; have p3 := (hb2.cell (p := ⟨rb, roff + q * 2, none⟩) (by simp; omega)).trans c3; have p4 := (hb2.cell (p := ⟨rb, roff + q * 2 + 1, none⟩) (by simp; omega)).trans c4; have HB2 := hide (show Below wr.heap.size wr w2 from HBX.out.drew.trans (hb2.mono (by simp))); clear hb2; rw [HCM.out]))
          have HB3 := hide (HBI.out.trans (HB2.out.mono HBI.out.size))
          clear p0 p1 p2 p3 p4 c0 c1 c2 c3 c4 q0 q1 cu2 cx x0 x1 HB2 HBI HXB HRB HCM
          go_wp2
          go_roundw
          case rel => exact ⟨j + 1, by omega, by go_num, HB3⟩
          case measure => simp [intOf]; omega
        · obtain rfl : j = k := by omega
          have HB2 := hide (HB1.out.trans (HBI.out.mono HB1.out.size))
          clear HBI HB1 cu1 r0 r1
          go_wp2
          go_roundw
          case rel => exact ⟨j + 1, by omega, by go_num, by rw [HNX.out], HB2⟩
          case measure => simp [intOf]; omega
    · obtain rfl : k = hs.length := by omega
      go_wp2
      go_ret
      exact ⟨rfl, HBE.out⟩

end Go.Proofs.Ytofegldopgkikaa

/- Rows of vectors that came in; are they light? -/
namespace Go.Proofs.Ytofegldopgkikaa
open Go.ChangeShapes Go.WideShapes Go.ChangeAt Go.RowKit Go.Joins Limbs

theorem Try.cellsVec : Try.prog.cellsOf 29 = 1 := by kernel_rfl

/-- What is known of rows that came in. -/
def MatC (W : World) (v : Value) (rss : List (List Raw)) : Prop :=
  ∃ ao cap, v = .slice ao rss.length cap ∧ rss.length ≤ cap ∧ rss.length ≤ 9223372036854775807 ∧
    (0 < rss.length → ∃ b off, ao = some ⟨b, off, none⟩ ∧ b < W.heap.size ∧ ∀ i rs, rss[i]? = some rs → ∃ u, W.cell? ⟨b, off + i, none⟩ = some u ∧ VecC W u rs)

set_option maxRecDepth 100000 in
theorem open_vecT {H : Type} {enc : TypeId × Value → H} {W : World} {n : Nat} {v : Value} {y : DataW H × List MemPlace}
    (hf : DataW.trod enc Try.prog W 0 (fun _ => true) true n 29 [v] = some y) : ∃ rs, VecC W v rs := by
  obtain ⟨a0, len, cap, e⟩ := slice_form Try.underlying29 hf
  simp only [List.cons.injEq, and_true] at e
  subst e
  rcases Go.Deep.open_slice_pairs Try.underlying29 Try.underlying36 Try.cellsNum rfl rfl Try.cellsBool Try.cellsSl hf with ⟨hcs, _⟩ | ⟨a, l, c, m, n, V0, V1, D0, D1, P0, P1, hcs, _, hl, hm, hmm, _, hc⟩
  · simp only [List.cons.injEq, Value.slice.injEq, and_true] at hcs
    obtain ⟨rfl, rfl, rfl⟩ := hcs
    exact ⟨[], none, 0, rfl, by simp, by simp, fun h => absurd h (by simp)⟩
  · simp only [List.cons.injEq, Value.slice.injEq, and_true] at hcs
    obtain ⟨rfl, rfl, rfl⟩ := hcs
    have hm' : len ≤ m := by simp at hmm; omega
    have each : ∀ i, i < len → ∃ r : Raw, V0 i = .bool r.neg ∧ V1 i = r.s ∧ CameR W r := fun i hi => by
      obtain ⟨-, -, h0, h1⟩ := hc i (by omega)
      obtain ⟨b, e0, -⟩ := DataW.trod_bool Try.underlying4 h0
      obtain ⟨r, e1, e2, e3⟩ := open_limbs h1 b
      simp only [List.cons.injEq, and_true] at e0
      exact ⟨r, by rw [e0, e1], e2.symm, e3⟩
    obtain ⟨q, hq⟩ := Go.Deep.choose_lt each
    have hlen : ((List.range len).map q).length = len := by simp
    refine ⟨(List.range len).map q, some a, cap, by rw [hlen], by rw [hlen]; exact hl, by rw [hlen]; unfold maxLen at hm; omega, fun h0 => ?_⟩
    rw [hlen] at h0
    obtain ⟨k0, -, -, -⟩ := hc 0 (by omega)
    obtain ⟨blk, off, spot⟩ := a
    have hsp : spot = none := by simpa [Addr.add] using World.cell?_spot k0
    subst hsp
    refine ⟨blk, off, rfl, by simpa [Addr.add] using World.block_lt_of_cell? W _ k0, fun i r hi => ?_⟩
    obtain ⟨hi', e⟩ := List.getElem?_eq_some_iff.1 hi
    rw [hlen] at hi'
    have e' : r = q i := by simpa using e.symm
    obtain ⟨c0, c1, -, -⟩ := hc i (by omega)
    obtain ⟨q0, q1, q2⟩ := hq i hi'
    rw [Go.WideShapes.add_plain, q0] at c0
    rw [Go.WideShapes.add_plain, q1] at c1
    rw [e']
    exact ⟨c0, c1, q2⟩

set_option maxRecDepth 100000 in
theorem open_mat {H : Type} {enc : TypeId × Value → H} {W : World} {r : Reach} {b0 : Nat} {v : Value} {d : DataW H} {p : List MemPlace}
    (hv : Value.okWide Try.prog W r b0 23 v) (h : DataW.Trod enc Try.prog W 0 (fun _ => true) true 23 v d p) :
    ∃ rss, MatC W v rss := by
  obtain ⟨a0, len, cap, rfl⟩ := okWide_slice Try.underlying23 hv
  obtain ⟨fuel, hf⟩ := h
  rcases Go.Deep.open_slice1 Try.underlying23 Try.cellsVec hf with ⟨hcs, _⟩ | ⟨a, l, c, m, n, V, D, Pl, hcs, _, hl, hm, hmm, _, hc⟩
  · simp [Value.cells] at hcs
    obtain ⟨rfl, rfl, rfl⟩ := hcs
    exact ⟨[], none, 0, rfl, by simp, by simp, fun h => absurd h (by simp)⟩
  · simp [Value.cells] at hcs
    obtain ⟨rfl, rfl, rfl⟩ := hcs
    have hm' : len ≤ m := by simp at hmm; omega
    have each : ∀ i, i < len → ∃ rs : List Raw, VecC W (V i) rs := fun i hi => open_vecT (hc i (by omega)).2
    obtain ⟨q, hq⟩ := Go.Deep.choose_lt each
    have hlen : ((List.range len).map q).length = len := by simp
    refine ⟨(List.range len).map q, some a, cap, by rw [hlen], by rw [hlen]; exact hl, by rw [hlen]; unfold maxLen at hm; omega, fun h0 => ?_⟩
    rw [hlen] at h0
    obtain ⟨k0, -⟩ := hc 0 (by omega)
    obtain ⟨blk, off, spot⟩ := a
    have hsp : spot = none := by simpa [Addr.add] using World.cell?_spot k0
    subst hsp
    refine ⟨blk, off, rfl, by simpa [Addr.add] using World.block_lt_of_cell? W _ k0, fun i rs hi => ?_⟩
    obtain ⟨hi', e⟩ := List.getElem?_eq_some_iff.1 hi
    rw [hlen] at hi'
    have e' : rs = q i := by simpa using e.symm
    obtain ⟨c0, -⟩ := hc i (by omega)
    rw [Go.WideShapes.add_plain] at c0
    rw [e']
    exact ⟨_, c0, hq i hi'⟩

theorem VecC.below {w w' : World} {v : Value} {rs : List Raw} (h : VecC w v rs) (hb : Below w.heap.size w w') : VecC w' v rs := by
  obtain ⟨ao, cap, hv, h1, h1', h2⟩ := h
  refine ⟨ao, cap, hv, h1, h1', fun h0 => ?_⟩
  obtain ⟨b, off, e, hlt, hc⟩ := h2 h0
  refine ⟨b, off, e, Nat.lt_of_lt_of_le hlt hb.size, fun i r hi => ?_⟩
  obtain ⟨h3, h4, h5, h6, h7⟩ := hc i r hi
  exact ⟨(hb.cell (p := ⟨b, off + i * 2, none⟩) hlt).trans h3, (hb.cell (p := ⟨b, off + i * 2 + 1, none⟩) hlt).trans h4, h5, h6, fun hl => (h7 hl).below hb (Nat.le_refl _)⟩

theorem MatC.below {w w' : World} {v : Value} {rss : List (List Raw)} (h : MatC w v rss) (hb : Below w.heap.size w w') : MatC w' v rss := by
  obtain ⟨ao, cap, hv, h1, h1', h2⟩ := h
  refine ⟨ao, cap, hv, h1, h1', fun h0 => ?_⟩
  obtain ⟨b, off, e, hlt, hc⟩ := h2 h0
  refine ⟨b, off, e, Nat.lt_of_lt_of_le hlt hb.size, fun i r hi => ?_⟩
  obtain ⟨u, h3, h4⟩ := hc i r hi
  exact ⟨u, (hb.cell (p := ⟨b, off + i, none⟩) hlt).trans h3, h4.below hb⟩

/-- So many limbs, together. -/
def limbsV (rs : List Raw) : Nat := (rs.map (·.zs.length)).sum
def limbsM (rss : List (List Raw)) : Nat := (rss.map limbsV).sum

def lightM (rss : List (List Raw)) (limbs : Int) : Bool := decide (rss.length ≤ 14) && rss.all lightV && decide ((limbsM rss : Int) ≤ limbs)

theorem limbsV_step (rs : List Raw) (k : Nat) (hk : k < rs.length) : limbsV (rs.take (k + 1)) = limbsV (rs.take k) + rs[k].zs.length := by
  unfold limbsV
  rw [List.take_succ_eq_append_getElem hk, List.map_append, List.sum_append]
  simp

theorem limbsM_step (rss : List (List Raw)) (k : Nat) (hk : k < rss.length) : limbsM (rss.take (k + 1)) = limbsM (rss.take k) + limbsV rss[k] := by
  unfold limbsM
  rw [List.take_succ_eq_append_getElem hk, List.map_append, List.sum_append]
  simp

theorem limbsV_le (rs : List Raw) (h : rs.all (fun r => decide (r.zs.length ≤ 8)) = true) : limbsV rs ≤ 8 * rs.length := by
  induction rs with
  | nil => simp [limbsV]
  | cons r rs ih =>
    rw [List.all_cons, Bool.and_eq_true] at h
    have h1 := of_decide_eq_true h.1
    have h2 := ih h.2
    simp only [limbsV, List.map_cons, List.sum_cons, List.length_cons] at h2 ⊢
    omega

theorem lightV_limbs {rs : List Raw} (h : lightV rs = true) : limbsV rs ≤ 80 ∧ rs.length ≤ 10 := by
  unfold lightV at h
  rw [Bool.and_eq_true] at h
  have h1 := of_decide_eq_true h.1
  have := limbsV_le rs h.2
  omega

theorem limbsM_le (rss : List (List Raw)) (h : rss.all lightV = true) : limbsM rss ≤ 80 * rss.length := by
  induction rss with
  | nil => simp [limbsM]
  | cons r rs ih =>
    rw [List.all_cons, Bool.and_eq_true] at h
    have h1 := (lightV_limbs h.1).1
    have h2 := ih h.2
    simp only [limbsM, List.map_cons, List.sum_cons, List.length_cons] at h2 ⊢
    omega

end Go.Proofs.Ytofegldopgkikaa
