/- The reference: are rows of vectors the same? -/
import Derived.Test.YtjblidoilphifabGreatDoorRefS
import Derived.Test.YtjblidoilphifabGreatDoorDigs
import Derived.Test.YtjblidoilphifabGreatDoorMatRaw
import Derived.Test.YtjblidoilphifabGreatDoorOnes

namespace Go.Proofs.YtjblidoilphifabGreatDoor
open Go.RowKit Limbs

theorem take_eq_rows {zs ys : List (List Int)} {k : Nat} (h1 : k < zs.length) (h2 : k < ys.length) (h : zs.take k = ys.take k) (e : zs[k] = ys[k]) : zs.take (k + 1) = ys.take (k + 1) := by
  rw [List.take_succ_eq_append_getElem h1, List.take_succ_eq_append_getElem h2, h, e]

set_option maxRecDepth 100000 in
set_option maxHeartbeats 1600000 in
theorem sameMat_any (w : World) (va vb : Value) (zss yss : List (List Int)) (n m : Nat) (ha : MatN w va zss n) (hb : MatN w vb yss m) (hzl : zss.length ≤ 100000) (hz : ∀ zs ∈ zss, zs.length ≤ 100000) (r : Bool) (hr : r = decide (zss = yss)) :
    Calls Tryz.prog 39 #[va, vb] w fun e w' => e = .returned (.bool r) ∧ Below w.heap.size w w' := by
  have HA := hide ha; have HB := hide hb
  have HR := hide hr; have HZ := hide hz
  clear hr hz
  by_cases hl : zss.length = yss.length
  · obtain ⟨ao, acap, rfl, -, -⟩ := ha
    obtain ⟨bo, bcap, rfl, -, -⟩ := hb
    have hl1 : ((zss.length : Int) == (yss.length : Int)) = true := by rw [beq_iff_eq]; omega
    have hl2 : ((zss.length : Int) != (yss.length : Int)) = false := by rw [bne_eq_false_iff_eq]; omega
    have HLN := hide hl
    clear hl
    go_enter Tryz.func39, Tryz.ntmps39
    go_wp2
    go_loopw [5] (fun i wr => ∃ k : Nat, k ≤ zss.length ∧ i = .int .i64 k ∧ Hid (zss.take k = yss.take k) ∧ Below w.heap.size w wr) (fun i _ => zss.length - (intOf i).toNat)
    case atStart => exact ⟨0, Nat.zero_le _, rfl, by show _ = _; simp, Below.refl _ _⟩
    case round =>
      obtain ⟨k, hk, rfl, HG, hbe⟩ := hrel
      have HBE := hide hbe
      clear hbe
      by_cases hkl : k < zss.length
      · have hky : k < yss.length := by have := HLN.out; omega
        obtain ⟨ab, aoff, _, e, la, ua, a0, na⟩ := (HA.out.below HBE.out (Nat.le_refl _)).at k hkl
        simp only [Value.slice.injEq, true_and] at e
        obtain ⟨rfl, rfl⟩ := e
        obtain ⟨bb, boff, _, e, lb, ub, b0, nb⟩ := (HB.out.below HBE.out (Nat.le_refl _)).at k hky
        simp only [Value.slice.injEq, true_and] at e
        obtain ⟨rfl, rfl⟩ := e
        have NA := hide na; have NB := hide nb
        have HTS := hide (fun e => take_eq_rows hkl hky HG.out e)
        have hzk := HZ.out _ (List.getElem_mem hkl)
        have HNE : Hid (zss[k] ≠ yss[k] → r = false) := fun h => by
          rw [HR.out]; exact decide_eq_false fun e => h (by simp only [e])
        clear na nb
        generalize zss[k] = z at *
        generalize yss[k] = y at *
        obtain ⟨uo1, uc1, rfl, -, -⟩ := NA.out
        obtain ⟨uo2, uc2, rfl, -, -⟩ := NB.out
        go_wp2_with fail
        go_region_held3 (fun w' => w'.cell? ⟨ab, aoff + k, none⟩ = some (.slice uo1 z.length uc1) ∧ w'.cell? ⟨bb, boff + k, none⟩ = some (.slice uo2 y.length uc2)) (go_keep)
          (first
            | (go_at_call 16; refine (sameVec_any _ _ _ z y n m (by exact NA.out) (by exact NB.out) hzk _ rfl).mono ?_; rintro e w1 ⟨rfl, hb1⟩; have HB1 := hide (show Below w.heap.size w w1 from HBE.out.drew.trans (hb1.mono HBE.out.size)); have p0 := (hb1.cell (p := ⟨ab, aoff + k, none⟩) la).trans a0; have p1 := (hb1.cell (p := ⟨bb, boff + k, none⟩) lb).trans b0; clear hb1))
        by_cases hz : z = y
        · have HG' := hide (HTS.out hz)
          have ez : decide (z = y) = true := decide_eq_true hz
          rw [ez]
          clear HTS HNE hz ez p0 p1 a0 b0
          go_wp2
          go_roundw
          case rel => exact ⟨k + 1, by omega, by go_num, HG', HB1.out⟩
          case measure => simp [intOf]; omega
        · have ez : decide (z = y) = false := decide_eq_false hz
          rw [ez]
          obtain rfl : r = false := HNE.out hz
          clear HTS HNE hz ez p0 p1 a0 b0
          go_wp2
          go_ret
          exact ⟨rfl, HB1.out⟩
      · obtain rfl : k = zss.length := by omega
        have HE : Hid (zss = yss) := by
          have := HG.out
          rw [List.take_length, List.take_of_length_le (by have := HLN.out; omega)] at this
          exact this
        obtain rfl : r = true := by rw [HR.out]; exact decide_eq_true HE.out
        clear HG HE
        go_wp2
        go_ret
        exact ⟨rfl, HBE.out⟩
  · obtain ⟨ao, acap, rfl, -, -⟩ := ha
    obtain ⟨bo, bcap, rfl, -, -⟩ := hb
    have hl1 : ((zss.length : Int) == (yss.length : Int)) = false := by rw [beq_eq_false_iff_ne]; omega
    have hl2 : ((zss.length : Int) != (yss.length : Int)) = true := by rw [bne_iff_ne]; omega
    obtain rfl : r = false := by rw [HR.out]; exact decide_eq_false fun e => hl (by rw [e])
    go_enter Tryz.func39, Tryz.ntmps39
    go_wp2
    go_ret
    exact ⟨rfl, Below.refl _ _⟩

end Go.Proofs.YtjblidoilphifabGreatDoor

/- Rows of vectors that came in; are they light? -/
namespace Go.Proofs.YtjblidoilphifabGreatDoor
open Go.ChangeShapes Go.WideShapes Go.ChangeAt Go.RowKit Go.Joins Limbs

theorem Tryz.cellsVec : Tryz.prog.cellsOf 23 = 1 := by kernel_rfl

/-- What is known of rows that came in. -/
def MatC (W : World) (v : Value) (rss : List (List Raw)) : Prop :=
  ∃ ao cap, v = .slice ao rss.length cap ∧ rss.length ≤ cap ∧ rss.length ≤ 9223372036854775807 ∧
    (0 < rss.length → ∃ b off, ao = some ⟨b, off, none⟩ ∧ b < W.heap.size ∧ ∀ i rs, rss[i]? = some rs → ∃ u, W.cell? ⟨b, off + i, none⟩ = some u ∧ VecC W u rs)

set_option maxRecDepth 100000 in
theorem open_vecT {H : Type} {enc : TypeId × Value → H} {W : World} {n : Nat} {v : Value} {y : DataW H × List MemPlace}
    (hf : DataW.trod enc Tryz.prog W 0 (fun _ => true) true n 23 [v] = some y) : ∃ rs, VecC W v rs := by
  obtain ⟨a0, len, cap, e⟩ := slice_form Tryz.underlying23 hf
  simp only [List.cons.injEq, and_true] at e
  subst e
  rcases Go.Deep.open_slice_pairs Tryz.underlying23 Tryz.underlying26 Tryz.cellsNum rfl rfl Tryz.cellsBool Tryz.cellsSl hf with ⟨hcs, _⟩ | ⟨a, l, c, m, n, V0, V1, D0, D1, P0, P1, hcs, _, hl, hm, hmm, _, hc⟩
  · simp only [List.cons.injEq, Value.slice.injEq, and_true] at hcs
    obtain ⟨rfl, rfl, rfl⟩ := hcs
    exact ⟨[], none, 0, rfl, by simp, by simp, fun h => absurd h (by simp)⟩
  · simp only [List.cons.injEq, Value.slice.injEq, and_true] at hcs
    obtain ⟨rfl, rfl, rfl⟩ := hcs
    have hm' : len ≤ m := by simp at hmm; omega
    have each : ∀ i, i < len → ∃ r : Raw, V0 i = .bool r.neg ∧ V1 i = r.s ∧ CameR W r := fun i hi => by
      obtain ⟨-, -, h0, h1⟩ := hc i (by omega)
      obtain ⟨b, e0, -⟩ := DataW.trod_bool Tryz.underlying4 h0
      obtain ⟨r, e1, e2, e3⟩ := open_limbs h1 b
      simp only [List.cons.injEq, and_true] at e0
      exact ⟨r, by rw [e0, e1], e2.symm, e3⟩
    obtain ⟨q, hq⟩ := Go.Deep.choose_lt each
    have hlen : ((List.range len).map q).length = len := by simp
    refine ⟨(List.range len).map q, some a, cap, by rw [hlen], by rw [hlen]; exact hl, by rw [hlen]; unfold maxLen at hm; omega, fun h0 => ?_⟩
    rw [hlen] at h0
    obtain ⟨k0, -, -, -⟩ := hc 0 (by omega)
    obtain ⟨blk, off, spot⟩ := a
    have hsp : spot = none := by simpa [Addr.add] using World.cell?_spot k0
    subst hsp
    refine ⟨blk, off, rfl, by simpa [Addr.add] using World.block_lt_of_cell? W _ k0, fun i r hi => ?_⟩
    obtain ⟨hi', e⟩ := List.getElem?_eq_some_iff.1 hi
    rw [hlen] at hi'
    have e' : r = q i := by simpa using e.symm
    obtain ⟨c0, c1, -, -⟩ := hc i (by omega)
    obtain ⟨q0, q1, q2⟩ := hq i hi'
    rw [Go.WideShapes.add_plain, q0] at c0
    rw [Go.WideShapes.add_plain, q1] at c1
    rw [e']
    exact ⟨c0, c1, q2⟩

set_option maxRecDepth 100000 in
theorem open_mat {H : Type} {enc : TypeId × Value → H} {W : World} {r : Reach} {b0 : Nat} {v : Value} {d : DataW H} {p : List MemPlace}
    (hv : Value.okWide Tryz.prog W r b0 28 v) (h : DataW.Trod enc Tryz.prog W 0 (fun _ => true) true 28 v d p) :
    ∃ rss, MatC W v rss := by
  obtain ⟨a0, len, cap, rfl⟩ := okWide_slice Tryz.underlying28 hv
  obtain ⟨fuel, hf⟩ := h
  rcases Go.Deep.open_slice1 Tryz.underlying28 Tryz.cellsVec hf with ⟨hcs, _⟩ | ⟨a, l, c, m, n, V, D, Pl, hcs, _, hl, hm, hmm, _, hc⟩
  · simp [Value.cells] at hcs
    obtain ⟨rfl, rfl, rfl⟩ := hcs
    exact ⟨[], none, 0, rfl, by simp, by simp, fun h => absurd h (by simp)⟩
  · simp [Value.cells] at hcs
    obtain ⟨rfl, rfl, rfl⟩ := hcs
    have hm' : len ≤ m := by simp at hmm; omega
    have each : ∀ i, i < len → ∃ rs : List Raw, VecC W (V i) rs := fun i hi => open_vecT (hc i (by omega)).2
    obtain ⟨q, hq⟩ := Go.Deep.choose_lt each
    have hlen : ((List.range len).map q).length = len := by simp
    refine ⟨(List.range len).map q, some a, cap, by rw [hlen], by rw [hlen]; exact hl, by rw [hlen]; unfold maxLen at hm; omega, fun h0 => ?_⟩
    rw [hlen] at h0
    obtain ⟨k0, -⟩ := hc 0 (by omega)
    obtain ⟨blk, off, spot⟩ := a
    have hsp : spot = none := by simpa [Addr.add] using World.cell?_spot k0
    subst hsp
    refine ⟨blk, off, rfl, by simpa [Addr.add] using World.block_lt_of_cell? W _ k0, fun i rs hi => ?_⟩
    obtain ⟨hi', e⟩ := List.getElem?_eq_some_iff.1 hi
    rw [hlen] at hi'
    have e' : rs = q i := by simpa using e.symm
    obtain ⟨c0, -⟩ := hc i (by omega)
    rw [Go.WideShapes.add_plain] at c0
    rw [e']
    exact ⟨_, c0, hq i hi'⟩

theorem VecC.below {w w' : World} {v : Value} {rs : List Raw} (h : VecC w v rs) (hb : Below w.heap.size w w') : VecC w' v rs := by
  obtain ⟨ao, cap, hv, h1, h1', h2⟩ := h
  refine ⟨ao, cap, hv, h1, h1', fun h0 => ?_⟩
  obtain ⟨b, off, e, hlt, hc⟩ := h2 h0
  refine ⟨b, off, e, Nat.lt_of_lt_of_le hlt hb.size, fun i r hi => ?_⟩
  obtain ⟨h3, h4, h5, h6, h7⟩ := hc i r hi
  exact ⟨(hb.cell (p := ⟨b, off + i * 2, none⟩) hlt).trans h3, (hb.cell (p := ⟨b, off + i * 2 + 1, none⟩) hlt).trans h4, h5, h6, fun hl => (h7 hl).below hb (Nat.le_refl _)⟩

theorem MatC.below {w w' : World} {v : Value} {rss : List (List Raw)} (h : MatC w v rss) (hb : Below w.heap.size w w') : MatC w' v rss := by
  obtain ⟨ao, cap, hv, h1, h1', h2⟩ := h
  refine ⟨ao, cap, hv, h1, h1', fun h0 => ?_⟩
  obtain ⟨b, off, e, hlt, hc⟩ := h2 h0
  refine ⟨b, off, e, Nat.lt_of_lt_of_le hlt hb.size, fun i r hi => ?_⟩
  obtain ⟨u, h3, h4⟩ := hc i r hi
  exact ⟨u, (hb.cell (p := ⟨b, off + i, none⟩) hlt).trans h3, h4.below hb⟩

/-- So many limbs, together. -/
def limbsV (rs : List Raw) : Nat := (rs.map (·.zs.length)).sum
def limbsM (rss : List (List Raw)) : Nat := (rss.map limbsV).sum

def lightM (rss : List (List Raw)) (limbs : Int) : Bool := decide (rss.length ≤ 14) && rss.all lightV && decide ((limbsM rss : Int) ≤ limbs)

theorem limbsV_step (rs : List Raw) (k : Nat) (hk : k < rs.length) : limbsV (rs.take (k + 1)) = limbsV (rs.take k) + rs[k].zs.length := by
  unfold limbsV
  rw [List.take_succ_eq_append_getElem hk, List.map_append, List.sum_append]
  simp

theorem limbsM_step (rss : List (List Raw)) (k : Nat) (hk : k < rss.length) : limbsM (rss.take (k + 1)) = limbsM (rss.take k) + limbsV rss[k] := by
  unfold limbsM
  rw [List.take_succ_eq_append_getElem hk, List.map_append, List.sum_append]
  simp

theorem limbsV_le (rs : List Raw) (h : rs.all (fun r => decide (r.zs.length ≤ 8)) = true) : limbsV rs ≤ 8 * rs.length := by
  induction rs with
  | nil => simp [limbsV]
  | cons r rs ih =>
    rw [List.all_cons, Bool.and_eq_true] at h
    have h1 := of_decide_eq_true h.1
    have h2 := ih h.2
    simp only [limbsV, List.map_cons, List.sum_cons, List.length_cons] at h2 ⊢
    omega

theorem lightV_limbs {rs : List Raw} (h : lightV rs = true) : limbsV rs ≤ 80 ∧ rs.length ≤ 10 := by
  unfold lightV at h
  rw [Bool.and_eq_true] at h
  have h1 := of_decide_eq_true h.1
  have := limbsV_le rs h.2
  omega

theorem limbsM_le (rss : List (List Raw)) (h : rss.all lightV = true) : limbsM rss ≤ 80 * rss.length := by
  induction rss with
  | nil => simp [limbsM]
  | cons r rs ih =>
    rw [List.all_cons, Bool.and_eq_true] at h
    have h1 := (lightV_limbs h.1).1
    have h2 := ih h.2
    simp only [limbsM, List.map_cons, List.sum_cons, List.length_cons] at h2 ⊢
    omega

end Go.Proofs.YtjblidoilphifabGreatDoor

/- Are rows light? -/
namespace Go.Proofs.YtjblidoilphifabGreatDoor
open Go.RowKit Limbs

set_option maxRecDepth 100000 in
set_option maxHeartbeats 4000000 in
theorem lightM_any (w : World) (v : Value) (rss : List (List Raw)) (limbs : Int) (hv : MatC w v rss) (b : Bool) (hb : b = lightM rss limbs) :
    Calls Tryz.prog 10 #[v, .int .i64 limbs] w fun e w' => e = .returned (.bool b) ∧ w' = w := by
  have HB := hide hb
  have HV := hide hv
  obtain ⟨ao, cap, rfl, -, hmx, hc⟩ := hv
  clear hb
  by_cases h14 : 14 < rss.length
  · have hl : (14 : Int) < (rss.length : Int) := by omega
    have hbf : b = false := by rw [HB.out]; unfold lightM; rw [decide_eq_false (by omega)]; rfl
    subst hbf
    clear hc
    go_enter Tryz.func10, Tryz.ntmps10
    go_wp2
    go_ret
    exact ⟨rfl, rfl⟩
  · have hl : ¬ ((14 : Int) < (rss.length : Int)) := by omega
    have HE : Hid (b = (rss.all lightV && decide ((limbsM rss : Int) ≤ limbs))) := by
      show _ = _
      rw [HB.out]; unfold lightM; rw [decide_eq_true (by omega), Bool.true_and]
    clear HB
    have HC := hide hc
    clear hc
    go_enter Tryz.func10, Tryz.ntmps10
    go_wp2
    go_loop [5, 6] (fun n i => ∃ k : Nat, k ≤ rss.length ∧ i = .int .i64 k ∧ n = .int .i64 (limbsM (rss.take k) : Nat) ∧ Hid ((rss.take k).all lightV = true)) (fun _ i => rss.length - (intOf i).toNat)
    case atStart => exact ⟨0, Nat.zero_le _, rfl, rfl, by show _ = _; simp⟩
    case round =>
      obtain ⟨k, hk, rfl, rfl, HG⟩ := hrel
      have hle := limbsM_le (rss.take k) HG.out
      have hlen : (rss.take k).length = k := by rw [List.length_take]; omega
      by_cases hkl : k < rss.length
      · obtain ⟨bk, off, rfl, hlt, hc⟩ := HC.out (by omega)
        obtain ⟨u, c0, hu⟩ := hc k rss[k] (by simp [hkl])
        clear hc
        have HU := hide hu
        have HT : Hid ((rss.take (k + 1)).all lightV = lightV rss[k]) := by
          show _ = _
          rw [List.take_succ_eq_append_getElem hkl, List.all_append, HG.out]; simp
        have HF : Hid (lightV rss[k] = false → rss.all lightV = false) := fun h => by
          rw [List.all_eq_false]; exact ⟨rss[k], List.getElem_mem hkl, by simp [h]⟩
        have HS := hide (limbsM_step rss k hkl)
        generalize limbsM (rss.take k) = N0 at *
        generalize rss[k] = rs at *
        go_wp2_with fail
        refine (lightV_any w u rs HU.out (lightV rs) rfl).mono ?_
        rintro e w1 ⟨rfl, rfl⟩
        cases hlv : lightV rs
        · have hbf : b = false := by rw [HE.out, HF.out hlv]; rfl
          subst hbf
          clear HT HF HS HE HG
          go_wp2
          go_ret
          exact ⟨rfl, rfl⟩
        · have HG' := hide (HT.out.trans hlv)
          obtain ⟨hlm, hl10⟩ := lightV_limbs hlv
          have H8 : Hid (rs.all (fun r => decide (r.zs.length ≤ 8)) = true) := by
            unfold lightV at hlv
            rw [Bool.and_eq_true] at hlv
            exact hlv.2
          clear HT HF HG hlv
          obtain ⟨vo, vcap, rfl, -, -, hc⟩ := hu
          have HC2 := hide hc
          clear hc
          go_wp2
          go_loop [5, 8] (fun n j => ∃ q : Nat, q ≤ rs.length ∧ j = .int .i64 q ∧ n = .int .i64 (N0 + limbsV (rs.take q) : Nat)) (fun _ j => rs.length - (intOf j).toNat)
          case atStart => exact ⟨0, Nat.zero_le _, rfl, rfl⟩
          case round =>
            obtain ⟨q, hq, rfl, rfl⟩ := hrel
            by_cases hql : q < rs.length
            · obtain ⟨vb, voff, rfl, hvlt, hc⟩ := HC2.out (by omega)
              obtain ⟨d0, d1, ⟨o, c, hs⟩, hz, -⟩ := hc q rs[q] (by simp [hql])
              clear hc
              have HSV := hide (limbsV_step rs q hql)
              have hz8 : rs[q].zs.length ≤ 8 := of_decide_eq_true (List.all_eq_true.1 H8.out _ (List.getElem_mem hql))
              have hb1 : limbsV (rs.take q) ≤ 80 := by
                have h2 := limbsV_le (rs.take q) (List.all_eq_true.2 fun r hr => List.all_eq_true.1 H8.out r (List.mem_of_mem_take hr))
                rw [List.length_take] at h2
                omega
              generalize limbsV (rs.take q) = M0 at *
              generalize rs[q] = r at *
              obtain ⟨rn, rsl, rz⟩ := r
              simp only at hs hz hz8 d0 d1
              subst hs
              go_wp2
              go_round
              case rel => exact ⟨q + 1, by omega, by go_num, by rw [HSV.out]; go_num⟩
              case measure => simp [intOf]; omega
            · obtain rfl : q = rs.length := by omega
              have HN1 : Hid (N0 + limbsV (rs.take rs.length) = limbsM (rss.take (k + 1))) := by
                show _ = _
                rw [List.take_length]; exact HS.out.symm
              have hle2 : limbsM (rss.take (k + 1)) ≤ 80 * 14 + 80 := by have := HS.out; omega
              rw [HN1.out]
              clear HN1 HS
              go_wp2
              go_round
              case rel => exact ⟨k + 1, by omega, by go_num, rfl, HG'⟩
              case measure => simp [intOf]; omega
      · obtain rfl : k = rss.length := by omega
        have HFN : Hid (b = decide ((limbsM rss : Int) ≤ limbs)) := by
          show _ = _
          have := HG.out
          rw [List.take_length] at this
          rw [HE.out, this, Bool.true_and]
        rw [List.take_length] at hle
        clear HG HE
        rw [List.take_length]
        generalize limbsM rss = N0 at *
        obtain rfl := HFN.out
        clear HFN
        go_wp2
        go_ret
        exact ⟨rfl, rfl⟩

end Go.Proofs.YtjblidoilphifabGreatDoor

/- Light rows are such as may be read whole. -/
namespace Go.Proofs.YtjblidoilphifabGreatDoor
open Go.RowKit Limbs

theorem lightV_eight {rs : List Raw} (h : lightV rs = true) : ∀ r ∈ rs, r.zs.length ≤ 8 := by
  unfold lightV at h
  rw [Bool.and_eq_true] at h
  exact fun r hr => of_decide_eq_true (List.all_eq_true.1 h.2 r hr)

theorem MatC.light {w : World} {v : Value} {rss : List (List Raw)} (h : MatC w v rss) (hl : ∀ rs ∈ rss, lightV rs = true) : MatL w v rss := by
  obtain ⟨ao, cap, hv, h1, -, h2⟩ := h
  refine ⟨ao, cap, hv, h1, fun h0 => ?_⟩
  obtain ⟨b, off, e, hlt, hc⟩ := h2 h0
  refine ⟨b, off, e, hlt, fun i rs hi => ?_⟩
  obtain ⟨u, h3, h4⟩ := hc i rs hi
  exact ⟨u, h3, h4.light fun r hr => Nat.le_trans (lightV_eight (hl rs (List.mem_of_getElem? hi)) r hr) (by decide)⟩

theorem lightM_parts {rss : List (List Raw)} {n : Int} (h : lightM rss n = true) : rss.length ≤ 14 ∧ ∀ rs ∈ rss, lightV rs = true := by
  unfold lightM at h
  rw [Bool.and_eq_true, Bool.and_eq_true] at h
  exact ⟨of_decide_eq_true h.1.1, fun rs hr => List.all_eq_true.1 h.1.2 rs hr⟩

end Go.Proofs.YtjblidoilphifabGreatDoor

/- The one form of rows: it is in the one form, generates the same, and its numbers are not too great. -/
namespace Go.Proofs.YtjblidoilphifabGreatDoor
open Go.RowKit Limbs

theorem one_bound {l : List (List Int)} {n nv : Nat} {R : Nat → Option (List Int)} (hp : Pos R) (hE : Ech R n n) (ha : Alikes n (RowsOf R) (InL l)) (hl : ∀ us ∈ l, us.length = n) (hb : ∀ us ∈ l, ∀ j, j < n → ab (us.getD j 0) < bp nv) (hn : n ≤ 16) :
    ∀ i a r, i ≤ n → n - i ≤ a → tidyN R n i a = some r → ∀ j, j < r.length → ab (r.getD j 0) < bp (n * nv + 2) := by
  obtain ⟨q, hq, hbd⟩ := tidy_bound hp hE ha l.length (fun k b => (l.getD k []).getD b 0) (bp nv) (by have := bp_pos nv; omega) (fun a b ha hb' => Int.le_of_lt (hb _ (getD_mem ha) b hb'))
    (fun v hv hvl => by
      obtain ⟨k, hk, e⟩ := List.getElem_of_mem hv
      exact ⟨k, hk, fun b _ => by rw [getD_row hk, e]⟩)
    (fun k hk => ⟨l.getD k [], getD_mem hk, hl _ (getD_mem hk), fun _ _ => rfl⟩)
  intro i a r hi ha' e j hj
  have e' : tidyN R n n a = some r := by rw [tidyN_stays hi (Nat.le_refl _) ha']; exact e
  have hlen := (hE.all (Nat.le_refl n) n).len a r e'
  have h1 := hbd a r e' j (by omega)
  have h2 := facP_lt (v := nv) hq hn
  exact Int.lt_of_le_of_lt h1 h2

theorem tidy_none (n k : Nat) : tidyN (fun _ => none) n k = fun _ => none := by
  induction k with
  | zero => rfl
  | succ k ih =>
    show tidyAt (tidyN (fun _ => none) n k) n (n - 1 - k) = _
    rw [ih]
    funext i
    unfold tidyAt
    split <;> rfl

/-- While rows are put in: k of them are. -/
structure OneI (w wr : World) (sb n S0 : Nat) (rows : Nat → Option (List Int)) (ms : List (List Int)) (k : Nat) : Prop where
  st : StairO w wr sb n rows n (fun _ => S0)
  tid : ∃ rows0, Ech rows0 n n ∧ Pos rows0 ∧ rows = tidyN rows0 n n
  gen : Alikes n (RowsOf rows) (InL (ms.take k))

theorem OneI.ech {w wr : World} {sb n S0 : Nat} {rows : Nat → Option (List Int)} {ms : List (List Int)} {k : Nat} (h : OneI w wr sb n S0 rows ms k) : Ech rows n n := by
  obtain ⟨r0, h1, -, rfl⟩ := h.tid
  exact h1.all (Nat.le_refl n) n

theorem StairO.pos {w W : World} {sb m : Nat} {rows : Nat → Option (List Int)} {len : Nat} {ns : Nat → Nat} (h : StairO w W sb m rows len ns) (hE : Ech rows len m) : Pos rows := fun i r e => by
  obtain ⟨P, -, -, -, -, h5⟩ := h.row i (hE.lt i r e) r e
  exact h5

theorem made_one (m i : Nat) (hi : i < m) : (madeCells #[.slice none 0 0] m)[i]? = some (.slice none 0 0) := by
  simp [madeCells, hi, Nat.mod_one]

theorem StairO.made (w W : World) (hb : Below w.heap.size w W) (m len : Nat) (ns : Nat → Nat) : StairO w (W.alloc (.cells (madeCells #[.slice none 0 0] m) 23)) W.heap.size m (fun _ => none) len ns where
  lt := by simp
  low := hb.size
  below := hb.alloc hb.size _
  blk := ⟨_, _, heap_alloc_new W _⟩
  nil := fun i hi _ => by
    rw [World.cell?_alloc_new]
    exact made_one m i hi
  row := fun i hi r e => by cases e

theorem VecN.off {w : World} {v : Value} {zs : List Int} {n sb : Nat} (h : VecN w v zs n) (h0 : 0 < zs.length) (hs : w.heap.size ≤ sb) : ∀ b o l c, v = .slice (some ⟨b, o, none⟩) l c → b ≠ sb := by
  obtain ⟨ao, cap, rfl, -, h2⟩ := h
  obtain ⟨b', off, rfl, hlt, -⟩ := h2 h0
  intro b o l c e
  simp only [Value.slice.injEq, Option.some.injEq, Addr.mk.injEq, and_true] at e
  omega

theorem nbK_room {n S0 nv : Nat} (hn1 : 1 ≤ n) (hN : nbK n S0 nv n ≤ 100000) : 200001 + n * (S0 + 3) ≤ 300000 := by
  have h1 : nbK n S0 nv 1 ≤ nbK n S0 nv n := nbK_mono hn1
  have h2 : nbK n S0 nv 1 = nv + (n - 0 + 1) * (S0 + 3) := rfl
  have h3 : (n - 0 + 1) * (S0 + 3) = n * (S0 + 3) + (S0 + 3) := by rw [Nat.sub_zero, Nat.succ_mul]
  omega

theorem run_mkSt (m : Nat) (hm : m ≤ 1000) (W : World) : (Instr.makeSlice 134 (.int .i64 (m : Int)) (.int .i64 (m : Int))).run Tryz.prog W = .ok (.slice (some ⟨W.heap.size, 0, none⟩) m m) (W.alloc (.cells (madeCells #[.slice none 0 0] m) 23)) := by
  obtain ⟨i0, hi, hz0, hz1, hz2⟩ := info_parts Tryz.infoVec
  have h := run_make (P := Tryz.prog) W 134 23 i0 (.slice none 0 0) (by kernel_rfl) hi hz0 .i64 .i64 m m (by omega) (by omega) (by rw [hz2]; omega) (by omega)
  rw [hz1, Int.toNat_natCast, Nat.mul_one] at h
  exact h

set_option maxRecDepth 100000 in
set_option maxHeartbeats 1600000 in
theorem oneForm_any (w : World) (v : Value) (ms : List (List Int)) (n nv : Nat) (hv : MatN w v ms nv) (hr : ∀ us ∈ ms, us.length = n) (hn1 : 1 ≤ n) (hn : n ≤ 16) (hm : ms.length ≤ 1000) (hN : nbK n (n * nv + 2) nv n ≤ 100000) :
    Calls Tryz.prog 68 #[v, .int .i64 (n : Int)] w fun e w' => ∃ u hs p, e = .returned u ∧ MatN w' u hs (n * nv + 2) ∧ hs.length ≤ n ∧ Below w.heap.size w w' ∧ FormL n hs p ∧ Alikes n (InL hs) (InL ms) := by
  obtain ⟨j0, hj, hy0, hy1, hy2⟩ := info_parts Tryz.infoVec
  have HJ := hide hj; have HY0 := hide hy0; have HY1 := hide hy1; have HY2 := hide hy2
  clear hj hy0 hy1 hy2
  have HV := hide hv; have HR := hide hr; have HN := hide hN
  have HRO := hide (nbK_room hn1 hN)
  obtain ⟨ao, cap, rfl, -, -⟩ := hv
  clear hr hN
  generalize hS0 : n * nv + 2 = S0 at *
  have HS0 := hide hS0
  clear hS0
  have HBM : Hid (∀ us ∈ ms, ∀ j, j < n → ab (us.getD j 0) < bp nv) := fun us hus j hj => by
    obtain ⟨i, hi, e⟩ := List.getElem_of_mem hus
    obtain ⟨b, off, cap', e1, hlt, u, hc, hu⟩ := HV.out.at i hi
    rw [e] at hu
    obtain ⟨b', off', cap2, e2⟩ := hu.form (by rw [HR.out us hus]; omega)
    subst e2
    obtain ⟨-, neg, o, l, c, -, -, hz⟩ := hu.at j (by rw [HR.out us hus]; exact hj)
    exact hz.ab_lt
  have hmk := run_mkSt n (by omega)
  have HI0 : Hid (OneI w (w.alloc (.cells (madeCells #[.slice none 0 0] n) 23)) w.heap.size n S0 (fun _ => none) ms 0) := hide
    ⟨StairO.made w w (Below.refl _ _) n n _, ⟨fun _ => none, ⟨fun i r e => (by cases e), fun i r e => (by cases e), fun i r e => (by cases e)⟩, fun i r e => (by cases e), (tidy_none n n).symm⟩, .of (fun v hv _ => by obtain ⟨i, e⟩ := hv; cases e) (fun v hv _ => by rw [List.take_zero] at hv; cases hv)⟩
  go_enter Tryz.func68, Tryz.ntmps68
  go_wp2
  clear hmk
  go_loopw [13] (fun i wr => ∃ k : Nat, k ≤ ms.length ∧ i = .int .i64 k ∧ ∃ rows, Hid (OneI w wr w.heap.size n S0 rows ms k)) (fun i _ => ms.length - (intOf i).toNat)
  case atStart => exact ⟨0, Nat.zero_le _, rfl, _, HI0⟩
  case round =>
    clear HI0
    obtain ⟨k, hk, rfl, rows, HI⟩ := hrel
    by_cases hkl : k < ms.length
    · obtain ⟨b, off, _, e, hblt, u, cu0, hu⟩ := HV.out.at k hkl
      simp only [Value.slice.injEq, true_and] at e
      obtain ⟨rfl, rfl⟩ := e
      have cu : wr.cell? ⟨b, off + k, none⟩ = some u := (HI.out.st.below.cell (p := ⟨b, off + k, none⟩) hblt).trans cu0
      have hul := HR.out _ (List.getElem_mem hkl)
      have HOF := hide (hu.off (by omega) (Nat.le_refl _))
      have HU := hide (hu.below HI.out.st.below (Nat.le_refl _))
      have HTK : Hid (ms.take (k + 1) = ms.take k ++ [ms[k]]) := List.take_succ_eq_append_getElem hkl
      obtain ⟨vo, vcap, rfl, -, -⟩ := hu
      have HUL := hide hul
      clear hul
      have hvl : b < wr.heap.size := Nat.lt_of_lt_of_le hblt HI.out.st.below.size
      have HIN := hide (insert_any w wr w.heap.size n S0 nv rows _ ms[k] HI.out.st HI.out.ech HU.out HUL.out HOF.out (by omega) HN.out)
      clear cu0 HU HOF
      go_wp2_with fail
      refine HIN.out.mono ?_
      rintro e w1 ⟨rfl, R, hst, hech, hal⟩
      have hal' : Alikes n (RowsOf R) (InL (ms.take (k + 1))) := by
        rw [HTK.out]
        exact hal.trans (alikes_or HI.out.gen)
      have hpos := hst.pos hech
      have HTD := hide (tidy_any w w1 w.heap.size n n S0 200001 R hst hech (Nat.le_refl n) (by omega) HRO.out (by
        rw [← HS0.out]
        exact one_bound hpos hech hal' (fun us h => HR.out us (List.mem_of_mem_take h)) (fun us h => HBM.out us (List.mem_of_mem_take h)) hn))
      have HNX : Hid (∀ w2, StairO w w2 w.heap.size n (tidyN R n n) n (fun _ => S0) → OneI w w2 w.heap.size n S0 (tidyN R n n) ms (k + 1)) := fun w2 h =>
        ⟨h, ⟨R, hech, hpos, rfl⟩, (alikes_tidy hech (Nat.le_refl n) n).trans hal'⟩
      clear hst hech hal hal' hpos HIN HI cu
      go_wp2_with fail
      refine HTD.out.mono ?_
      rintro e w2 ⟨rfl, hst2⟩
      have HN2 := hide (HNX.out w2 hst2)
      clear hst2 HNX HTD
      go_wp2
      go_roundw
      case rel => exact ⟨k + 1, by omega, by go_num, _, HN2⟩
      case measure => simp [intOf]; omega
    · obtain rfl : k = ms.length := by omega
      have HFO : Hid (∃ p, FormL n (rowsL rows n) p) := by
        obtain ⟨r0, h1, h2, rfl⟩ := HI.out.tid
        exact tidy_formL h2 h1
      have HAL : Hid (Alikes n (InL (rowsL rows n)) (InL ms)) := by
        have := HI.out.gen
        rw [List.take_length] at this
        exact (alikes_rowsL HI.out.ech).trans this
      obtain ⟨wo, rfl⟩ : ∃ wo : World, wo = wr := ⟨_, rfl⟩
      go_wp2
      go_loopw [7, 26] (fun out i wr => ∃ (q : Nat) (qs : List (Value × List Int)), q ≤ n ∧ i = .int .i64 q ∧ Hid (wr.ownsRow wo.heap.size 23 1 out qs.length (qs.map (·.1))) ∧ Hid (qs.map (·.2) = rowsL rows q) ∧ Hid (∀ p ∈ qs, VecN wo p.1 p.2 S0) ∧ Hid (Below wo.heap.size wo wr)) (fun _ i _ => n - (intOf i).toNat)
      case atStart => exact ⟨0, [], Nat.zero_le _, rfl, hide (World.ownsRow_nil _ _ _ _), hide rfl, hide (fun _ h => by cases h), hide (Below.refl _ _)⟩
      case round =>
        obtain ⟨q, qs, hq, rfl, HOW, HQ, HQV, HB⟩ := hrel
        have hlo := HI.out.st.lt
        have hql2 : qs.length ≤ q := by
          have h1 := congrArg List.length HQ.out
          rw [List.length_map] at h1
          have h2 := rowsL_len rows q
          omega
        by_cases hql : q < n
        · have hlw : w.heap.size < wr.heap.size := Nat.lt_of_lt_of_le hlo HB.out.size
          cases hrq : rows q with
          | none =>
            have c0 := (HB.out.cell (p := ⟨w.heap.size, q, none⟩) hlo).trans (HI.out.st.nil q hql hrq)
            have hbo := run_nil_ne wr
            have HQ' : Hid (qs.map (·.2) = rowsL rows (q + 1)) := HQ.out.trans (rowsL_none hrq).symm
            clear hrq HQ hql2
            go_wp2
            go_roundw
            case rel => exact ⟨q + 1, qs, by omega, by go_num, HOW, HQ', HQV, HB⟩
            case measure => simp [intOf]; omega
          | some r =>
            obtain ⟨P, hc, hvO, -, -, -⟩ := HI.out.st.row q hql r hrq
            have c0 := (HB.out.cell (p := ⟨w.heap.size, q, none⟩) hlo).trans hc
            have hbo := run_some_ne wr ⟨P, 0, none⟩ r.length r.length
            have HQ' : Hid ((qs ++ [(Value.slice (some ⟨P, 0, none⟩) r.length r.length, r)]).map (·.2) = rowsL rows (q + 1)) := by
              show _ = _
              rw [List.map_append, HQ.out, rowsL_some hrq]; rfl
            have HQV' : Hid (∀ p ∈ qs ++ [(Value.slice (some ⟨P, 0, none⟩) r.length r.length, r)], VecN wo p.1 p.2 S0) := fun p hp => by
              rcases List.mem_append.1 hp with h | h
              · exact HQV.out p h
              · rw [List.mem_singleton] at h
                rw [h]
                exact hvO.vec
            have hown := HOW.out
            have hbs := HB.out.size
            have hj := HJ.out; have hy0 := HY0.out; have hy1 := HY1.out; have hy2 := HY2.out
            clear hrq HQ hc hvO HQV
            go_wp2_with (at_builtin; refine wpList_append_lies _ rfl _ _ 28 rfl wo.heap.size 23 j0 (.slice none 0 0) 1 24 (by kernel_rfl) hj hy0 hy1 hy2 rfl (by decide) u7 qs.length (qs.map (·.1)) rfl (hown.alloc _) ⟨wr.heap.size, 0, none⟩ 1 1 [.slice (some ⟨P, 0, none⟩) r.length r.length] rfl rfl (World.news_of_block (heap_alloc_new wr _)) (fun u hu => by rw [List.mem_singleton] at hu; rw [hu]; rfl) (by decide) (by unfold maxLen; omega) (by omega) (by simp; omega) (wr.heap.size + 1) (by simp) ?_)
            intro g cap' w5 hown5 hgrow5 hat5 hlt5
            have HOW5 : Hid (w5.ownsRow wo.heap.size 23 1 (.slice (some ⟨g, 0, none⟩) (qs.length + 1) cap') (qs ++ [(Value.slice (some ⟨P, 0, none⟩) r.length r.length, r)]).length ((qs ++ [(Value.slice (some ⟨P, 0, none⟩) r.length r.length, r)]).map (·.1))) := by
              show World.ownsRow ..
              rw [List.length_append, List.length_singleton, List.map_append]
              exact hown5
            have HB5 := hide (HB.out.trans (owns_below hown HB.out.size hgrow5))
            clear hown hown5 hgrow5 hat5 hlt5 hj hy0 hy1 hy2 HOW HB c0 hbo
            go_wp2
            go_roundw
            case rel => exact ⟨q + 1, _, by omega, by go_num, HOW5, HQ', HQV', HB5⟩
            case measure => simp [intOf]; omega
        · obtain rfl : q = n := by omega
          have HF : Hid (MatN wr u7 (rowsL rows q) S0) := by
            have := matN_of_owns HOW.out (fun p hp => (HQV.out p hp).below HB.out (Nat.le_refl _))
            rw [HQ.out] at this
            exact this
          have HBB := hide (HI.out.st.below.trans (HB.out.mono HI.out.st.below.size))
          clear HOW HQ HQV HB HI
          go_wp2
          go_ret
          obtain ⟨p, hp⟩ := HFO.out
          exact ⟨_, _, p, rfl, HF.out, rowsL_len _ _, HBB.out, hp, HAL.out⟩

end Go.Proofs.YtjblidoilphifabGreatDoor
