/- Is a vector light? -/
import Derived.Test.YtdedolkgcdlmeaaGreatDoorOpenV
import Derived.Test.YtdedolkgcdlmeaaGreatDoorMats
import Derived.Test.YtdedolkgcdlmeaaGreatDoorVecA
import Derived.Test.YtdedolkgcdlmeaaGreatDoorRefI

namespace Go.Proofs.YtdedolkgcdlmeaaGreatDoor
open Go.RowKit Limbs

def lightV (rs : List Raw) : Bool := decide (rs.length ≤ 10) && rs.all (fun r => decide (r.zs.length ≤ 8))

set_option maxRecDepth 100000 in
set_option maxHeartbeats 1600000 in
theorem lightV_any (w : World) (v : Value) (rs : List Raw) (hv : VecC w v rs) (b : Bool) (hb : b = lightV rs) :
  Calls Tryz.prog 36 #[v] w fun e w' => e = .returned (.bool b) ∧ w' = w := by
 have HB := hide hb
 have HV := hide hv
 obtain ⟨ao, cap, rfl, -, hmx, hc⟩ := hv
 clear hb
 by_cases h1 : 10 < rs.length
 ·have hl : (10 : Int) < (rs.length : Int) := by omega
  have hbf : b = false := by rw [HB.out]; unfold lightV; rw [decide_eq_false (by omega)]; rfl
  subst hbf
  clear hc
  go_enter Tryz.func36, Tryz.ntmps36
  go_wp2
  go_ret
  exact ⟨rfl, rfl⟩
 ·have hl : ¬ ((10 : Int) < (rs.length : Int)) := by omega
  have HE : Hid (b = rs.all (fun r => decide (r.zs.length ≤ 8))) := by
   show _ = _
   rw [HB.out]; unfold lightV; rw [decide_eq_true (by omega)]; rfl
  clear HB
  have HC := hide hc
  clear hc
  go_enter Tryz.func36, Tryz.ntmps36
  go_wp2
  go_loop [3] (fun i => ∃ k : Nat, k ≤ rs.length ∧ i = .int .i64 k ∧ Hid ((rs.take k).all (fun r => decide (r.zs.length ≤ 8)) = true)) (fun i => rs.length - (intOf i).toNat)
  case atStart => exact ⟨0, Nat.zero_le _, rfl, by show _ = _; simp⟩
  case round =>
   obtain ⟨k, hk, rfl, HG⟩ := hrel
   by_cases hkl : k < rs.length
   ·obtain ⟨bk, off, rfl, hlt, hc⟩ := HC.out (by omega)
    obtain ⟨c0, c1, ⟨o, c, hs⟩, hz, -⟩ := hc k rs[k] (by simp [hkl])
    clear hc
    have HT : Hid ((rs.take (k + 1)).all (fun r => decide (r.zs.length ≤ 8)) = decide (rs[k].zs.length ≤ 8)) := by
     show _ = _
     rw [List.take_succ_eq_append_getElem hkl, List.all_append, HG.out]; simp
    have HF : Hid (¬ rs[k].zs.length ≤ 8 → rs.all (fun r => decide (r.zs.length ≤ 8)) = false) := fun h => by
     rw [List.all_eq_false]; exact ⟨rs[k], List.getElem_mem hkl, by simpa using h⟩
    generalize rs[k] = r at *
    obtain ⟨rn, rsl, rz⟩ := r
    simp only at hs hz c0 c1
    subst hs
    by_cases h8 : rz.length ≤ 8
    ·have HG' := hide (HT.out.trans (decide_eq_true h8))
     have d8 : ¬ ((8 : Int) < (rz.length : Int)) := by omega
     clear HT HF HG
     go_wp2
     go_round
     case rel => exact ⟨k + 1, by omega, by go_num, HG'⟩
     case measure => simp [intOf]; omega
    ·have hbf : b = false := HE.out.trans (HF.out h8)
     have d8 : (8 : Int) < (rz.length : Int) := by omega
     subst hbf
     clear HT HF HG HE
     go_wp2
     go_ret
     exact ⟨rfl, rfl⟩
   ·obtain rfl : k = rs.length := by omega
    have hbt : b = true := by
     rw [HE.out]
     have := HG.out
     rwa [List.take_length] at this
    subst hbt
    clear HG HE
    go_wp2
    go_ret
    exact ⟨rfl, rfl⟩

end Go.Proofs.YtdedolkgcdlmeaaGreatDoor

/- Rows as they came in; which of them are numbers. -/
namespace Go.Proofs.YtdedolkgcdlmeaaGreatDoor
open Go.RowKit Limbs

def Raw.z (r : Raw) : Int := sg r.neg (lv r.zs)

theorem VecL.nums {w : World} {v : Value} {rs : List Raw} {n : Nat} (h : VecL w v rs) (hn : rs.all Raw.num = true) (hl : ∀ r ∈ rs, r.zs.length ≤ n) : VecN w v (rs.map Raw.z) n := by
 obtain ⟨ao, cap, hv, h1, h2⟩ := h
 have hlen : (rs.map Raw.z).length = rs.length := List.length_map ..
 refine ⟨ao, cap, by rw [hlen]; exact hv, by rw [hlen]; exact h1, fun h0 => ?_⟩
 rw [hlen] at h0
 obtain ⟨b, off, e, hlt, hc⟩ := h2 h0
 refine ⟨b, off, e, hlt, fun i hi => ?_⟩
 rw [hlen] at hi
 obtain ⟨h3, h4, h5⟩ := hc i rs[i] (by simp [hi])
 have hm : rs[i] ∈ rs := List.getElem_mem hi
 have hN := NumL.of_isNum (n := n) (List.all_eq_true.1 hn _ hm) h5 (hl _ hm)
 obtain ⟨o, c, es, -⟩ := h5
 refine ⟨rs[i].neg, o, rs[i].zs.length, c, h3, by rw [h4, es], ?_⟩
 rw [← es]
 have e2 : (rs.map Raw.z).getD i 0 = sg rs[i].neg (lv rs[i].zs) := by
  rw [List.getD_eq_getElem?_getD, List.getElem?_map, List.getElem?_eq_getElem hi]; rfl
 rw [e2]
 exact hN

def MatL (w : World) (v : Value) (rss : List (List Raw)) : Prop :=
 ∃ ao cap, v = .slice ao rss.length cap ∧ rss.length ≤ cap ∧ (0 < rss.length → ∃ b off, ao = some ⟨b, off, none⟩ ∧ b < w.heap.size ∧ ∀ i rs, rss[i]? = some rs → ∃ u, w.cell? ⟨b, off + i, none⟩ = some u ∧ VecL w u rs)

theorem MatL.below {B : Nat} {w w' : World} {v : Value} {rss : List (List Raw)} (h : MatL w v rss) (hb : Below B w w') (hB : w.heap.size ≤ B) : MatL w' v rss := by
 obtain ⟨ao, cap, hv, h1, h2⟩ := h
 refine ⟨ao, cap, hv, h1, fun h0 => ?_⟩
 obtain ⟨b, off, e, hlt, hc⟩ := h2 h0
 refine ⟨b, off, e, Nat.lt_of_lt_of_le hlt hb.size, fun i zs hi => ?_⟩
 obtain ⟨u, h3, h4⟩ := hc i zs hi
 exact ⟨u, (hb.cell (p := ⟨b, off + i, none⟩) (Nat.lt_of_lt_of_le hlt hB)).trans h3, h4.below hb hB⟩

theorem MatL.at {W : World} {v : Value} {rss : List (List Raw)} (h : MatL W v rss) (i : Nat) (hi : i < rss.length) : ∃ b off cap, v = .slice (some ⟨b, off, none⟩) rss.length cap ∧ b < W.heap.size ∧ ∃ u, W.cell? ⟨b, off + i, none⟩ = some u ∧ VecL W u rss[i] := by
 obtain ⟨ao, cap, rfl, -, h2⟩ := h
 obtain ⟨b, off, rfl, hlt, hc⟩ := h2 (by omega)
 obtain ⟨u, h3, h4⟩ := hc i rss[i] (by simp [hi])
 exact ⟨b, off, cap, rfl, hlt, u, h3, h4⟩

theorem MatL.toN {w : World} {v : Value} {rss : List (List Raw)} {n : Nat} (h : MatL w v rss) (hf : ∀ rs ∈ rss, rs.all Raw.num = true) (h8 : ∀ rs ∈ rss, ∀ r ∈ rs, r.zs.length ≤ n) : MatN w v (rss.map (·.map Raw.z)) n := by
 obtain ⟨ao, cap, hv, h1, h2⟩ := h
 have hlen : (rss.map (·.map Raw.z)).length = rss.length := List.length_map ..
 refine ⟨ao, cap, by rw [hlen]; exact hv, by rw [hlen]; exact h1, fun h0 => ?_⟩
 rw [hlen] at h0
 obtain ⟨b, off, e, hlt, hc⟩ := h2 h0
 refine ⟨b, off, e, hlt, fun i zs hi => ?_⟩
 obtain ⟨hi', e'⟩ := List.getElem?_eq_some_iff.1 hi
 rw [hlen] at hi'
 rw [List.getElem_map] at e'
 obtain ⟨u, h3, h4⟩ := hc i rss[i] (by simp [hi'])
 have hm : rss[i] ∈ rss := List.getElem_mem hi'
 exact ⟨u, h3, by rw [← e']; exact h4.nums (hf _ hm) (h8 _ hm)⟩

theorem NumL.raw {w : World} {neg : Bool} {s : Value} {z : Int} {n : Nat} (h : NumL w (.agg #[.bool neg, s]) z n) : ∃ zs, Lim w s zs ∧ isNum neg zs = true := by
 obtain ⟨neg', s', zs, e, hl, hn, h0, -, -⟩ := h
 simp only [Value.agg.injEq, Array.mk.injEq, List.cons.injEq, Value.bool.injEq, and_true] at e
 obtain ⟨rfl, rfl⟩ := e
 refine ⟨zs, hl, ?_⟩
 unfold isNum
 by_cases hz : zs.length = 0
 ·rw [if_pos hz, h0 hz]; rfl
 ·rw [if_neg hz, bne_iff_ne]
  rcases hn with h | h
  ·exact absurd h hz
  ·exact h

theorem VecN.raw {w : World} {v : Value} {zs : List Int} {n : Nat} (h : VecN w v zs n) : ∃ rs : List Raw, VecL w v rs ∧ rs.length = zs.length ∧ rs.all Raw.num = true := by
 obtain ⟨ao, cap, rfl, h1, h2⟩ := h
 by_cases h0 : 0 < zs.length
 ·obtain ⟨b, off, rfl, hlt, hc⟩ := h2 h0
  have key : ∀ k, k ≤ zs.length → ∃ rs : List Raw, rs.length = k ∧ rs.all Raw.num = true ∧ ∀ i r, rs[i]? = some r → w.cell? ⟨b, off + i * 2, none⟩ = some (.bool r.neg) ∧ w.cell? ⟨b, off + i * 2 + 1, none⟩ = some r.s ∧ Lim w r.s r.zs := by
   intro k
   induction k with
   | zero => exact fun _ => ⟨[], rfl, rfl, fun i r e => by simp at e⟩
   | succ k ih =>
    intro hk
    obtain ⟨rs, e1, e2, e3⟩ := ih (by omega)
    obtain ⟨neg, o, l, c, c0, c1, hn⟩ := hc k (by omega)
    obtain ⟨zs', hl, hi⟩ := hn.raw
    refine ⟨rs ++ [⟨neg, .slice o l c, zs'⟩], by simp [e1], by simp [e2, Raw.num, hi], fun i r e => ?_⟩
    by_cases hi : i < rs.length
    ·rw [List.getElem?_append_left hi] at e
     exact e3 i r e
    ·rw [List.getElem?_append_right (by omega)] at e
     have hik : i - rs.length = 0 := by
      have := (List.getElem?_eq_some_iff.1 e).1
      simpa using this
     rw [hik] at e
     simp only [List.getElem?_cons_zero, Option.some.injEq] at e
     have : i = k := by omega
     rw [this, ← e]
     exact ⟨c0, c1, hl⟩
  obtain ⟨rs, e1, e2, e3⟩ := key zs.length (Nat.le_refl _)
  exact ⟨rs, ⟨_, cap, by rw [e1], by rw [e1]; exact h1, fun _ => ⟨b, off, rfl, hlt, e3⟩⟩, e1, e2⟩
 ·exact ⟨[], ⟨ao, cap, by rw [show zs.length = 0 by omega]; rfl, Nat.zero_le _, fun h => absurd h (by simp)⟩, by simp; omega, rfl⟩

end Go.Proofs.YtdedolkgcdlmeaaGreatDoor

/- What is wrong with rows. -/
namespace Go.Proofs.YtdedolkgcdlmeaaGreatDoor
open Go.RowKit Limbs

def chkRows (n : Int) : List (List Raw) → Value
 | [] => .nilIface
 | rs :: t => if (rs.length : Int) ≠ n then .iface 102 (.int .i64 6) else if rs.all Raw.num = false then .iface 102 (.int .i64 3) else chkRows n t

def checkedM (rss : List (List Raw)) (n : Int) : Value :=
 if n < 1 ∨ 8 < n then .iface 102 (.int .i64 1) else if 12 < rss.length then .iface 102 (.int .i64 2) else chkRows n rss

theorem chkRows_step {n : Int} {rss : List (List Raw)} {k : Nat} (hk : k < rss.length) (h1 : (rss[k].length : Int) = n) (h2 : rss[k].all Raw.num = true) : chkRows n (rss.drop (k + 1)) = chkRows n (rss.drop k) := by
 rw [List.drop_eq_getElem_cons hk, chkRows, if_neg (by rw [h1]; exact fun h => h rfl), if_neg (by rw [h2]; decide)]

theorem chkRows_size {n : Int} {rss : List (List Raw)} {k : Nat} (hk : k < rss.length) (h1 : (rss[k].length : Int) ≠ n) : chkRows n (rss.drop k) = .iface 102 (.int .i64 6) := by
 rw [List.drop_eq_getElem_cons hk, chkRows, if_pos h1]

theorem chkRows_shape {n : Int} {rss : List (List Raw)} {k : Nat} (hk : k < rss.length) (h1 : (rss[k].length : Int) = n) (h2 : rss[k].all Raw.num = false) : chkRows n (rss.drop k) = .iface 102 (.int .i64 3) := by
 rw [List.drop_eq_getElem_cons hk, chkRows, if_neg (by rw [h1]; exact fun h => h rfl), if_pos h2]

theorem chkRows_nil {n : Int} : ∀ {rss : List (List Raw)}, chkRows n rss = .nilIface ↔ ∀ rs ∈ rss, (rs.length : Int) = n ∧ rs.all Raw.num = true
 | [] => ⟨fun _ rs h => (by cases h), fun _ => rfl⟩
 | rs :: t => by
  rw [chkRows]
  by_cases h1 : (rs.length : Int) = n
  ·rw [if_neg (fun h => h h1)]
   rcases Bool.eq_false_or_eq_true (rs.all Raw.num) with h2 | h2
   rotate_left
   ·rw [if_pos h2]
    refine ⟨fun h => (by cases h), fun h => ?_⟩
    have := (h rs (by simp)).2
    rw [h2] at this; cases this
   ·rw [if_neg (by rw [h2]; decide), chkRows_nil]
    exact ⟨fun h x hx => by
     rcases List.mem_cons.1 hx with rfl | hx
     ·exact ⟨h1, h2⟩
     ·exact h x hx, fun h x hx => h x (List.mem_cons_of_mem _ hx)⟩
  ·rw [if_pos h1]
   exact ⟨fun h => (by cases h), fun h => absurd (h rs (by simp)).1 h1⟩

theorem checkedM_nil {n : Int} {rss : List (List Raw)} : checkedM rss n = .nilIface ↔ 1 ≤ n ∧ n ≤ 8 ∧ rss.length ≤ 12 ∧ ∀ rs ∈ rss, (rs.length : Int) = n ∧ rs.all Raw.num = true := by
 unfold checkedM
 by_cases h1 : n < 1 ∨ 8 < n
 ·rw [if_pos h1]
  exact ⟨fun h => (by cases h), fun h => by omega⟩
 ·rw [if_neg h1]
  by_cases h2 : 12 < rss.length
  ·rw [if_pos h2]
   exact ⟨fun h => (by cases h), fun h => by omega⟩
  ·rw [if_neg h2, chkRows_nil]
   exact ⟨fun h => ⟨by omega, by omega, by omega, h⟩, fun h => h.2.2.2⟩

set_option maxRecDepth 100000 in
set_option maxHeartbeats 1600000 in
theorem checkM_any (w : World) (v : Value) (rss : List (List Raw)) (n : Int) (hv : MatL w v rss) :
  Calls Tryz.prog 51 #[v, .int .i64 n] w fun e w' => e = .returned (checkedM rss n) ∧ Below w.heap.size w w' := by
 have HV := hide hv
 obtain ⟨ao, cap, rfl, -, -⟩ := hv
 by_cases h1 : n < 1
 ·have e : checkedM rss n = .iface 102 (.int .i64 1) := if_pos (.inl h1)
  rw [e]
  clear e
  go_enter Tryz.func51, Tryz.ntmps51
  go_wp2
  go_ret
  exact ⟨rfl, Below.refl _ _⟩
 ·by_cases h2 : 8 < n
  ·have e : checkedM rss n = .iface 102 (.int .i64 1) := if_pos (.inr h2)
   rw [e]
   clear e
   go_enter Tryz.func51, Tryz.ntmps51
   go_wp2
   go_ret
   exact ⟨rfl, Below.refl _ _⟩
  ·by_cases h3 : 12 < rss.length
   ·have e : checkedM rss n = .iface 102 (.int .i64 2) := by unfold checkedM; rw [if_neg (by omega), if_pos h3]
    rw [e]
    have h3' : (12 : Int) < (rss.length : Int) := by omega
    clear e
    go_enter Tryz.func51, Tryz.ntmps51
    go_wp2
    go_ret
    exact ⟨rfl, Below.refl _ _⟩
   ·have e : checkedM rss n = chkRows n rss := by unfold checkedM; rw [if_neg (by omega), if_neg h3]
    rw [e]
    have h3' : ¬ ((12 : Int) < (rss.length : Int)) := by omega
    clear e
    go_enter Tryz.func51, Tryz.ntmps51
    go_wp2
    go_loopw [20] (fun i wr => ∃ k : Nat, k ≤ rss.length ∧ i = .int .i64 k ∧ Hid (chkRows n (rss.drop k) = chkRows n rss) ∧ Below w.heap.size w wr) (fun i _ => rss.length - (intOf i).toNat)
    case atStart => exact ⟨0, Nat.zero_le _, rfl, by show _ = _; rw [List.drop_zero], Below.refl _ _⟩
    case round =>
     obtain ⟨k, hk, rfl, HG, hbe⟩ := hrel
     have HBE := hide hbe
     clear hbe
     by_cases hkl : k < rss.length
     ·obtain ⟨b, off, _, e, hlt, u, cu, hu⟩ := (HV.out.below HBE.out (Nat.le_refl _)).at k hkl
      simp only [Value.slice.injEq, true_and] at e
      obtain ⟨rfl, rfl⟩ := e
      have HU := hide hu
      have H1 := hide (fun h1 h2 => (chkRows_step (n := n) hkl h1 h2).trans HG.out)
      have H2 := hide (fun h1 => (HG.out.symm.trans (chkRows_size (n := n) hkl h1)))
      have H3 := hide (fun h1 h2 => (HG.out.symm.trans (chkRows_shape (n := n) hkl h1 h2)))
      generalize rss[k] = rs at *
      obtain ⟨uo, ucap, rfl, -, -⟩ := hu
      by_cases hsz : (rs.length : Int) = n
      ·have hb : ((rs.length : Int) != n) = false := by rw [bne_eq_false_iff_eq]; exact hsz
       have hcv : checkedV rs = checked (rs.all Raw.num) := if_neg (by omega)
       have HCK := hide (checkV_any wr _ rs HU.out)
       rw [hcv] at HCK
       have HSZ := hide hsz
       clear hcv HU hsz
       go_wp2_with fail
       refine HCK.out.mono ?_
       rintro e w1 ⟨rfl, hb1⟩
       have HB1 := hide (HBE.out.trans (hb1.mono HBE.out.size))
       clear hb1 HCK
       cases hn : rs.all Raw.num
       ·have HA := hide (H3.out HSZ.out hn)
        have e : checked false = .iface 102 (.int .i64 3) := rfl
        rw [e]
        clear H1 H2 H3 e hn
        go_wp2
        go_ret
        exact ⟨by rw [HA.out]; rfl, HB1.out⟩
       ·have e : checked true = .nilIface := rfl
        rw [e]
        have HG' := hide (H1.out HSZ.out hn)
        clear H1 H2 H3 e hn HG
        go_wp2
        go_roundw
        case rel => exact ⟨k + 1, by omega, by go_num, HG', HB1.out⟩
        case measure => simp [intOf]; omega
      ·have hb : ((rs.length : Int) != n) = true := by rw [bne_iff_ne]; exact hsz
       have HA := hide (H2.out hsz)
       clear H1 H2 H3
       go_wp2
       go_ret
       exact ⟨by rw [HA.out]; rfl, HBE.out⟩
     ·obtain rfl : k = rss.length := by omega
      have HA : Hid (chkRows n rss = .nilIface) := by
       have := HG.out
       rw [List.drop_length] at this
       exact this.symm
      clear HG
      go_wp2
      go_ret
      exact ⟨by rw [HA.out]; rfl, HBE.out⟩

theorem MatN.raw {w : World} {v : Value} {zss : List (List Int)} {n : Nat} (h : MatN w v zss n) : ∃ rss : List (List Raw), MatL w v rss ∧ rss.length = zss.length ∧ ∀ i (h : i < zss.length) rs, rss[i]? = some rs → rs.length = zss[i].length ∧ rs.all Raw.num = true := by
 obtain ⟨ao, cap, rfl, h1, h2⟩ := h
 by_cases h0 : 0 < zss.length
 ·obtain ⟨b, off, rfl, hlt, hc⟩ := h2 h0
  have key : ∀ k, k ≤ zss.length → ∃ rss : List (List Raw), rss.length = k ∧ (∀ i (h : i < zss.length) rs, rss[i]? = some rs → rs.length = zss[i].length ∧ rs.all Raw.num = true) ∧ ∀ i rs, rss[i]? = some rs → ∃ u, w.cell? ⟨b, off + i, none⟩ = some u ∧ VecL w u rs := by
   intro k
   induction k with
   | zero => exact fun _ => ⟨[], rfl, fun i _ r e => by simp at e, fun i r e => by simp at e⟩
   | succ k ih =>
    intro hk
    obtain ⟨rss, e1, e2, e3⟩ := ih (by omega)
    obtain ⟨u, cu, hu⟩ := hc k zss[k] (by simp)
    obtain ⟨rs, hl, hlen, hnum⟩ := hu.raw
    have two : ∀ i r, (rss ++ [rs])[i]? = some r → rss[i]? = some r ∨ (i = k ∧ r = rs) := fun i r e => by
     by_cases hi : i < rss.length
     ·rw [List.getElem?_append_left hi] at e
      exact .inl e
     ·rw [List.getElem?_append_right (by omega)] at e
      have hik : i - rss.length = 0 := by
       have := (List.getElem?_eq_some_iff.1 e).1
       simpa using this
      rw [hik] at e
      simp only [List.getElem?_cons_zero, Option.some.injEq] at e
      exact .inr ⟨by omega, e.symm⟩
    refine ⟨rss ++ [rs], by simp [e1], fun i hi r e => ?_, fun i r e => ?_⟩
    ·rcases two i r e with h | ⟨rfl, rfl⟩
     ·exact e2 i hi r h
     ·exact ⟨hlen, hnum⟩
    ·rcases two i r e with h | ⟨rfl, rfl⟩
     ·exact e3 i r h
     ·exact ⟨u, cu, hl⟩
  obtain ⟨rss, e1, e2, e3⟩ := key zss.length (Nat.le_refl _)
  exact ⟨rss, ⟨_, cap, by rw [e1], by rw [e1]; exact h1, fun _ => ⟨b, off, rfl, hlt, e3⟩⟩, e1, e2⟩
 ·exact ⟨[], ⟨ao, cap, by rw [show zss.length = 0 by omega]; rfl, Nat.zero_le _, fun h => absurd h (by simp)⟩, by simp; omega, fun i hi => absurd hi (by omega)⟩

theorem checkM_ok (w : World) (v : Value) (zss : List (List Int)) (n nv : Nat) (hv : MatN w v zss nv) (hn1 : 1 ≤ n) (hn : n ≤ 8) (hl : zss.length ≤ 12) (hr : ∀ zs ∈ zss, zs.length = n) :
  Calls Tryz.prog 51 #[v, .int .i64 (n : Int)] w fun e w' => e = .returned .nilIface ∧ Below w.heap.size w w' := by
 obtain ⟨rss, h1, h2, h3⟩ := hv.raw
 have e : checkedM rss (n : Int) = .nilIface := checkedM_nil.2 ⟨by omega, by omega, by omega, fun rs h => by
  obtain ⟨i, hi, e⟩ := List.getElem_of_mem h
  obtain ⟨h4, h5⟩ := h3 i (by omega) rs (by rw [List.getElem?_eq_getElem hi, e])
  have := hr _ (List.getElem_mem (show i < zss.length by omega))
  exact ⟨by omega, h5⟩⟩
 have := checkM_any w v rss n h1
 rwa [e] at this

end Go.Proofs.YtdedolkgcdlmeaaGreatDoor

/- Is it the error of that number? -/
namespace Go.Proofs.YtdedolkgcdlmeaaGreatDoor
open Go.RowKit Limbs

theorem Tryz.asErrno (v : Value) (w : World) : (Instr.typeAssert (.iface 102 v) 31 102 true).run Tryz.prog w = .ok (.tuple #[v, .bool true]) w := by kernel_rfl

set_option maxRecDepth 100000 in
theorem same_errno (n f : Int) (w : World) :
  Calls Tryz.prog 13 #[.iface 102 (.int .i64 n), .int .i64 f] w fun e w' => e = .returned (.bool (decide (0 < f) && n == f)) ∧ w' = w := by
 have has := Tryz.asErrno
 by_cases h1 : 0 < f
 ·have e1 : decide (0 < f) = true := decide_eq_true h1
  go_enter Tryz.func13, Tryz.ntmps13
  go_wp2
  go_ret
  exact ⟨ret_bool (by simp [e1]), rfl⟩
 ·have e1 : decide (0 < f) = false := decide_eq_false h1
  go_enter Tryz.func13, Tryz.ntmps13
  go_wp2
  go_ret
  exact ⟨ret_bool (by simp), rfl⟩

set_option maxRecDepth 100000 in
theorem same_nil (f : Int) (w : World) :
  Calls Tryz.prog 13 #[.nilIface, .int .i64 f] w fun e w' => e = .returned (.bool (f == 0)) ∧ w' = w := by
 go_enter Tryz.func13, Tryz.ntmps13
 go_wp2
 go_ret
 exact ⟨rfl, rfl⟩

theorem same_of (n : Int) (hn : 0 < n) (w : World) : Calls Tryz.prog 13 #[.iface 102 (.int .i64 n), .int .i64 n] w fun e w' => e = .returned (.bool true) ∧ w' = w := by
 refine (same_errno n n w).mono ?_
 rintro e w' ⟨rfl, rfl⟩
 refine ⟨?_, rfl⟩
 rw [decide_eq_true hn, beq_self_eq_true]; rfl

theorem same_zero (w : World) : Calls Tryz.prog 13 #[.nilIface, .int .i64 0] w fun e w' => e = .returned (.bool true) ∧ w' = w := same_nil 0 w

end Go.Proofs.YtdedolkgcdlmeaaGreatDoor

/- The reference: what is wrong with rows. -/
namespace Go.Proofs.YtdedolkgcdlmeaaGreatDoor
open Go.RowKit Limbs Digs

def chkF (n : Int) : List (List Raw) → Int
 | [] => 0
 | rs :: t => if (rs.length : Int) ≠ n then 6 else if rs.all Raw.num = false then 3 else chkF n t

def faultM (rss : List (List Raw)) (n : Int) : Int := if n < 1 ∨ 8 < n then 1 else if 12 < rss.length then 2 else chkF n rss

theorem chkF_step {n : Int} {rss : List (List Raw)} {k : Nat} (hk : k < rss.length) (h1 : (rss[k].length : Int) = n) (h2 : rss[k].all Raw.num = true) : chkF n (rss.drop (k + 1)) = chkF n (rss.drop k) := by
 rw [List.drop_eq_getElem_cons hk, chkF, if_neg (by rw [h1]; exact fun h => h rfl), if_neg (by rw [h2]; decide)]

theorem chkF_size {n : Int} {rss : List (List Raw)} {k : Nat} (hk : k < rss.length) (h1 : (rss[k].length : Int) ≠ n) : chkF n (rss.drop k) = 6 := by
 rw [List.drop_eq_getElem_cons hk, chkF, if_pos h1]

theorem chkF_shape {n : Int} {rss : List (List Raw)} {k : Nat} (hk : k < rss.length) (h1 : (rss[k].length : Int) = n) (h2 : rss[k].all Raw.num = false) : chkF n (rss.drop k) = 3 := by
 rw [List.drop_eq_getElem_cons hk, chkF, if_neg (by rw [h1]; exact fun h => h rfl), if_pos h2]

theorem chk_same (n : Int) : ∀ rss, (chkRows n rss = .nilIface ∧ chkF n rss = 0) ∨ ∃ c : Int, 0 < c ∧ chkRows n rss = .iface 102 (.int .i64 c) ∧ chkF n rss = c
 | [] => .inl ⟨rfl, rfl⟩
 | rs :: t => by
  rw [chkRows, chkF]
  split
  ·exact .inr ⟨6, by decide, rfl, rfl⟩
  ·split
   ·exact .inr ⟨3, by decide, rfl, rfl⟩
   ·exact chk_same n t

theorem fault_same (rss : List (List Raw)) (n : Int) : (checkedM rss n = .nilIface ∧ faultM rss n = 0) ∨ ∃ c : Int, 0 < c ∧ checkedM rss n = .iface 102 (.int .i64 c) ∧ faultM rss n = c := by
 unfold checkedM faultM
 split
 ·exact .inr ⟨1, by decide, rfl, rfl⟩
 ·split
  ·exact .inr ⟨2, by decide, rfl, rfl⟩
  ·exact chk_same n rss

set_option maxRecDepth 100000 in
set_option maxHeartbeats 1600000 in
theorem matFault_any (w : World) (v : Value) (rss : List (List Raw)) (n : Int) (hv : MatL w v rss) :
  Calls Tryz.prog 11 #[v, .int .i64 n] w fun e w' => e = .returned (.int .i64 (faultM rss n)) ∧ Below w.heap.size w w' := by
 have HV := hide hv
 obtain ⟨ao, cap, rfl, -, -⟩ := hv
 by_cases h1 : n < 1
 ·have e : faultM rss n = 1 := if_pos (.inl h1)
  rw [e]
  clear e
  go_enter Tryz.func11, Tryz.ntmps11
  go_wp2
  go_ret
  exact ⟨rfl, Below.refl _ _⟩
 ·by_cases h2 : 8 < n
  ·have e : faultM rss n = 1 := if_pos (.inr h2)
   rw [e]
   clear e
   go_enter Tryz.func11, Tryz.ntmps11
   go_wp2
   go_ret
   exact ⟨rfl, Below.refl _ _⟩
  ·by_cases h3 : 12 < rss.length
   ·have e : faultM rss n = 2 := by unfold faultM; rw [if_neg (by omega), if_pos h3]
    rw [e]
    have h3' : (12 : Int) < (rss.length : Int) := by omega
    clear e
    go_enter Tryz.func11, Tryz.ntmps11
    go_wp2
    go_ret
    exact ⟨rfl, Below.refl _ _⟩
   ·have e : faultM rss n = chkF n rss := by unfold faultM; rw [if_neg (by omega), if_neg h3]
    rw [e]
    have h3' : ¬ ((12 : Int) < (rss.length : Int)) := by omega
    clear e
    go_enter Tryz.func11, Tryz.ntmps11
    go_wp2
    go_loopw [5] (fun i wr => ∃ k : Nat, k ≤ rss.length ∧ i = .int .i64 k ∧ Hid (chkF n (rss.drop k) = chkF n rss) ∧ Below w.heap.size w wr) (fun i _ => rss.length - (intOf i).toNat)
    case atStart => exact ⟨0, Nat.zero_le _, rfl, by show _ = _; rw [List.drop_zero], Below.refl _ _⟩
    case round =>
     obtain ⟨k, hk, rfl, HG, hbe⟩ := hrel
     have HBE := hide hbe
     clear hbe
     by_cases hkl : k < rss.length
     ·obtain ⟨b, off, _, e, hlt, u, cu, hu⟩ := (HV.out.below HBE.out (Nat.le_refl _)).at k hkl
      simp only [Value.slice.injEq, true_and] at e
      obtain ⟨rfl, rfl⟩ := e
      have HU := hide hu
      have H1 := hide (fun h1 h2 => (chkF_step (n := n) hkl h1 h2).trans HG.out)
      have H2 := hide (fun h1 => (HG.out.symm.trans (chkF_size (n := n) hkl h1)))
      have H3 := hide (fun h1 h2 => (HG.out.symm.trans (chkF_shape (n := n) hkl h1 h2)))
      generalize rss[k] = rs at *
      obtain ⟨uo, ucap, rfl, -, -⟩ := hu
      by_cases hsz : (rs.length : Int) = n
      ·have hb : ((rs.length : Int) != n) = false := by rw [bne_eq_false_iff_eq]; exact hsz
       have hcv : faultV rs = faulty (rs.all Raw.num) := if_neg (by omega)
       have HCK := hide (vecFault_any wr _ rs HU.out (by omega))
       rw [hcv] at HCK
       have HSZ := hide hsz
       clear hcv HU hsz
       go_wp2_with fail
       refine HCK.out.mono ?_
       rintro e w1 ⟨rfl, hb1⟩
       have HB1 := hide (HBE.out.trans (hb1.mono HBE.out.size))
       clear hb1 HCK
       cases hn : rs.all Raw.num
       ·have HA := hide (H3.out HSZ.out hn)
        have e : faulty false = 3 := rfl
        rw [e]
        clear H1 H2 H3 e hn
        go_wp2
        go_ret
        exact ⟨by rw [HA.out]; rfl, HB1.out⟩
       ·have e : faulty true = 0 := rfl
        rw [e]
        have HG' := hide (H1.out HSZ.out hn)
        clear H1 H2 H3 e hn HG
        go_wp2
        go_roundw
        case rel => exact ⟨k + 1, by omega, by go_num, HG', HB1.out⟩
        case measure => simp [intOf]; omega
      ·have hb : ((rs.length : Int) != n) = true := by rw [bne_iff_ne]; exact hsz
       have HA := hide (H2.out hsz)
       clear H1 H2 H3
       go_wp2
       go_ret
       exact ⟨by rw [HA.out]; rfl, HBE.out⟩
     ·obtain rfl : k = rss.length := by omega
      have HA : Hid (chkF n rss = 0) := by
       have := HG.out
       rw [List.drop_length] at this
       exact this.symm
      clear HG
      go_wp2
      go_ret
      exact ⟨by rw [HA.out]; rfl, HBE.out⟩

end Go.Proofs.YtdedolkgcdlmeaaGreatDoor

/- The reference: are two numbers, or vectors, the same? -/
namespace Go.Proofs.YtdedolkgcdlmeaaGreatDoor
open Go.RowKit Limbs

end Go.Proofs.YtdedolkgcdlmeaaGreatDoor

/- The reference: are rows of vectors the same? -/
namespace Go.Proofs.YtdedolkgcdlmeaaGreatDoor
open Go.RowKit Limbs

end Go.Proofs.YtdedolkgcdlmeaaGreatDoor

/- Rows of vectors that came in; are they light? -/
namespace Go.Proofs.YtdedolkgcdlmeaaGreatDoor
open Go.ChangeShapes Go.WideShapes Go.ChangeAt Go.RowKit Go.Joins Limbs

theorem Tryz.cellsVec : Tryz.prog.cellsOf 72 = 1 := by kernel_rfl

def MatC (W : World) (v : Value) (rss : List (List Raw)) : Prop :=
 ∃ ao cap, v = .slice ao rss.length cap ∧ rss.length ≤ cap ∧ rss.length ≤ 9223372036854775807 ∧
  (0 < rss.length → ∃ b off, ao = some ⟨b, off, none⟩ ∧ b < W.heap.size ∧ ∀ i rs, rss[i]? = some rs → ∃ u, W.cell? ⟨b, off + i, none⟩ = some u ∧ VecC W u rs)

set_option maxRecDepth 100000 in
theorem open_vecT {H : Type} {enc : TypeId × Value → H} {W : World} {n : Nat} {v : Value} {y : DataW H × List MemPlace}
  (hf : DataW.trod enc Tryz.prog W 0 (fun _ => true) true n 72 [v] = some y) : ∃ rs, VecC W v rs := by
 obtain ⟨a0, len, cap, e⟩ := slice_form Tryz.underlying72 hf
 simp only [List.cons.injEq, and_true] at e
 subst e
 rcases Go.Deep.open_slice_pairs Tryz.underlying72 Tryz.underlying29 Tryz.cellsNum rfl rfl Tryz.cellsBool Tryz.cellsSl hf with ⟨hcs, _⟩ | ⟨a, l, c, m, n, V0, V1, D0, D1, P0, P1, hcs, _, hl, hm, hmm, _, hc⟩
 ·simp only [List.cons.injEq, Value.slice.injEq, and_true] at hcs
  obtain ⟨rfl, rfl, rfl⟩ := hcs
  exact ⟨[], none, 0, rfl, by simp, by simp, fun h => absurd h (by simp)⟩
 ·simp only [List.cons.injEq, Value.slice.injEq, and_true] at hcs
  obtain ⟨rfl, rfl, rfl⟩ := hcs
  have hm' : len ≤ m := by simp at hmm; omega
  have each : ∀ i, i < len → ∃ r : Raw, V0 i = .bool r.neg ∧ V1 i = r.s ∧ CameR W r := fun i hi => by
   obtain ⟨-, -, h0, h1⟩ := hc i (by omega)
   obtain ⟨b, e0, -⟩ := DataW.trod_bool Tryz.underlying4 h0
   obtain ⟨r, e1, e2, e3⟩ := open_limbs h1 b
   simp only [List.cons.injEq, and_true] at e0
   exact ⟨r, by rw [e0, e1], e2.symm, e3⟩
  obtain ⟨q, hq⟩ := Go.Deep.choose_lt each
  have hlen : ((List.range len).map q).length = len := by simp
  refine ⟨(List.range len).map q, some a, cap, by rw [hlen], by rw [hlen]; exact hl, by rw [hlen]; unfold maxLen at hm; omega, fun h0 => ?_⟩
  rw [hlen] at h0
  obtain ⟨k0, -, -, -⟩ := hc 0 (by omega)
  obtain ⟨blk, off, spot⟩ := a
  have hsp : spot = none := by simpa [Addr.add] using World.cell?_spot k0
  subst hsp
  refine ⟨blk, off, rfl, by simpa [Addr.add] using World.block_lt_of_cell? W _ k0, fun i r hi => ?_⟩
  obtain ⟨hi', e⟩ := List.getElem?_eq_some_iff.1 hi
  rw [hlen] at hi'
  have e' : r = q i := by simpa using e.symm
  obtain ⟨c0, c1, -, -⟩ := hc i (by omega)
  obtain ⟨q0, q1, q2⟩ := hq i hi'
  rw [Go.WideShapes.add_plain, q0] at c0
  rw [Go.WideShapes.add_plain, q1] at c1
  rw [e']
  exact ⟨c0, c1, q2⟩

set_option maxRecDepth 100000 in
theorem open_mat {H : Type} {enc : TypeId × Value → H} {W : World} {r : Reach} {b0 : Nat} {v : Value} {d : DataW H} {p : List MemPlace}
  (hv : Value.okWide Tryz.prog W r b0 23 v) (h : DataW.Trod enc Tryz.prog W 0 (fun _ => true) true 23 v d p) :
  ∃ rss, MatC W v rss := by
 obtain ⟨a0, len, cap, rfl⟩ := okWide_slice Tryz.underlying23 hv
 obtain ⟨fuel, hf⟩ := h
 rcases Go.Deep.open_slice1 Tryz.underlying23 Tryz.cellsVec hf with ⟨hcs, _⟩ | ⟨a, l, c, m, n, V, D, Pl, hcs, _, hl, hm, hmm, _, hc⟩
 ·simp [Value.cells] at hcs
  obtain ⟨rfl, rfl, rfl⟩ := hcs
  exact ⟨[], none, 0, rfl, by simp, by simp, fun h => absurd h (by simp)⟩
 ·simp [Value.cells] at hcs
  obtain ⟨rfl, rfl, rfl⟩ := hcs
  have hm' : len ≤ m := by simp at hmm; omega
  have each : ∀ i, i < len → ∃ rs : List Raw, VecC W (V i) rs := fun i hi => open_vecT (hc i (by omega)).2
  obtain ⟨q, hq⟩ := Go.Deep.choose_lt each
  have hlen : ((List.range len).map q).length = len := by simp
  refine ⟨(List.range len).map q, some a, cap, by rw [hlen], by rw [hlen]; exact hl, by rw [hlen]; unfold maxLen at hm; omega, fun h0 => ?_⟩
  rw [hlen] at h0
  obtain ⟨k0, -⟩ := hc 0 (by omega)
  obtain ⟨blk, off, spot⟩ := a
  have hsp : spot = none := by simpa [Addr.add] using World.cell?_spot k0
  subst hsp
  refine ⟨blk, off, rfl, by simpa [Addr.add] using World.block_lt_of_cell? W _ k0, fun i rs hi => ?_⟩
  obtain ⟨hi', e⟩ := List.getElem?_eq_some_iff.1 hi
  rw [hlen] at hi'
  have e' : rs = q i := by simpa using e.symm
  obtain ⟨c0, -⟩ := hc i (by omega)
  rw [Go.WideShapes.add_plain] at c0
  rw [e']
  exact ⟨_, c0, hq i hi'⟩

theorem VecC.below {w w' : World} {v : Value} {rs : List Raw} (h : VecC w v rs) (hb : Below w.heap.size w w') : VecC w' v rs := by
 obtain ⟨ao, cap, hv, h1, h1', h2⟩ := h
 refine ⟨ao, cap, hv, h1, h1', fun h0 => ?_⟩
 obtain ⟨b, off, e, hlt, hc⟩ := h2 h0
 refine ⟨b, off, e, Nat.lt_of_lt_of_le hlt hb.size, fun i r hi => ?_⟩
 obtain ⟨h3, h4, h5, h6, h7⟩ := hc i r hi
 exact ⟨(hb.cell (p := ⟨b, off + i * 2, none⟩) hlt).trans h3, (hb.cell (p := ⟨b, off + i * 2 + 1, none⟩) hlt).trans h4, h5, h6, fun hl => (h7 hl).below hb (Nat.le_refl _)⟩

theorem MatC.below {w w' : World} {v : Value} {rss : List (List Raw)} (h : MatC w v rss) (hb : Below w.heap.size w w') : MatC w' v rss := by
 obtain ⟨ao, cap, hv, h1, h1', h2⟩ := h
 refine ⟨ao, cap, hv, h1, h1', fun h0 => ?_⟩
 obtain ⟨b, off, e, hlt, hc⟩ := h2 h0
 refine ⟨b, off, e, Nat.lt_of_lt_of_le hlt hb.size, fun i r hi => ?_⟩
 obtain ⟨u, h3, h4⟩ := hc i r hi
 exact ⟨u, (hb.cell (p := ⟨b, off + i, none⟩) hlt).trans h3, h4.below hb⟩

def limbsV (rs : List Raw) : Nat := (rs.map (·.zs.length)).sum
def limbsM (rss : List (List Raw)) : Nat := (rss.map limbsV).sum

def lightM (rss : List (List Raw)) (limbs : Int) : Bool := decide (rss.length ≤ 14) && rss.all lightV && decide ((limbsM rss : Int) ≤ limbs)

theorem limbsV_step (rs : List Raw) (k : Nat) (hk : k < rs.length) : limbsV (rs.take (k + 1)) = limbsV (rs.take k) + rs[k].zs.length := by
 unfold limbsV
 rw [List.take_succ_eq_append_getElem hk, List.map_append, List.sum_append]
 simp

theorem limbsM_step (rss : List (List Raw)) (k : Nat) (hk : k < rss.length) : limbsM (rss.take (k + 1)) = limbsM (rss.take k) + limbsV rss[k] := by
 unfold limbsM
 rw [List.take_succ_eq_append_getElem hk, List.map_append, List.sum_append]
 simp

theorem limbsV_le (rs : List Raw) (h : rs.all (fun r => decide (r.zs.length ≤ 8)) = true) : limbsV rs ≤ 8 * rs.length := by
 induction rs with
 | nil => simp [limbsV]
 | cons r rs ih =>
  rw [List.all_cons, Bool.and_eq_true] at h
  have h1 := of_decide_eq_true h.1
  have h2 := ih h.2
  simp only [limbsV, List.map_cons, List.sum_cons, List.length_cons] at h2 ⊢
  omega

theorem lightV_limbs {rs : List Raw} (h : lightV rs = true) : limbsV rs ≤ 80 ∧ rs.length ≤ 10 := by
 unfold lightV at h
 rw [Bool.and_eq_true] at h
 have h1 := of_decide_eq_true h.1
 have := limbsV_le rs h.2
 omega

theorem limbsM_le (rss : List (List Raw)) (h : rss.all lightV = true) : limbsM rss ≤ 80 * rss.length := by
 induction rss with
 | nil => simp [limbsM]
 | cons r rs ih =>
  rw [List.all_cons, Bool.and_eq_true] at h
  have h1 := (lightV_limbs h.1).1
  have h2 := ih h.2
  simp only [limbsM, List.map_cons, List.sum_cons, List.length_cons] at h2 ⊢
  omega

end Go.Proofs.YtdedolkgcdlmeaaGreatDoor

/- Are rows light? -/
namespace Go.Proofs.YtdedolkgcdlmeaaGreatDoor
open Go.RowKit Limbs

set_option maxRecDepth 100000 in
set_option maxHeartbeats 4000000 in
theorem lightM_any (w : World) (v : Value) (rss : List (List Raw)) (limbs : Int) (hv : MatC w v rss) (b : Bool) (hb : b = lightM rss limbs) :
  Calls Tryz.prog 10 #[v, .int .i64 limbs] w fun e w' => e = .returned (.bool b) ∧ w' = w := by
 have HB := hide hb
 have HV := hide hv
 obtain ⟨ao, cap, rfl, -, hmx, hc⟩ := hv
 clear hb
 by_cases h14 : 14 < rss.length
 ·have hl : (14 : Int) < (rss.length : Int) := by omega
  have hbf : b = false := by rw [HB.out]; unfold lightM; rw [decide_eq_false (by omega)]; rfl
  subst hbf
  clear hc
  go_enter Tryz.func10, Tryz.ntmps10
  go_wp2
  go_ret
  exact ⟨rfl, rfl⟩
 ·have hl : ¬ ((14 : Int) < (rss.length : Int)) := by omega
  have HE : Hid (b = (rss.all lightV && decide ((limbsM rss : Int) ≤ limbs))) := by
   show _ = _
   rw [HB.out]; unfold lightM; rw [decide_eq_true (by omega), Bool.true_and]
  clear HB
  have HC := hide hc
  clear hc
  go_enter Tryz.func10, Tryz.ntmps10
  go_wp2
  go_loop [5, 6] (fun n i => ∃ k : Nat, k ≤ rss.length ∧ i = .int .i64 k ∧ n = .int .i64 (limbsM (rss.take k) : Nat) ∧ Hid ((rss.take k).all lightV = true)) (fun _ i => rss.length - (intOf i).toNat)
  case atStart => exact ⟨0, Nat.zero_le _, rfl, rfl, by show _ = _; simp⟩
  case round =>
   obtain ⟨k, hk, rfl, rfl, HG⟩ := hrel
   have hle := limbsM_le (rss.take k) HG.out
   have hlen : (rss.take k).length = k := by rw [List.length_take]; omega
   by_cases hkl : k < rss.length
   ·obtain ⟨bk, off, rfl, hlt, hc⟩ := HC.out (by omega)
    obtain ⟨u, c0, hu⟩ := hc k rss[k] (by simp [hkl])
    clear hc
    have HU := hide hu
    have HT : Hid ((rss.take (k + 1)).all lightV = lightV rss[k]) := by
     show _ = _
     rw [List.take_succ_eq_append_getElem hkl, List.all_append, HG.out]; simp
    have HF : Hid (lightV rss[k] = false → rss.all lightV = false) := fun h => by
     rw [List.all_eq_false]; exact ⟨rss[k], List.getElem_mem hkl, by simp [h]⟩
    have HS := hide (limbsM_step rss k hkl)
    generalize limbsM (rss.take k) = N0 at *
    generalize rss[k] = rs at *
    go_wp2_with fail
    refine (lightV_any w u rs HU.out (lightV rs) rfl).mono ?_
    rintro e w1 ⟨rfl, rfl⟩
    cases hlv : lightV rs
    ·have hbf : b = false := by rw [HE.out, HF.out hlv]; rfl
     subst hbf
     clear HT HF HS HE HG
     go_wp2
     go_ret
     exact ⟨rfl, rfl⟩
    ·have HG' := hide (HT.out.trans hlv)
     obtain ⟨hlm, hl10⟩ := lightV_limbs hlv
     have H8 : Hid (rs.all (fun r => decide (r.zs.length ≤ 8)) = true) := by
      unfold lightV at hlv
      rw [Bool.and_eq_true] at hlv
      exact hlv.2
     clear HT HF HG hlv
     obtain ⟨vo, vcap, rfl, -, -, hc⟩ := hu
     have HC2 := hide hc
     clear hc
     go_wp2
     go_loop [5, 8] (fun n j => ∃ q : Nat, q ≤ rs.length ∧ j = .int .i64 q ∧ n = .int .i64 (N0 + limbsV (rs.take q) : Nat)) (fun _ j => rs.length - (intOf j).toNat)
     case atStart => exact ⟨0, Nat.zero_le _, rfl, rfl⟩
     case round =>
      obtain ⟨q, hq, rfl, rfl⟩ := hrel
      by_cases hql : q < rs.length
      ·obtain ⟨vb, voff, rfl, hvlt, hc⟩ := HC2.out (by omega)
       obtain ⟨d0, d1, ⟨o, c, hs⟩, hz, -⟩ := hc q rs[q] (by simp [hql])
       clear hc
       have HSV := hide (limbsV_step rs q hql)
       have hz8 : rs[q].zs.length ≤ 8 := of_decide_eq_true (List.all_eq_true.1 H8.out _ (List.getElem_mem hql))
       have hb1 : limbsV (rs.take q) ≤ 80 := by
        have h2 := limbsV_le (rs.take q) (List.all_eq_true.2 fun r hr => List.all_eq_true.1 H8.out r (List.mem_of_mem_take hr))
        rw [List.length_take] at h2
        omega
       generalize limbsV (rs.take q) = M0 at *
       generalize rs[q] = r at *
       obtain ⟨rn, rsl, rz⟩ := r
       simp only at hs hz hz8 d0 d1
       subst hs
       go_wp2
       go_round
       case rel => exact ⟨q + 1, by omega, by go_num, by rw [HSV.out]; go_num⟩
       case measure => simp [intOf]; omega
      ·obtain rfl : q = rs.length := by omega
       have HN1 : Hid (N0 + limbsV (rs.take rs.length) = limbsM (rss.take (k + 1))) := by
        show _ = _
        rw [List.take_length]; exact HS.out.symm
       have hle2 : limbsM (rss.take (k + 1)) ≤ 80 * 14 + 80 := by have := HS.out; omega
       rw [HN1.out]
       clear HN1 HS
       go_wp2
       go_round
       case rel => exact ⟨k + 1, by omega, by go_num, rfl, HG'⟩
       case measure => simp [intOf]; omega
   ·obtain rfl : k = rss.length := by omega
    have HFN : Hid (b = decide ((limbsM rss : Int) ≤ limbs)) := by
     show _ = _
     have := HG.out
     rw [List.take_length] at this
     rw [HE.out, this, Bool.true_and]
    rw [List.take_length] at hle
    clear HG HE
    rw [List.take_length]
    generalize limbsM rss = N0 at *
    obtain rfl := HFN.out
    clear HFN
    go_wp2
    go_ret
    exact ⟨rfl, rfl⟩

end Go.Proofs.YtdedolkgcdlmeaaGreatDoor

/- Light rows are such as may be read whole. -/
namespace Go.Proofs.YtdedolkgcdlmeaaGreatDoor
open Go.RowKit Limbs

theorem lightV_eight {rs : List Raw} (h : lightV rs = true) : ∀ r ∈ rs, r.zs.length ≤ 8 := by
 unfold lightV at h
 rw [Bool.and_eq_true] at h
 exact fun r hr => of_decide_eq_true (List.all_eq_true.1 h.2 r hr)

theorem MatC.light {w : World} {v : Value} {rss : List (List Raw)} (h : MatC w v rss) (hl : ∀ rs ∈ rss, lightV rs = true) : MatL w v rss := by
 obtain ⟨ao, cap, hv, h1, -, h2⟩ := h
 refine ⟨ao, cap, hv, h1, fun h0 => ?_⟩
 obtain ⟨b, off, e, hlt, hc⟩ := h2 h0
 refine ⟨b, off, e, hlt, fun i rs hi => ?_⟩
 obtain ⟨u, h3, h4⟩ := hc i rs hi
 exact ⟨u, h3, h4.light fun r hr => Nat.le_trans (lightV_eight (hl rs (List.mem_of_getElem? hi)) r hr) (by decide)⟩

theorem lightM_parts {rss : List (List Raw)} {n : Int} (h : lightM rss n = true) : rss.length ≤ 14 ∧ ∀ rs ∈ rss, lightV rs = true := by
 unfold lightM at h
 rw [Bool.and_eq_true, Bool.and_eq_true] at h
 exact ⟨of_decide_eq_true h.1.1, fun rs hr => List.all_eq_true.1 h.1.2 rs hr⟩

end Go.Proofs.YtdedolkgcdlmeaaGreatDoor
