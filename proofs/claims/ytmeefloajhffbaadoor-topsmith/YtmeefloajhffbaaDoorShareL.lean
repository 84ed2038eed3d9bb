/- Rows as they came in; which of them are numbers. -/
import Derived.Test.YtmeefloajhffbaaDoorLightV
import Derived.Test.YtmeefloajhffbaaDoorMats
import Derived.Test.YtmeefloajhffbaaDoorHold

namespace Go.Proofs.YtmeefloajhffbaaDoor
open Go.RowKit Limbs

def Raw.z (r : Raw) : Int := sg r.neg (lv r.zs)

theorem VecL.nums {w : World} {v : Value} {rs : List Raw} {n : Nat} (h : VecL w v rs) (hn : rs.all Raw.num = true) (hl : ∀ r ∈ rs, r.zs.length ≤ n) : VecN w v (rs.map Raw.z) n := by
  obtain ⟨ao, cap, hv, h1, h2⟩ := h
  have hlen : (rs.map Raw.z).length = rs.length := List.length_map ..
  refine ⟨ao, cap, by rw [hlen]; exact hv, by rw [hlen]; exact h1, fun h0 => ?_⟩
  rw [hlen] at h0
  obtain ⟨b, off, e, hlt, hc⟩ := h2 h0
  refine ⟨b, off, e, hlt, fun i hi => ?_⟩
  rw [hlen] at hi
  obtain ⟨h3, h4, h5⟩ := hc i rs[i] (by simp [hi])
  have hm : rs[i] ∈ rs := List.getElem_mem hi
  have hN := NumL.of_isNum (n := n) (List.all_eq_true.1 hn _ hm) h5 (hl _ hm)
  obtain ⟨o, c, es, -⟩ := h5
  refine ⟨rs[i].neg, o, rs[i].zs.length, c, h3, by rw [h4, es], ?_⟩
  rw [← es]
  have e2 : (rs.map Raw.z).getD i 0 = sg rs[i].neg (lv rs[i].zs) := by
    rw [List.getD_eq_getElem?_getD, List.getElem?_map, List.getElem?_eq_getElem hi]; rfl
  rw [e2]
  exact hN

/-- Rows as they came in, light ones. -/
def MatL (w : World) (v : Value) (rss : List (List Raw)) : Prop :=
  ∃ ao cap, v = .slice ao rss.length cap ∧ rss.length ≤ cap ∧ (0 < rss.length → ∃ b off, ao = some ⟨b, off, none⟩ ∧ b < w.heap.size ∧ ∀ i rs, rss[i]? = some rs → ∃ u, w.cell? ⟨b, off + i, none⟩ = some u ∧ VecL w u rs)

theorem MatL.below {B : Nat} {w w' : World} {v : Value} {rss : List (List Raw)} (h : MatL w v rss) (hb : Below B w w') (hB : w.heap.size ≤ B) : MatL w' v rss := by
  obtain ⟨ao, cap, hv, h1, h2⟩ := h
  refine ⟨ao, cap, hv, h1, fun h0 => ?_⟩
  obtain ⟨b, off, e, hlt, hc⟩ := h2 h0
  refine ⟨b, off, e, Nat.lt_of_lt_of_le hlt hb.size, fun i zs hi => ?_⟩
  obtain ⟨u, h3, h4⟩ := hc i zs hi
  exact ⟨u, (hb.cell (p := ⟨b, off + i, none⟩) (Nat.lt_of_lt_of_le hlt hB)).trans h3, h4.below hb hB⟩

theorem MatL.at {W : World} {v : Value} {rss : List (List Raw)} (h : MatL W v rss) (i : Nat) (hi : i < rss.length) : ∃ b off cap, v = .slice (some ⟨b, off, none⟩) rss.length cap ∧ b < W.heap.size ∧ ∃ u, W.cell? ⟨b, off + i, none⟩ = some u ∧ VecL W u rss[i] := by
  obtain ⟨ao, cap, rfl, -, h2⟩ := h
  obtain ⟨b, off, rfl, hlt, hc⟩ := h2 (by omega)
  obtain ⟨u, h3, h4⟩ := hc i rss[i] (by simp [hi])
  exact ⟨b, off, cap, rfl, hlt, u, h3, h4⟩

theorem MatL.toN {w : World} {v : Value} {rss : List (List Raw)} {n : Nat} (h : MatL w v rss) (hf : ∀ rs ∈ rss, rs.all Raw.num = true) (h8 : ∀ rs ∈ rss, ∀ r ∈ rs, r.zs.length ≤ n) : MatN w v (rss.map (·.map Raw.z)) n := by
  obtain ⟨ao, cap, hv, h1, h2⟩ := h
  have hlen : (rss.map (·.map Raw.z)).length = rss.length := List.length_map ..
  refine ⟨ao, cap, by rw [hlen]; exact hv, by rw [hlen]; exact h1, fun h0 => ?_⟩
  rw [hlen] at h0
  obtain ⟨b, off, e, hlt, hc⟩ := h2 h0
  refine ⟨b, off, e, hlt, fun i zs hi => ?_⟩
  obtain ⟨hi', e'⟩ := List.getElem?_eq_some_iff.1 hi
  rw [hlen] at hi'
  rw [List.getElem_map] at e'
  obtain ⟨u, h3, h4⟩ := hc i rss[i] (by simp [hi'])
  have hm : rss[i] ∈ rss := List.getElem_mem hi'
  exact ⟨u, h3, by rw [← e']; exact h4.nums (hf _ hm) (h8 _ hm)⟩

/-- A number, as it would come in. -/
theorem NumL.raw {w : World} {neg : Bool} {s : Value} {z : Int} {n : Nat} (h : NumL w (.agg #[.bool neg, s]) z n) : ∃ zs, Lim w s zs ∧ isNum neg zs = true := by
  obtain ⟨neg', s', zs, e, hl, hn, h0, -, -⟩ := h
  simp only [Value.agg.injEq, Array.mk.injEq, List.cons.injEq, Value.bool.injEq, and_true] at e
  obtain ⟨rfl, rfl⟩ := e
  refine ⟨zs, hl, ?_⟩
  unfold isNum
  by_cases hz : zs.length = 0
  · rw [if_pos hz, h0 hz]; rfl
  · rw [if_neg hz, bne_iff_ne]
    rcases hn with h | h
    · exact absurd h hz
    · exact h

/-- A vector, as it would come in. -/
theorem VecN.raw {w : World} {v : Value} {zs : List Int} {n : Nat} (h : VecN w v zs n) : ∃ rs : List Raw, VecL w v rs ∧ rs.length = zs.length ∧ rs.all Raw.num = true := by
  obtain ⟨ao, cap, rfl, h1, h2⟩ := h
  by_cases h0 : 0 < zs.length
  · obtain ⟨b, off, rfl, hlt, hc⟩ := h2 h0
    have key : ∀ k, k ≤ zs.length → ∃ rs : List Raw, rs.length = k ∧ rs.all Raw.num = true ∧ ∀ i r, rs[i]? = some r → w.cell? ⟨b, off + i * 2, none⟩ = some (.bool r.neg) ∧ w.cell? ⟨b, off + i * 2 + 1, none⟩ = some r.s ∧ Lim w r.s r.zs := by
      intro k
      induction k with
      | zero => exact fun _ => ⟨[], rfl, rfl, fun i r e => by simp at e⟩
      | succ k ih =>
        intro hk
        obtain ⟨rs, e1, e2, e3⟩ := ih (by omega)
        obtain ⟨neg, o, l, c, c0, c1, hn⟩ := hc k (by omega)
        obtain ⟨zs', hl, hi⟩ := hn.raw
        refine ⟨rs ++ [⟨neg, .slice o l c, zs'⟩], by simp [e1], by simp [e2, Raw.num, hi], fun i r e => ?_⟩
        by_cases hi : i < rs.length
        · rw [List.getElem?_append_left hi] at e
          exact e3 i r e
        · rw [List.getElem?_append_right (by omega)] at e
          have hik : i - rs.length = 0 := by
            have := (List.getElem?_eq_some_iff.1 e).1
            simpa using this
          rw [hik] at e
          simp only [List.getElem?_cons_zero, Option.some.injEq] at e
          have : i = k := by omega
          rw [this, ← e]
          exact ⟨c0, c1, hl⟩
    obtain ⟨rs, e1, e2, e3⟩ := key zs.length (Nat.le_refl _)
    exact ⟨rs, ⟨_, cap, by rw [e1], by rw [e1]; exact h1, fun _ => ⟨b, off, rfl, hlt, e3⟩⟩, e1, e2⟩
  · exact ⟨[], ⟨ao, cap, by rw [show zs.length = 0 by omega]; rfl, Nat.zero_le _, fun h => absurd h (by simp)⟩, by simp; omega, rfl⟩

end Go.Proofs.YtmeefloajhffbaaDoor

/- What is wrong with rows. -/
namespace Go.Proofs.YtmeefloajhffbaaDoor
open Go.RowKit Limbs

/-- What is wrong with the first row that isn't right. -/
def chkRows (n : Int) : List (List Raw) → Value
  | [] => .nilIface
  | rs :: t => if (rs.length : Int) ≠ n then .iface 68 (.int .i64 6) else if rs.all Raw.num = false then .iface 68 (.int .i64 3) else chkRows n t

def checkedM (rss : List (List Raw)) (n : Int) : Value :=
  if n < 1 ∨ 8 < n then .iface 68 (.int .i64 1) else if 12 < rss.length then .iface 68 (.int .i64 2) else chkRows n rss

theorem chkRows_step {n : Int} {rss : List (List Raw)} {k : Nat} (hk : k < rss.length) (h1 : (rss[k].length : Int) = n) (h2 : rss[k].all Raw.num = true) : chkRows n (rss.drop (k + 1)) = chkRows n (rss.drop k) := by
  rw [List.drop_eq_getElem_cons hk, chkRows, if_neg (by rw [h1]; exact fun h => h rfl), if_neg (by rw [h2]; decide)]

theorem chkRows_size {n : Int} {rss : List (List Raw)} {k : Nat} (hk : k < rss.length) (h1 : (rss[k].length : Int) ≠ n) : chkRows n (rss.drop k) = .iface 68 (.int .i64 6) := by
  rw [List.drop_eq_getElem_cons hk, chkRows, if_pos h1]

theorem chkRows_shape {n : Int} {rss : List (List Raw)} {k : Nat} (hk : k < rss.length) (h1 : (rss[k].length : Int) = n) (h2 : rss[k].all Raw.num = false) : chkRows n (rss.drop k) = .iface 68 (.int .i64 3) := by
  rw [List.drop_eq_getElem_cons hk, chkRows, if_neg (by rw [h1]; exact fun h => h rfl), if_pos h2]

theorem chkRows_nil {n : Int} : ∀ {rss : List (List Raw)}, chkRows n rss = .nilIface ↔ ∀ rs ∈ rss, (rs.length : Int) = n ∧ rs.all Raw.num = true
  | [] => ⟨fun _ rs h => (by cases h), fun _ => rfl⟩
  | rs :: t => by
    rw [chkRows]
    by_cases h1 : (rs.length : Int) = n
    · rw [if_neg (fun h => h h1)]
      rcases Bool.eq_false_or_eq_true (rs.all Raw.num) with h2 | h2
      rotate_left
      · rw [if_pos h2]
        refine ⟨fun h => (by cases h), fun h => ?_⟩
        have := (h rs (by simp)).2
        rw [h2] at this; cases this
      · rw [if_neg (by rw [h2]; decide), chkRows_nil]
        exact ⟨fun h x hx => by
          rcases List.mem_cons.1 hx with rfl | hx
          · exact ⟨h1, h2⟩
          · exact h x hx, fun h x hx => h x (List.mem_cons_of_mem _ hx)⟩
    · rw [if_pos h1]
      exact ⟨fun h => (by cases h), fun h => absurd (h rs (by simp)).1 h1⟩

theorem checkedM_nil {n : Int} {rss : List (List Raw)} : checkedM rss n = .nilIface ↔ 1 ≤ n ∧ n ≤ 8 ∧ rss.length ≤ 12 ∧ ∀ rs ∈ rss, (rs.length : Int) = n ∧ rs.all Raw.num = true := by
  unfold checkedM
  by_cases h1 : n < 1 ∨ 8 < n
  · rw [if_pos h1]
    exact ⟨fun h => (by cases h), fun h => by omega⟩
  · rw [if_neg h1]
    by_cases h2 : 12 < rss.length
    · rw [if_pos h2]
      exact ⟨fun h => (by cases h), fun h => by omega⟩
    · rw [if_neg h2, chkRows_nil]
      exact ⟨fun h => ⟨by omega, by omega, by omega, h⟩, fun h => h.2.2.2⟩

set_option maxRecDepth 100000 in
set_option maxHeartbeats 1600000 in
theorem checkM_any (w : World) (v : Value) (rss : List (List Raw)) (n : Int) (hv : MatL w v rss) :
    Calls Tryd.prog 22 #[v, .int .i64 n] w fun e w' => e = .returned (checkedM rss n) ∧ Below w.heap.size w w' := by
  have HV := hide hv
  obtain ⟨ao, cap, rfl, -, -⟩ := hv
  by_cases h1 : n < 1
  · have e : checkedM rss n = .iface 68 (.int .i64 1) := if_pos (.inl h1)
    rw [e]
    clear e
    go_enter Tryd.func22, Tryd.ntmps22
    go_wp2
    go_ret
    exact ⟨rfl, Below.refl _ _⟩
  · by_cases h2 : 8 < n
    · have e : checkedM rss n = .iface 68 (.int .i64 1) := if_pos (.inr h2)
      rw [e]
      clear e
      go_enter Tryd.func22, Tryd.ntmps22
      go_wp2
      go_ret
      exact ⟨rfl, Below.refl _ _⟩
    · by_cases h3 : 12 < rss.length
      · have e : checkedM rss n = .iface 68 (.int .i64 2) := by unfold checkedM; rw [if_neg (by omega), if_pos h3]
        rw [e]
        have h3' : (12 : Int) < (rss.length : Int) := by omega
        clear e
        go_enter Tryd.func22, Tryd.ntmps22
        go_wp2
        go_ret
        exact ⟨rfl, Below.refl _ _⟩
      · have e : checkedM rss n = chkRows n rss := by unfold checkedM; rw [if_neg (by omega), if_neg h3]
        rw [e]
        have h3' : ¬ ((12 : Int) < (rss.length : Int)) := by omega
        clear e
        go_enter Tryd.func22, Tryd.ntmps22
        go_wp2
        go_loopw [20] (fun i wr => ∃ k : Nat, k ≤ rss.length ∧ i = .int .i64 k ∧ Hid (chkRows n (rss.drop k) = chkRows n rss) ∧ Below w.heap.size w wr) (fun i _ => rss.length - (intOf i).toNat)
        case atStart => exact ⟨0, Nat.zero_le _, rfl, by show _ = _; rw [List.drop_zero], Below.refl _ _⟩
        case round =>
          obtain ⟨k, hk, rfl, HG, hbe⟩ := hrel
          have HBE := hide hbe
          clear hbe
          by_cases hkl : k < rss.length
          · obtain ⟨b, off, _, e, hlt, u, cu, hu⟩ := (HV.out.below HBE.out (Nat.le_refl _)).at k hkl
            simp only [Value.slice.injEq, true_and] at e
            obtain ⟨rfl, rfl⟩ := e
            have HU := hide hu
            have H1 := hide (fun h1 h2 => (chkRows_step (n := n) hkl h1 h2).trans HG.out)
            have H2 := hide (fun h1 => (HG.out.symm.trans (chkRows_size (n := n) hkl h1)))
            have H3 := hide (fun h1 h2 => (HG.out.symm.trans (chkRows_shape (n := n) hkl h1 h2)))
            generalize rss[k] = rs at *
            obtain ⟨uo, ucap, rfl, -, -⟩ := hu
            by_cases hsz : (rs.length : Int) = n
            · have hb : ((rs.length : Int) != n) = false := by rw [bne_eq_false_iff_eq]; exact hsz
              have hcv : checkedV rs = checked (rs.all Raw.num) := if_neg (by omega)
              have HCK := hide (checkV_any wr _ rs HU.out)
              rw [hcv] at HCK
              have HSZ := hide hsz
              clear hcv HU hsz
              go_wp2_with fail
              refine HCK.out.mono ?_
              rintro e w1 ⟨rfl, hb1⟩
              have HB1 := hide (HBE.out.trans (hb1.mono HBE.out.size))
              clear hb1 HCK
              cases hn : rs.all Raw.num
              · have HA := hide (H3.out HSZ.out hn)
                have e : checked false = .iface 68 (.int .i64 3) := rfl
                rw [e]
                clear H1 H2 H3 e hn
                go_wp2
                go_ret
                exact ⟨by rw [HA.out]; rfl, HB1.out⟩
              · have e : checked true = .nilIface := rfl
                rw [e]
                have HG' := hide (H1.out HSZ.out hn)
                clear H1 H2 H3 e hn HG
                go_wp2
                go_roundw
                case rel => exact ⟨k + 1, by omega, by go_num, HG', HB1.out⟩
                case measure => simp [intOf]; omega
            · have hb : ((rs.length : Int) != n) = true := by rw [bne_iff_ne]; exact hsz
              have HA := hide (H2.out hsz)
              clear H1 H2 H3
              go_wp2
              go_ret
              exact ⟨by rw [HA.out]; rfl, HBE.out⟩
          · obtain rfl : k = rss.length := by omega
            have HA : Hid (chkRows n rss = .nilIface) := by
              have := HG.out
              rw [List.drop_length] at this
              exact this.symm
            clear HG
            go_wp2
            go_ret
            exact ⟨by rw [HA.out]; rfl, HBE.out⟩

theorem MatN.raw {w : World} {v : Value} {zss : List (List Int)} {n : Nat} (h : MatN w v zss n) : ∃ rss : List (List Raw), MatL w v rss ∧ rss.length = zss.length ∧ ∀ i (h : i < zss.length) rs, rss[i]? = some rs → rs.length = zss[i].length ∧ rs.all Raw.num = true := by
  obtain ⟨ao, cap, rfl, h1, h2⟩ := h
  by_cases h0 : 0 < zss.length
  · obtain ⟨b, off, rfl, hlt, hc⟩ := h2 h0
    have key : ∀ k, k ≤ zss.length → ∃ rss : List (List Raw), rss.length = k ∧ (∀ i (h : i < zss.length) rs, rss[i]? = some rs → rs.length = zss[i].length ∧ rs.all Raw.num = true) ∧ ∀ i rs, rss[i]? = some rs → ∃ u, w.cell? ⟨b, off + i, none⟩ = some u ∧ VecL w u rs := by
      intro k
      induction k with
      | zero => exact fun _ => ⟨[], rfl, fun i _ r e => by simp at e, fun i r e => by simp at e⟩
      | succ k ih =>
        intro hk
        obtain ⟨rss, e1, e2, e3⟩ := ih (by omega)
        obtain ⟨u, cu, hu⟩ := hc k zss[k] (by simp)
        obtain ⟨rs, hl, hlen, hnum⟩ := hu.raw
        have two : ∀ i r, (rss ++ [rs])[i]? = some r → rss[i]? = some r ∨ (i = k ∧ r = rs) := fun i r e => by
          by_cases hi : i < rss.length
          · rw [List.getElem?_append_left hi] at e
            exact .inl e
          · rw [List.getElem?_append_right (by omega)] at e
            have hik : i - rss.length = 0 := by
              have := (List.getElem?_eq_some_iff.1 e).1
              simpa using this
            rw [hik] at e
            simp only [List.getElem?_cons_zero, Option.some.injEq] at e
            exact .inr ⟨by omega, e.symm⟩
        refine ⟨rss ++ [rs], by simp [e1], fun i hi r e => ?_, fun i r e => ?_⟩
        · rcases two i r e with h | ⟨rfl, rfl⟩
          · exact e2 i hi r h
          · exact ⟨hlen, hnum⟩
        · rcases two i r e with h | ⟨rfl, rfl⟩
          · exact e3 i r h
          · exact ⟨u, cu, hl⟩
    obtain ⟨rss, e1, e2, e3⟩ := key zss.length (Nat.le_refl _)
    exact ⟨rss, ⟨_, cap, by rw [e1], by rw [e1]; exact h1, fun _ => ⟨b, off, rfl, hlt, e3⟩⟩, e1, e2⟩
  · exact ⟨[], ⟨ao, cap, by rw [show zss.length = 0 by omega]; rfl, Nat.zero_le _, fun h => absurd h (by simp)⟩, by simp; omega, fun i hi => absurd hi (by omega)⟩

/-- Rows that are right. -/
theorem checkM_ok (w : World) (v : Value) (zss : List (List Int)) (n nv : Nat) (hv : MatN w v zss nv) (hn1 : 1 ≤ n) (hn : n ≤ 8) (hl : zss.length ≤ 12) (hr : ∀ zs ∈ zss, zs.length = n) :
    Calls Tryd.prog 22 #[v, .int .i64 (n : Int)] w fun e w' => e = .returned .nilIface ∧ Below w.heap.size w w' := by
  obtain ⟨rss, h1, h2, h3⟩ := hv.raw
  have e : checkedM rss (n : Int) = .nilIface := checkedM_nil.2 ⟨by omega, by omega, by omega, fun rs h => by
    obtain ⟨i, hi, e⟩ := List.getElem_of_mem h
    obtain ⟨h4, h5⟩ := h3 i (by omega) rs (by rw [List.getElem?_eq_getElem hi, e])
    have := hr _ (List.getElem_mem (show i < zss.length by omega))
    exact ⟨by omega, h5⟩⟩
  have := checkM_any w v rss n h1
  rwa [e] at this

end Go.Proofs.YtmeefloajhffbaaDoor

/- mat.Hermite of rows that are right. -/
namespace Go.Proofs.YtmeefloajhffbaaDoor
open Go.RowKit Limbs

/-- What Hermite answers. -/
def HermPost (w : World) (n nv : Nat) (ms : List (List Int)) (e : Ending) (w' : World) : Prop :=
  ∃ u hs p, e = .returned (.tuple #[u, .nilIface]) ∧ MatN w' u hs (n * nv + 2) ∧ hs.length ≤ n ∧ Below w.heap.size w w' ∧ FormL n hs p ∧ Alikes n (InL hs) (InL ms)

/-- The same, and that the list of rows is new. -/
def HermNew (w : World) (n nv : Nat) (ms : List (List Int)) (e : Ending) (w' : World) : Prop :=
  ∃ u hs p, e = .returned (.tuple #[u, .nilIface]) ∧ MatN w' u hs (n * nv + 2) ∧ hs.length ≤ n ∧ Below w.heap.size w w' ∧ FormL n hs p ∧ Alikes n (InL hs) (InL ms) ∧ Fresh w.heap.size u

set_option maxRecDepth 100000 in
set_option maxHeartbeats 1600000 in
theorem hermite_new (w : World) (v : Value) (ms : List (List Int)) (n nv : Nat) (hv : MatN w v ms nv) (hr : ∀ us ∈ ms, us.length = n) (hn1 : 1 ≤ n) (hn : n ≤ 8) (hm : ms.length ≤ 12) (hN : nbK n (n * nv + 2) nv n ≤ 100000) :
    Calls Tryd.prog 10 #[v, .int .i64 (n : Int)] w fun e w' => HermNew w n nv ms e w' := by
  have HC := hide (checkM_ok w v ms n nv hv hn1 hn hm hr)
  have HO := hide (fun w1 (hb : Below w.heap.size w w1) => oneForm_new w1 v ms n nv (hv.below hb (Nat.le_refl _)) hr hn1 (by omega) (by omega) hN)
  obtain ⟨ao, cap, rfl, -, -⟩ := hv
  clear hr hN
  go_enter Tryd.func10, Tryd.ntmps10
  go_wp2_with fail
  refine HC.out.mono ?_
  rintro e w1 ⟨rfl, hb1⟩
  have HB1 := hide hb1
  clear hb1 HC
  go_wp2_with fail
  refine (HO.out w1 HB1.out).mono ?_
  rintro e w2 ⟨u, hs, p, rfl, h1, h2, h3, h4, h5, h6⟩
  have HP := hide (show HermNew w n nv ms (.returned (.tuple #[u, .nilIface])) w2 from ⟨u, hs, p, rfl, h1, h2, HB1.out.trans (h3.mono HB1.out.size), h4, h5, h6.mono HB1.out.size⟩)
  clear h1 h2 h3 h4 h5 h6 HO HB1
  go_wp2
  go_ret2
  exact HP.out

theorem hermite_any (w : World) (v : Value) (ms : List (List Int)) (n nv : Nat) (hv : MatN w v ms nv) (hr : ∀ us ∈ ms, us.length = n) (hn1 : 1 ≤ n) (hn : n ≤ 8) (hm : ms.length ≤ 12) (hN : nbK n (n * nv + 2) nv n ≤ 100000) :
    Calls Tryd.prog 10 #[v, .int .i64 (n : Int)] w fun e w' => HermPost w n nv ms e w' :=
  (hermite_new w v ms n nv hv hr hn1 hn hm hN).mono fun _ _ ⟨u, hs, p, h1, h2, h3, h4, h5, h6, _⟩ => ⟨u, hs, p, h1, h2, h3, h4, h5, h6⟩

end Go.Proofs.YtmeefloajhffbaaDoor

/- Of rows in the one form: where their first numbers lie. -/
namespace Go.Proofs.YtmeefloajhffbaaDoor
open Go.RowKit Limbs

theorem first_eq : ∀ (zs : List Int) (k : Nat), k < zs.length → (∀ j, j < k → zs.getD j 0 = 0) → zs.getD k 0 ≠ 0 → first zs = k
  | [], k, hk, _, _ => absurd hk (by simp)
  | z :: zs, 0, _, _, hne => by
    have : z ≠ 0 := by simpa using hne
    rw [first, if_neg this]; rfl
  | z :: zs, k + 1, hk, h0, hne => by
    have e : z = 0 := by simpa using h0 0 (by omega)
    have ih := first_eq zs k (by simpa using hk) (fun j hj => by simpa using h0 (j + 1) (by omega)) (by simpa using hne)
    rw [first, if_pos e, ih, if_neg (by omega)]
    omega

theorem FormL.first {n : Nat} {hs : List (List Int)} {p : Nat → Nat} (h : FormL n hs p) {k : Nat} (hk : k < hs.length) : first hs[k] = p k ∧ p k < n ∧ 0 < hs[k].getD (p k) 0 := by
  have hlen := h.len _ (List.getElem_mem hk)
  have h1 := h.form.lt k hk
  have h2 := h.form.pos k hk
  have h3 := h.form.zero k
  simp only [getD_row hk] at h2 h3
  exact ⟨first_eq _ _ (by omega) (fun j hj => h3 j hk hj) (by omega), h1, h2⟩

theorem FormL.red {n : Nat} {hs : List (List Int)} {p : Nat → Nat} (h : FormL n hs p) {i k : Nat} (hik : i < k) (hk : k < hs.length) : 0 ≤ (hs[i]'(by omega)).getD (p k) 0 ∧ (hs[i]'(by omega)).getD (p k) 0 < hs[k].getD (p k) 0 := by
  have := h.form.red i k hik hk
  simpa only [getD_row hk, getD_row (show i < hs.length by omega)] using this

/-- The pivot's place of the row ahead. -/
def lastP (p : Nat → Nat) (k : Nat) : Int := if k = 0 then -1 else (p (k - 1) : Int)

theorem FormL.last {n : Nat} {hs : List (List Int)} {p : Nat → Nat} (h : FormL n hs p) {k : Nat} (hk : k < hs.length) : lastP p k < (p k : Int) := by
  unfold lastP
  split
  · omega
  · have := h.form.inc (k - 1) k (by omega) hk
    omega

end Go.Proofs.YtmeefloajhffbaaDoor

/- How much of each row in the one form a vector is: lists. -/
namespace Go.Proofs.YtmeefloajhffbaaDoor
open Go.RowKit Limbs

/-- The row's share of what is left. -/
def oftL (hs : List (List Int)) (p : Nat → Nat) (xs : List Int) (k : Nat) : Int := xs.getD (p k) 0 / (hs.getD k []).getD (p k) 0

/-- What is left once rows are taken off. -/
def leftL (hs : List (List Int)) (p : Nat → Nat) (zs : List Int) : Nat → List Int
  | 0 => zs
  | k + 1 => List.zipWith (fun x y => x - y) (leftL hs p zs k) ((hs.getD k []).map (oftL hs p (leftL hs p zs k) k * ·))

/-- How much of each row. -/
def muchL (hs : List (List Int)) (p : Nat → Nat) (zs : List Int) : List Int := (List.range hs.length).map fun k => oftL hs p (leftL hs p zs k) k

theorem range_getD (m : Nat) (f : Nat → Int) (k : Nat) (hk : k < m) : ((List.range m).map f).getD k 0 = f k := by
  rw [List.getD_eq_getElem?_getD, List.getElem?_map, List.getElem?_range hk]
  rfl

theorem first_neg : ∀ (zs : List Int), first zs < 0 ↔ ∀ b, b < zs.length → zs.getD b 0 = 0
  | [] => ⟨fun _ b hb => absurd hb (by simp), fun _ => by decide⟩
  | z :: zs => by
    have ih := first_neg zs
    have hge := first_ge zs
    rw [first]
    by_cases h : z = 0
    · rw [if_pos h]
      constructor
      · intro h1 b hb
        have h2 : first zs < 0 := by
          by_cases h3 : first zs < 0
          · exact h3
          · rw [if_neg h3] at h1; omega
        cases b with
        | zero => simpa using h
        | succ b => simpa using ih.1 h2 b (by simpa using hb)
      · intro h1
        have h2 : first zs < 0 := ih.2 fun b hb => by simpa using h1 (b + 1) (by simpa using hb)
        rw [if_pos h2]; decide
    · rw [if_neg h]
      exact ⟨fun h1 => absurd h1 (by decide), fun h1 => absurd (by simpa using h1 0 (by simp)) h⟩

end Go.Proofs.YtmeefloajhffbaaDoor
