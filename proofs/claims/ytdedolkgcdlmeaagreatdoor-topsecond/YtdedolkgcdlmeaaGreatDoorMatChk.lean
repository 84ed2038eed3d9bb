/- What is wrong with rows. -/
import Derived.Test.YtdedolkgcdlmeaaGreatDoorMatRaw
namespace Go.Proofs.YtdedolkgcdlmeaaGreatDoor
open Go.RowKit Limbs

/-- What is wrong with the first row that isn't right. -/
def chkRows (n : Int) : List (List Raw) → Value
  | [] => .nilIface
  | rs :: t => if (rs.length : Int) ≠ n then .iface 102 (.int .i64 6) else if rs.all Raw.num = false then .iface 102 (.int .i64 3) else chkRows n t

def checkedM (rss : List (List Raw)) (n : Int) : Value :=
  if n < 1 ∨ 8 < n then .iface 102 (.int .i64 1) else if 12 < rss.length then .iface 102 (.int .i64 2) else chkRows n rss

theorem chkRows_step {n : Int} {rss : List (List Raw)} {k : Nat} (hk : k < rss.length) (h1 : (rss[k].length : Int) = n) (h2 : rss[k].all Raw.num = true) : chkRows n (rss.drop (k + 1)) = chkRows n (rss.drop k) := by
  rw [List.drop_eq_getElem_cons hk, chkRows, if_neg (by rw [h1]; exact fun h => h rfl), if_neg (by rw [h2]; decide)]

theorem chkRows_size {n : Int} {rss : List (List Raw)} {k : Nat} (hk : k < rss.length) (h1 : (rss[k].length : Int) ≠ n) : chkRows n (rss.drop k) = .iface 102 (.int .i64 6) := by
  rw [List.drop_eq_getElem_cons hk, chkRows, if_pos h1]

theorem chkRows_shape {n : Int} {rss : List (List Raw)} {k : Nat} (hk : k < rss.length) (h1 : (rss[k].length : Int) = n) (h2 : rss[k].all Raw.num = false) : chkRows n (rss.drop k) = .iface 102 (.int .i64 3) := by
  rw [List.drop_eq_getElem_cons hk, chkRows, if_neg (by rw [h1]; exact fun h => h rfl), if_pos h2]

theorem chkRows_nil {n : Int} : ∀ {rss : List (List Raw)}, chkRows n rss = .nilIface ↔ ∀ rs ∈ rss, (rs.length : Int) = n ∧ rs.all Raw.num = true
  | [] => ⟨fun _ rs h => (by cases h), fun _ => rfl⟩
  | rs :: t => by
    rw [chkRows]
    by_cases h1 : (rs.length : Int) = n
    · rw [if_neg (fun h => h h1)]
      rcases Bool.eq_false_or_eq_true (rs.all Raw.num) with h2 | h2
      rotate_left
      · rw [if_pos h2]
        refine ⟨fun h => (by cases h), fun h => ?_⟩
        have := (h rs (by simp)).2
        rw [h2] at this; cases this
      · rw [if_neg (by rw [h2]; decide), chkRows_nil]
        exact ⟨fun h x hx => by
          rcases List.mem_cons.1 hx with rfl | hx
          · exact ⟨h1, h2⟩
          · exact h x hx, fun h x hx => h x (List.mem_cons_of_mem _ hx)⟩
    · rw [if_pos h1]
      exact ⟨fun h => (by cases h), fun h => absurd (h rs (by simp)).1 h1⟩

theorem checkedM_nil {n : Int} {rss : List (List Raw)} : checkedM rss n = .nilIface ↔ 1 ≤ n ∧ n ≤ 8 ∧ rss.length ≤ 12 ∧ ∀ rs ∈ rss, (rs.length : Int) = n ∧ rs.all Raw.num = true := by
  unfold checkedM
  by_cases h1 : n < 1 ∨ 8 < n
  · rw [if_pos h1]
    exact ⟨fun h => (by cases h), fun h => by omega⟩
  · rw [if_neg h1]
    by_cases h2 : 12 < rss.length
    · rw [if_pos h2]
      exact ⟨fun h => (by cases h), fun h => by omega⟩
    · rw [if_neg h2, chkRows_nil]
      exact ⟨fun h => ⟨by omega, by omega, by omega, h⟩, fun h => h.2.2.2⟩

set_option maxRecDepth 100000 in
set_option maxHeartbeats 1600000 in
theorem checkM_any (w : World) (v : Value) (rss : List (List Raw)) (n : Int) (hv : MatL w v rss) :
    Calls Tryz.prog 51 #[v, .int .i64 n] w fun e w' => e = .returned (checkedM rss n) ∧ Below w.heap.size w w' := by
  have HV := hide hv
  obtain ⟨ao, cap, rfl, -, -⟩ := hv
  by_cases h1 : n < 1
  · have e : checkedM rss n = .iface 102 (.int .i64 1) := if_pos (.inl h1)
    rw [e]
    clear e
    go_enter Tryz.func51, Tryz.ntmps51
    go_wp2
    go_ret
    exact ⟨rfl, Below.refl _ _⟩
  · by_cases h2 : 8 < n
    · have e : checkedM rss n = .iface 102 (.int .i64 1) := if_pos (.inr h2)
      rw [e]
      clear e
      go_enter Tryz.func51, Tryz.ntmps51
      go_wp2
      go_ret
      exact ⟨rfl, Below.refl _ _⟩
    · by_cases h3 : 12 < rss.length
      · have e : checkedM rss n = .iface 102 (.int .i64 2) := by unfold checkedM; rw [if_neg (by omega), if_pos h3]
        rw [e]
        have h3' : (12 : Int) < (rss.length : Int) := by omega
        clear e
        go_enter Tryz.func51, Tryz.ntmps51
        go_wp2
        go_ret
        exact ⟨rfl, Below.refl _ _⟩
      · have e : checkedM rss n = chkRows n rss := by unfold checkedM; rw [if_neg (by omega), if_neg h3]
        rw [e]
        have h3' : ¬ ((12 : Int) < (rss.length : Int)) := by omega
        clear e
        go_enter Tryz.func51, Tryz.ntmps51
        go_wp2
        go_loopw [20] (fun i wr => ∃ k : Nat, k ≤ rss.length ∧ i = .int .i64 k ∧ Hid (chkRows n (rss.drop k) = chkRows n rss) ∧ Below w.heap.size w wr) (fun i _ => rss.length - (intOf i).toNat)
        case atStart => exact ⟨0, Nat.zero_le _, rfl, by show _ = _; rw [List.drop_zero], Below.refl _ _⟩
        case round =>
          obtain ⟨k, hk, rfl, HG, hbe⟩ := hrel
          have HBE := hide hbe
          clear hbe
          by_cases hkl : k < rss.length
          · obtain ⟨b, off, _, e, hlt, u, cu, hu⟩ := (HV.out.below HBE.out (Nat.le_refl _)).at k hkl
            simp only [Value.slice.injEq, true_and] at e
            obtain ⟨rfl, rfl⟩ := e
            have HU := hide hu
            have H1 := hide (fun h1 h2 => (chkRows_step (n := n) hkl h1 h2).trans HG.out)
            have H2 := hide (fun h1 => (HG.out.symm.trans (chkRows_size (n := n) hkl h1)))
            have H3 := hide (fun h1 h2 => (HG.out.symm.trans (chkRows_shape (n := n) hkl h1 h2)))
            generalize rss[k] = rs at *
            obtain ⟨uo, ucap, rfl, -, -⟩ := hu
            by_cases hsz : (rs.length : Int) = n
            · have hb : ((rs.length : Int) != n) = false := by rw [bne_eq_false_iff_eq]; exact hsz
              have hcv : checkedV rs = checked (rs.all Raw.num) := if_neg (by omega)
              have HCK := hide (checkV_any wr _ rs HU.out)
              rw [hcv] at HCK
              have HSZ := hide hsz
              clear hcv HU hsz
              go_wp2_with fail
              refine HCK.out.mono ?_
              rintro e w1 ⟨rfl, hb1⟩
              have HB1 := hide (HBE.out.trans (hb1.mono HBE.out.size))
              clear hb1 HCK
              cases hn : rs.all Raw.num
              · have HA := hide (H3.out HSZ.out hn)
                have e : checked false = .iface 102 (.int .i64 3) := rfl
                rw [e]
                clear H1 H2 H3 e hn
                go_wp2
                go_ret
                exact ⟨by rw [HA.out]; rfl, HB1.out⟩
              · have e : checked true = .nilIface := rfl
                rw [e]
                have HG' := hide (H1.out HSZ.out hn)
                clear H1 H2 H3 e hn HG
                go_wp2
                go_roundw
                case rel => exact ⟨k + 1, by omega, by go_num, HG', HB1.out⟩
                case measure => simp [intOf]; omega
            · have hb : ((rs.length : Int) != n) = true := by rw [bne_iff_ne]; exact hsz
              have HA := hide (H2.out hsz)
              clear H1 H2 H3
              go_wp2
              go_ret
              exact ⟨by rw [HA.out]; rfl, HBE.out⟩
          · obtain rfl : k = rss.length := by omega
            have HA : Hid (chkRows n rss = .nilIface) := by
              have := HG.out
              rw [List.drop_length] at this
              exact this.symm
            clear HG
            go_wp2
            go_ret
            exact ⟨by rw [HA.out]; rfl, HBE.out⟩

theorem MatN.raw {w : World} {v : Value} {zss : List (List Int)} {n : Nat} (h : MatN w v zss n) : ∃ rss : List (List Raw), MatL w v rss ∧ rss.length = zss.length ∧ ∀ i (h : i < zss.length) rs, rss[i]? = some rs → rs.length = zss[i].length ∧ rs.all Raw.num = true := by
  obtain ⟨ao, cap, rfl, h1, h2⟩ := h
  by_cases h0 : 0 < zss.length
  · obtain ⟨b, off, rfl, hlt, hc⟩ := h2 h0
    have key : ∀ k, k ≤ zss.length → ∃ rss : List (List Raw), rss.length = k ∧ (∀ i (h : i < zss.length) rs, rss[i]? = some rs → rs.length = zss[i].length ∧ rs.all Raw.num = true) ∧ ∀ i rs, rss[i]? = some rs → ∃ u, w.cell? ⟨b, off + i, none⟩ = some u ∧ VecL w u rs := by
      intro k
      induction k with
      | zero => exact fun _ => ⟨[], rfl, fun i _ r e => by simp at e, fun i r e => by simp at e⟩
      | succ k ih =>
        intro hk
        obtain ⟨rss, e1, e2, e3⟩ := ih (by omega)
        obtain ⟨u, cu, hu⟩ := hc k zss[k] (by simp)
        obtain ⟨rs, hl, hlen, hnum⟩ := hu.raw
        have two : ∀ i r, (rss ++ [rs])[i]? = some r → rss[i]? = some r ∨ (i = k ∧ r = rs) := fun i r e => by
          by_cases hi : i < rss.length
          · rw [List.getElem?_append_left hi] at e
            exact .inl e
          · rw [List.getElem?_append_right (by omega)] at e
            have hik : i - rss.length = 0 := by
              have := (List.getElem?_eq_some_iff.1 e).1
              simpa using this
            rw [hik] at e
            simp only [List.getElem?_cons_zero, Option.some.injEq] at e
            exact .inr ⟨by omega, e.symm⟩
        refine ⟨rss ++ [rs], by simp [e1], fun i hi r e => ?_, fun i r e => ?_⟩
        · rcases two i r e with h | ⟨rfl, rfl⟩
          · exact e2 i hi r h
          · exact ⟨hlen, hnum⟩
        · rcases two i r e with h | ⟨rfl, rfl⟩
          · exact e3 i r h
          · exact ⟨u, cu, hl⟩
    obtain ⟨rss, e1, e2, e3⟩ := key zss.length (Nat.le_refl _)
    exact ⟨rss, ⟨_, cap, by rw [e1], by rw [e1]; exact h1, fun _ => ⟨b, off, rfl, hlt, e3⟩⟩, e1, e2⟩
  · exact ⟨[], ⟨ao, cap, by rw [show zss.length = 0 by omega]; rfl, Nat.zero_le _, fun h => absurd h (by simp)⟩, by simp; omega, fun i hi => absurd hi (by omega)⟩

/-- Rows that are right. -/
theorem checkM_ok (w : World) (v : Value) (zss : List (List Int)) (n nv : Nat) (hv : MatN w v zss nv) (hn1 : 1 ≤ n) (hn : n ≤ 8) (hl : zss.length ≤ 12) (hr : ∀ zs ∈ zss, zs.length = n) :
    Calls Tryz.prog 51 #[v, .int .i64 (n : Int)] w fun e w' => e = .returned .nilIface ∧ Below w.heap.size w w' := by
  obtain ⟨rss, h1, h2, h3⟩ := hv.raw
  have e : checkedM rss (n : Int) = .nilIface := checkedM_nil.2 ⟨by omega, by omega, by omega, fun rs h => by
    obtain ⟨i, hi, e⟩ := List.getElem_of_mem h
    obtain ⟨h4, h5⟩ := h3 i (by omega) rs (by rw [List.getElem?_eq_getElem hi, e])
    have := hr _ (List.getElem_mem (show i < zss.length by omega))
    exact ⟨by omega, h5⟩⟩
  have := checkM_any w v rss n h1
  rwa [e] at this

end Go.Proofs.YtdedolkgcdlmeaaGreatDoor
