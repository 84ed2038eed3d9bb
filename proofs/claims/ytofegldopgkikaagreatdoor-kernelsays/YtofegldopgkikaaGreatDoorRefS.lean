/- What is wrong with rows. -/
import Derived.Test.YtofegldopgkikaaGreatDoorMatRaw
import Derived.Test.YtofegldopgkikaaGreatDoorFit
import Derived.Test.YtofegldopgkikaaGreatDoorDivOne
import Derived.Test.YtofegldopgkikaaGreatDoorRefH

namespace Go.Proofs.YtofegldopgkikaaGreatDoor
open Go.RowKit Limbs

/-- What is wrong with the first row that isn't right. -/
def chkRows (n : Int) : List (List Raw) → Value
  | [] => .nilIface
  | rs :: t => if (rs.length : Int) ≠ n then .iface 50 (.int .i64 6) else if rs.all Raw.num = false then .iface 50 (.int .i64 3) else chkRows n t

def checkedM (rss : List (List Raw)) (n : Int) : Value :=
  if n < 1 ∨ 8 < n then .iface 50 (.int .i64 1) else if 12 < rss.length then .iface 50 (.int .i64 2) else chkRows n rss

theorem chkRows_step {n : Int} {rss : List (List Raw)} {k : Nat} (hk : k < rss.length) (h1 : (rss[k].length : Int) = n) (h2 : rss[k].all Raw.num = true) : chkRows n (rss.drop (k + 1)) = chkRows n (rss.drop k) := by
  rw [List.drop_eq_getElem_cons hk, chkRows, if_neg (by rw [h1]; exact fun h => h rfl), if_neg (by rw [h2]; decide)]

theorem chkRows_size {n : Int} {rss : List (List Raw)} {k : Nat} (hk : k < rss.length) (h1 : (rss[k].length : Int) ≠ n) : chkRows n (rss.drop k) = .iface 50 (.int .i64 6) := by
  rw [List.drop_eq_getElem_cons hk, chkRows, if_pos h1]

theorem chkRows_shape {n : Int} {rss : List (List Raw)} {k : Nat} (hk : k < rss.length) (h1 : (rss[k].length : Int) = n) (h2 : rss[k].all Raw.num = false) : chkRows n (rss.drop k) = .iface 50 (.int .i64 3) := by
  rw [List.drop_eq_getElem_cons hk, chkRows, if_neg (by rw [h1]; exact fun h => h rfl), if_pos h2]

theorem chkRows_nil {n : Int} : ∀ {rss : List (List Raw)}, chkRows n rss = .nilIface ↔ ∀ rs ∈ rss, (rs.length : Int) = n ∧ rs.all Raw.num = true
  | [] => ⟨fun _ rs h => (by cases h), fun _ => rfl⟩
  | rs :: t => by
    rw [chkRows]
    by_cases h1 : (rs.length : Int) = n
    · rw [if_neg (fun h => h h1)]
      rcases Bool.eq_false_or_eq_true (rs.all Raw.num) with h2 | h2
      rotate_left
      · rw [if_pos h2]
        refine ⟨fun h => (by cases h), fun h => ?_⟩
        have := (h rs (by simp)).2
        rw [h2] at this; cases this
      · rw [if_neg (by rw [h2]; decide), chkRows_nil]
        exact ⟨fun h x hx => by
          rcases List.mem_cons.1 hx with rfl | hx
          · exact ⟨h1, h2⟩
          · exact h x hx, fun h x hx => h x (List.mem_cons_of_mem _ hx)⟩
    · rw [if_pos h1]
      exact ⟨fun h => (by cases h), fun h => absurd (h rs (by simp)).1 h1⟩

theorem checkedM_nil {n : Int} {rss : List (List Raw)} : checkedM rss n = .nilIface ↔ 1 ≤ n ∧ n ≤ 8 ∧ rss.length ≤ 12 ∧ ∀ rs ∈ rss, (rs.length : Int) = n ∧ rs.all Raw.num = true := by
  unfold checkedM
  by_cases h1 : n < 1 ∨ 8 < n
  · rw [if_pos h1]
    exact ⟨fun h => (by cases h), fun h => by omega⟩
  · rw [if_neg h1]
    by_cases h2 : 12 < rss.length
    · rw [if_pos h2]
      exact ⟨fun h => (by cases h), fun h => by omega⟩
    · rw [if_neg h2, chkRows_nil]
      exact ⟨fun h => ⟨by omega, by omega, by omega, h⟩, fun h => h.2.2.2⟩

set_option maxRecDepth 100000 in
set_option maxHeartbeats 1600000 in
theorem checkM_any (w : World) (v : Value) (rss : List (List Raw)) (n : Int) (hv : MatL w v rss) :
    Calls Tryz.prog 18 #[v, .int .i64 n] w fun e w' => e = .returned (checkedM rss n) ∧ Below w.heap.size w w' := by
  have HV := hide hv
  obtain ⟨ao, cap, rfl, -, -⟩ := hv
  by_cases h1 : n < 1
  · have e : checkedM rss n = .iface 50 (.int .i64 1) := if_pos (.inl h1)
    rw [e]
    clear e
    go_enter Tryz.func18, Tryz.ntmps18
    go_wp2
    go_ret
    exact ⟨rfl, Below.refl _ _⟩
  · by_cases h2 : 8 < n
    · have e : checkedM rss n = .iface 50 (.int .i64 1) := if_pos (.inr h2)
      rw [e]
      clear e
      go_enter Tryz.func18, Tryz.ntmps18
      go_wp2
      go_ret
      exact ⟨rfl, Below.refl _ _⟩
    · by_cases h3 : 12 < rss.length
      · have e : checkedM rss n = .iface 50 (.int .i64 2) := by unfold checkedM; rw [if_neg (by omega), if_pos h3]
        rw [e]
        have h3' : (12 : Int) < (rss.length : Int) := by omega
        clear e
        go_enter Tryz.func18, Tryz.ntmps18
        go_wp2
        go_ret
        exact ⟨rfl, Below.refl _ _⟩
      · have e : checkedM rss n = chkRows n rss := by unfold checkedM; rw [if_neg (by omega), if_neg h3]
        rw [e]
        have h3' : ¬ ((12 : Int) < (rss.length : Int)) := by omega
        clear e
        go_enter Tryz.func18, Tryz.ntmps18
        go_wp2
        go_loopw [20] (fun i wr => ∃ k : Nat, k ≤ rss.length ∧ i = .int .i64 k ∧ Hid (chkRows n (rss.drop k) = chkRows n rss) ∧ Below w.heap.size w wr) (fun i _ => rss.length - (intOf i).toNat)
        case atStart => exact ⟨0, Nat.zero_le _, rfl, by show _ = _; rw [List.drop_zero], Below.refl _ _⟩
        case round =>
          obtain ⟨k, hk, rfl, HG, hbe⟩ := hrel
          have HBE := hide hbe
          clear hbe
          by_cases hkl : k < rss.length
          · obtain ⟨b, off, _, e, hlt, u, cu, hu⟩ := (HV.out.below HBE.out (Nat.le_refl _)).at k hkl
            simp only [Value.slice.injEq, true_and] at e
            obtain ⟨rfl, rfl⟩ := e
            have HU := hide hu
            have H1 := hide (fun h1 h2 => (chkRows_step (n := n) hkl h1 h2).trans HG.out)
            have H2 := hide (fun h1 => (HG.out.symm.trans (chkRows_size (n := n) hkl h1)))
            have H3 := hide (fun h1 h2 => (HG.out.symm.trans (chkRows_shape (n := n) hkl h1 h2)))
            generalize rss[k] = rs at *
            obtain ⟨uo, ucap, rfl, -, -⟩ := hu
            by_cases hsz : (rs.length : Int) = n
            · have hb : ((rs.length : Int) != n) = false := by rw [bne_eq_false_iff_eq]; exact hsz
              have hcv : checkedV rs = checked (rs.all Raw.num) := if_neg (by omega)
              have HCK := hide (checkV_any wr _ rs HU.out)
              rw [hcv] at HCK
              have HSZ := hide hsz
              clear hcv HU hsz
              go_wp2_with fail
              refine HCK.out.mono ?_
              rintro e w1 ⟨rfl, hb1⟩
              have HB1 := hide (HBE.out.trans (hb1.mono HBE.out.size))
              clear hb1 HCK
              cases hn : rs.all Raw.num
              · have HA := hide (H3.out HSZ.out hn)
                have e : checked false = .iface 50 (.int .i64 3) := rfl
                rw [e]
                clear H1 H2 H3 e hn
                go_wp2
                go_ret
                exact ⟨by rw [HA.out]; rfl, HB1.out⟩
              · have e : checked true = .nilIface := rfl
                rw [e]
                have HG' := hide (H1.out HSZ.out hn)
                clear H1 H2 H3 e hn HG
                go_wp2
                go_roundw
                case rel => exact ⟨k + 1, by omega, by go_num, HG', HB1.out⟩
                case measure => simp [intOf]; omega
            · have hb : ((rs.length : Int) != n) = true := by rw [bne_iff_ne]; exact hsz
              have HA := hide (H2.out hsz)
              clear H1 H2 H3
              go_wp2
              go_ret
              exact ⟨by rw [HA.out]; rfl, HBE.out⟩
          · obtain rfl : k = rss.length := by omega
            have HA : Hid (chkRows n rss = .nilIface) := by
              have := HG.out
              rw [List.drop_length] at this
              exact this.symm
            clear HG
            go_wp2
            go_ret
            exact ⟨by rw [HA.out]; rfl, HBE.out⟩

theorem MatN.raw {w : World} {v : Value} {zss : List (List Int)} {n : Nat} (h : MatN w v zss n) : ∃ rss : List (List Raw), MatL w v rss ∧ rss.length = zss.length ∧ ∀ i (h : i < zss.length) rs, rss[i]? = some rs → rs.length = zss[i].length ∧ rs.all Raw.num = true := by
  obtain ⟨ao, cap, rfl, h1, h2⟩ := h
  by_cases h0 : 0 < zss.length
  · obtain ⟨b, off, rfl, hlt, hc⟩ := h2 h0
    have key : ∀ k, k ≤ zss.length → ∃ rss : List (List Raw), rss.length = k ∧ (∀ i (h : i < zss.length) rs, rss[i]? = some rs → rs.length = zss[i].length ∧ rs.all Raw.num = true) ∧ ∀ i rs, rss[i]? = some rs → ∃ u, w.cell? ⟨b, off + i, none⟩ = some u ∧ VecL w u rs := by
      intro k
      induction k with
      | zero => exact fun _ => ⟨[], rfl, fun i _ r e => by simp at e, fun i r e => by simp at e⟩
      | succ k ih =>
        intro hk
        obtain ⟨rss, e1, e2, e3⟩ := ih (by omega)
        obtain ⟨u, cu, hu⟩ := hc k zss[k] (by simp)
        obtain ⟨rs, hl, hlen, hnum⟩ := hu.raw
        have two : ∀ i r, (rss ++ [rs])[i]? = some r → rss[i]? = some r ∨ (i = k ∧ r = rs) := fun i r e => by
          by_cases hi : i < rss.length
          · rw [List.getElem?_append_left hi] at e
            exact .inl e
          · rw [List.getElem?_append_right (by omega)] at e
            have hik : i - rss.length = 0 := by
              have := (List.getElem?_eq_some_iff.1 e).1
              simpa using this
            rw [hik] at e
            simp only [List.getElem?_cons_zero, Option.some.injEq] at e
            exact .inr ⟨by omega, e.symm⟩
        refine ⟨rss ++ [rs], by simp [e1], fun i hi r e => ?_, fun i r e => ?_⟩
        · rcases two i r e with h | ⟨rfl, rfl⟩
          · exact e2 i hi r h
          · exact ⟨hlen, hnum⟩
        · rcases two i r e with h | ⟨rfl, rfl⟩
          · exact e3 i r h
          · exact ⟨u, cu, hl⟩
    obtain ⟨rss, e1, e2, e3⟩ := key zss.length (Nat.le_refl _)
    exact ⟨rss, ⟨_, cap, by rw [e1], by rw [e1]; exact h1, fun _ => ⟨b, off, rfl, hlt, e3⟩⟩, e1, e2⟩
  · exact ⟨[], ⟨ao, cap, by rw [show zss.length = 0 by omega]; rfl, Nat.zero_le _, fun h => absurd h (by simp)⟩, by simp; omega, fun i hi => absurd hi (by omega)⟩

/-- Rows that are right. -/
theorem checkM_ok (w : World) (v : Value) (zss : List (List Int)) (n nv : Nat) (hv : MatN w v zss nv) (hn1 : 1 ≤ n) (hn : n ≤ 8) (hl : zss.length ≤ 12) (hr : ∀ zs ∈ zss, zs.length = n) :
    Calls Tryz.prog 18 #[v, .int .i64 (n : Int)] w fun e w' => e = .returned .nilIface ∧ Below w.heap.size w w' := by
  obtain ⟨rss, h1, h2, h3⟩ := hv.raw
  have e : checkedM rss (n : Int) = .nilIface := checkedM_nil.2 ⟨by omega, by omega, by omega, fun rs h => by
    obtain ⟨i, hi, e⟩ := List.getElem_of_mem h
    obtain ⟨h4, h5⟩ := h3 i (by omega) rs (by rw [List.getElem?_eq_getElem hi, e])
    have := hr _ (List.getElem_mem (show i < zss.length by omega))
    exact ⟨by omega, h5⟩⟩
  have := checkM_any w v rss n h1
  rwa [e] at this

end Go.Proofs.YtofegldopgkikaaGreatDoor

/- Is it the error of that number? -/
namespace Go.Proofs.YtofegldopgkikaaGreatDoor
open Go.RowKit Limbs

theorem Tryz.asErrno (v : Value) (w : World) : (Instr.typeAssert (.iface 50 v) 28 50 true).run Tryz.prog w = .ok (.tuple #[v, .bool true]) w := by kernel_rfl

set_option maxRecDepth 100000 in
theorem same_errno (n f : Int) (w : World) :
    Calls Tryz.prog 8 #[.iface 50 (.int .i64 n), .int .i64 f] w fun e w' => e = .returned (.bool (decide (0 < f) && n == f)) ∧ w' = w := by
  have has := Tryz.asErrno
  by_cases h1 : 0 < f
  · have e1 : decide (0 < f) = true := decide_eq_true h1
    go_enter Tryz.func8, Tryz.ntmps8
    go_wp2
    go_ret
    exact ⟨ret_bool (by simp [e1]), rfl⟩
  · have e1 : decide (0 < f) = false := decide_eq_false h1
    go_enter Tryz.func8, Tryz.ntmps8
    go_wp2
    go_ret
    exact ⟨ret_bool (by simp), rfl⟩

set_option maxRecDepth 100000 in
theorem same_nil (f : Int) (w : World) :
    Calls Tryz.prog 8 #[.nilIface, .int .i64 f] w fun e w' => e = .returned (.bool (f == 0)) ∧ w' = w := by
  go_enter Tryz.func8, Tryz.ntmps8
  go_wp2
  go_ret
  exact ⟨rfl, rfl⟩

theorem same_of (n : Int) (hn : 0 < n) (w : World) : Calls Tryz.prog 8 #[.iface 50 (.int .i64 n), .int .i64 n] w fun e w' => e = .returned (.bool true) ∧ w' = w := by
  refine (same_errno n n w).mono ?_
  rintro e w' ⟨rfl, rfl⟩
  refine ⟨?_, rfl⟩
  rw [decide_eq_true hn, beq_self_eq_true]; rfl

theorem same_zero (w : World) : Calls Tryz.prog 8 #[.nilIface, .int .i64 0] w fun e w' => e = .returned (.bool true) ∧ w' = w := same_nil 0 w

end Go.Proofs.YtofegldopgkikaaGreatDoor

/- The reference: what is wrong with rows. -/
namespace Go.Proofs.YtofegldopgkikaaGreatDoor
open Go.RowKit Limbs Digs

def chkF (n : Int) : List (List Raw) → Int
  | [] => 0
  | rs :: t => if (rs.length : Int) ≠ n then 6 else if rs.all Raw.num = false then 3 else chkF n t

def faultM (rss : List (List Raw)) (n : Int) : Int := if n < 1 ∨ 8 < n then 1 else if 12 < rss.length then 2 else chkF n rss

theorem chkF_step {n : Int} {rss : List (List Raw)} {k : Nat} (hk : k < rss.length) (h1 : (rss[k].length : Int) = n) (h2 : rss[k].all Raw.num = true) : chkF n (rss.drop (k + 1)) = chkF n (rss.drop k) := by
  rw [List.drop_eq_getElem_cons hk, chkF, if_neg (by rw [h1]; exact fun h => h rfl), if_neg (by rw [h2]; decide)]

theorem chkF_size {n : Int} {rss : List (List Raw)} {k : Nat} (hk : k < rss.length) (h1 : (rss[k].length : Int) ≠ n) : chkF n (rss.drop k) = 6 := by
  rw [List.drop_eq_getElem_cons hk, chkF, if_pos h1]

theorem chkF_shape {n : Int} {rss : List (List Raw)} {k : Nat} (hk : k < rss.length) (h1 : (rss[k].length : Int) = n) (h2 : rss[k].all Raw.num = false) : chkF n (rss.drop k) = 3 := by
  rw [List.drop_eq_getElem_cons hk, chkF, if_neg (by rw [h1]; exact fun h => h rfl), if_pos h2]

theorem chk_same (n : Int) : ∀ rss, (chkRows n rss = .nilIface ∧ chkF n rss = 0) ∨ ∃ c : Int, 0 < c ∧ chkRows n rss = .iface 50 (.int .i64 c) ∧ chkF n rss = c
  | [] => .inl ⟨rfl, rfl⟩
  | rs :: t => by
    rw [chkRows, chkF]
    split
    · exact .inr ⟨6, by decide, rfl, rfl⟩
    · split
      · exact .inr ⟨3, by decide, rfl, rfl⟩
      · exact chk_same n t

theorem fault_same (rss : List (List Raw)) (n : Int) : (checkedM rss n = .nilIface ∧ faultM rss n = 0) ∨ ∃ c : Int, 0 < c ∧ checkedM rss n = .iface 50 (.int .i64 c) ∧ faultM rss n = c := by
  unfold checkedM faultM
  split
  · exact .inr ⟨1, by decide, rfl, rfl⟩
  · split
    · exact .inr ⟨2, by decide, rfl, rfl⟩
    · exact chk_same n rss

set_option maxRecDepth 100000 in
set_option maxHeartbeats 1600000 in
theorem matFault_any (w : World) (v : Value) (rss : List (List Raw)) (n : Int) (hv : MatL w v rss) :
    Calls Tryz.prog 6 #[v, .int .i64 n] w fun e w' => e = .returned (.int .i64 (faultM rss n)) ∧ Below w.heap.size w w' := by
  have HV := hide hv
  obtain ⟨ao, cap, rfl, -, -⟩ := hv
  by_cases h1 : n < 1
  · have e : faultM rss n = 1 := if_pos (.inl h1)
    rw [e]
    clear e
    go_enter Tryz.func6, Tryz.ntmps6
    go_wp2
    go_ret
    exact ⟨rfl, Below.refl _ _⟩
  · by_cases h2 : 8 < n
    · have e : faultM rss n = 1 := if_pos (.inr h2)
      rw [e]
      clear e
      go_enter Tryz.func6, Tryz.ntmps6
      go_wp2
      go_ret
      exact ⟨rfl, Below.refl _ _⟩
    · by_cases h3 : 12 < rss.length
      · have e : faultM rss n = 2 := by unfold faultM; rw [if_neg (by omega), if_pos h3]
        rw [e]
        have h3' : (12 : Int) < (rss.length : Int) := by omega
        clear e
        go_enter Tryz.func6, Tryz.ntmps6
        go_wp2
        go_ret
        exact ⟨rfl, Below.refl _ _⟩
      · have e : faultM rss n = chkF n rss := by unfold faultM; rw [if_neg (by omega), if_neg h3]
        rw [e]
        have h3' : ¬ ((12 : Int) < (rss.length : Int)) := by omega
        clear e
        go_enter Tryz.func6, Tryz.ntmps6
        go_wp2
        go_loopw [5] (fun i wr => ∃ k : Nat, k ≤ rss.length ∧ i = .int .i64 k ∧ Hid (chkF n (rss.drop k) = chkF n rss) ∧ Below w.heap.size w wr) (fun i _ => rss.length - (intOf i).toNat)
        case atStart => exact ⟨0, Nat.zero_le _, rfl, by show _ = _; rw [List.drop_zero], Below.refl _ _⟩
        case round =>
          obtain ⟨k, hk, rfl, HG, hbe⟩ := hrel
          have HBE := hide hbe
          clear hbe
          by_cases hkl : k < rss.length
          · obtain ⟨b, off, _, e, hlt, u, cu, hu⟩ := (HV.out.below HBE.out (Nat.le_refl _)).at k hkl
            simp only [Value.slice.injEq, true_and] at e
            obtain ⟨rfl, rfl⟩ := e
            have HU := hide hu
            have H1 := hide (fun h1 h2 => (chkF_step (n := n) hkl h1 h2).trans HG.out)
            have H2 := hide (fun h1 => (HG.out.symm.trans (chkF_size (n := n) hkl h1)))
            have H3 := hide (fun h1 h2 => (HG.out.symm.trans (chkF_shape (n := n) hkl h1 h2)))
            generalize rss[k] = rs at *
            obtain ⟨uo, ucap, rfl, -, -⟩ := hu
            by_cases hsz : (rs.length : Int) = n
            · have hb : ((rs.length : Int) != n) = false := by rw [bne_eq_false_iff_eq]; exact hsz
              have hcv : faultV rs = faulty (rs.all Raw.num) := if_neg (by omega)
              have HCK := hide (vecFault_any wr _ rs HU.out (by omega))
              rw [hcv] at HCK
              have HSZ := hide hsz
              clear hcv HU hsz
              go_wp2_with fail
              refine HCK.out.mono ?_
              rintro e w1 ⟨rfl, hb1⟩
              have HB1 := hide (HBE.out.trans (hb1.mono HBE.out.size))
              clear hb1 HCK
              cases hn : rs.all Raw.num
              · have HA := hide (H3.out HSZ.out hn)
                have e : faulty false = 3 := rfl
                rw [e]
                clear H1 H2 H3 e hn
                go_wp2
                go_ret
                exact ⟨by rw [HA.out]; rfl, HB1.out⟩
              · have e : faulty true = 0 := rfl
                rw [e]
                have HG' := hide (H1.out HSZ.out hn)
                clear H1 H2 H3 e hn HG
                go_wp2
                go_roundw
                case rel => exact ⟨k + 1, by omega, by go_num, HG', HB1.out⟩
                case measure => simp [intOf]; omega
            · have hb : ((rs.length : Int) != n) = true := by rw [bne_iff_ne]; exact hsz
              have HA := hide (H2.out hsz)
              clear H1 H2 H3
              go_wp2
              go_ret
              exact ⟨by rw [HA.out]; rfl, HBE.out⟩
          · obtain rfl : k = rss.length := by omega
            have HA : Hid (chkF n rss = 0) := by
              have := HG.out
              rw [List.drop_length] at this
              exact this.symm
            clear HG
            go_wp2
            go_ret
            exact ⟨by rw [HA.out]; rfl, HBE.out⟩

end Go.Proofs.YtofegldopgkikaaGreatDoor

/- The reference: are two numbers, or vectors, the same? -/
namespace Go.Proofs.YtofegldopgkikaaGreatDoor
open Go.RowKit Limbs

theorem numS_same {neg neg' : Bool} {zs zs' : List Int} (h1 : LB zs) (h2 : LB zs') (n1 : Nrm zs) (n2 : Nrm zs') (e1 : zs.length = 0 → neg = false) (e2 : zs'.length = 0 → neg' = false)
    (h : (if neg = true then -lv zs else lv zs) = (if neg' = true then -lv zs' else lv zs')) : neg = neg' ∧ zs = zs' := by
  have p1 := lv_nonneg h1
  have p2 := lv_nonneg h2
  have q1 := lv_zero_iff h1 n1
  have q2 := lv_zero_iff h2 n2
  cases neg <;> cases neg' <;> simp at h
  · exact ⟨rfl, lv_inj h1 h2 n1 n2 h⟩
  · exfalso
    have := e2 (q2.1 (by omega)); simp at this
  · exfalso
    have := e1 (q1.1 (by omega)); simp at this
  · exact ⟨rfl, lv_inj h1 h2 n1 n2 (by omega)⟩

set_option maxRecDepth 100000 in
set_option maxHeartbeats 1600000 in
theorem sameInt_any (w : World) (va vb : Value) (x y : Int) (n m : Nat) (ha : NumL w va x n) (hb : NumL w vb y m) :
    Calls Tryz.prog 37 #[va, vb] w fun e w' => e = .returned (.bool (decide (x = y))) ∧ Below w.heap.size w w' := by
  obtain ⟨an, sa, zs, rfl, hla, nra, ea, hx, -⟩ := ha
  obtain ⟨bn, sb, zs', rfl, hlb, nrb, eb, hy, -⟩ := hb
  have HA := hide hla
  have HB := hide hlb
  obtain ⟨ao, acap, rfl, hacap, halen, halb, -⟩ := hla
  obtain ⟨bo, bcap, rfl, hbcap, hblen, hblb, -⟩ := hlb
  have HD : Hid (decide (x = y) = decide (an = bn ∧ zs = zs')) := by
    show _ = _
    by_cases h : x = y
    · rw [decide_eq_true h, decide_eq_true (numS_same halb hblb nra nrb ea eb (hx.symm.trans (h.trans hy)))]
    · rw [decide_eq_false h, decide_eq_false (fun h' => h (by rw [hx, hy, h'.1, h'.2]))]
  rw [HD.out]
  generalize hr : decide (an = bn ∧ zs = zs') = r
  have HR : Hid (r = decide (an = bn ∧ zs = zs')) := hr.symm
  clear hx hy ea eb nra nrb HD hr
  have hT := two w (.bool an) (.slice ao zs.length acap) (.bool bn) (.slice bo zs'.length bcap) 46 46
  have HT := hide hT
  obtain ⟨_, _, e, -, -, -, hac⟩ := HA.out.below hT.below (Nat.le_refl _)
  simp only [Value.slice.injEq, true_and] at e
  obtain ⟨rfl, rfl⟩ := e
  obtain ⟨_, _, e, -, -, -, hbc⟩ := HB.out.below hT.below (Nat.le_refl _)
  simp only [Value.slice.injEq, true_and] at e
  obtain ⟨rfl, rfl⟩ := e
  have HAC := hide hac
  have HBC := hide hbc
  clear hac hbc HA HB
  by_cases hn : an = bn
  · subst hn
    by_cases hl : zs.length = zs'.length
    · have HL := hide hl
      have hl1 : ((zs.length : Int) == (zs'.length : Int)) = true := by rw [beq_iff_eq]; omega
      have hl2 : ((zs.length : Int) != (zs'.length : Int)) = false := by rw [bne_eq_false_iff_eq]; omega
      clear hl
      go_enter Tryz.func37, Tryz.ntmps37
      go_wp2
      generalize (w.alloc (.cells #[.bool an, .slice ao zs.length acap] 46)).alloc (.cells #[.bool an, .slice bo zs'.length bcap] 46) = W at *
      clear hT
      obtain ⟨k0, k1, -, -⟩ := HT.out.fst
      obtain ⟨l0, l1, -, -⟩ := HT.out.res
      go_loopw [5] (fun i wr => ∃ k nq : Nat, k ≤ zs.length ∧ i = .int .i64 k ∧ wr = W.drewN nq ∧ Hid (zs.take k = zs'.take k)) (fun i _ => zs.length - (intOf i).toNat)
      case atStart => exact ⟨0, 0, Nat.zero_le _, rfl, by simp [World.drewN_zero], by show _ = _; simp⟩
      case round =>
        obtain ⟨k, nq, hk, rfl, rfl, HG⟩ := hrel
        by_cases hlt : k < zs.length
        · obtain ⟨ab, aoff, rfl, -, hac⟩ := HAC.out (by omega)
          have hlt' : k < zs'.length := by have := HL.out; omega
          obtain ⟨bb, boff, rfl, -, hbc⟩ := HBC.out (by omega)
          have hca := hac k hlt
          have hcb := hbc k hlt'
          have HTS := hide (fun e => take_eq_succ hlt hlt' HG.out e)
          have HNE : Hid (zs.getD k 0 ≠ zs'.getD k 0 → r = false) := fun h => HR.out.trans (decide_eq_false fun e => h (by rw [e.2]))
          clear hac hbc HAC HBC
          generalize zs.getD k 0 = z at *
          generalize zs'.getD k 0 = y' at *
          by_cases hzy : z = y'
          · have HG' := hide (HTS.out hzy)
            subst hzy
            clear HTS HNE HG
            go_wp2
            go_quiet (fail)
            go_wp2
            go_roundw
            case rel => exact ⟨k + 1, _, by omega, by go_num, rfl, HG'⟩
            case measure => simp [intOf]; omega
          · obtain rfl : r = false := HNE.out hzy
            have hz1 : (z == y') = false := by rw [beq_eq_false_iff_ne]; exact hzy
            have hz2 : (z != y') = true := by rw [bne_iff_ne]; exact hzy
            clear HTS HNE HG
            go_wp2
            go_quiet (fail)
            go_wp2
            go_ret
            exact ⟨rfl, by first | exact below_drewN HT.out.below _ | exact below_drewN (below_drewN HT.out.below _) _⟩
        · obtain rfl : r = true := by
            obtain rfl : k = zs.length := by omega
            have := HG.out
            rw [List.take_length, List.take_of_length_le (by have := HL.out; omega)] at this
            exact HR.out.trans (decide_eq_true (by first | exact ⟨rfl, this⟩ | exact ⟨trivial, this⟩))
          clear HG
          go_wp2
          go_ret
          exact ⟨rfl, below_drewN HT.out.below _⟩
    · have hl1 : ((zs.length : Int) == (zs'.length : Int)) = false := by rw [beq_eq_false_iff_ne]; omega
      have hl2 : ((zs.length : Int) != (zs'.length : Int)) = true := by rw [bne_iff_ne]; omega
      obtain rfl : r = false := HR.out.trans (decide_eq_false fun e => hl (by rw [e.2]))
      clear hl HAC HBC
      go_enter Tryz.func37, Tryz.ntmps37
      go_wp2
      go_ret
      exact ⟨rfl, HT.out.below⟩
  · have hn1 : (an == bn) = false := by rw [beq_eq_false_iff_ne]; exact hn
    have hn2 : (an != bn) = true := by rw [bne_iff_ne]; exact hn
    obtain rfl : r = false := HR.out.trans (decide_eq_false fun e => hn e.1)
    clear hn HAC HBC
    go_enter Tryz.func37, Tryz.ntmps37
    go_wp2
    go_ret
    exact ⟨rfl, HT.out.below⟩

set_option maxRecDepth 100000 in
set_option maxHeartbeats 1600000 in
theorem sameVec_any (w : World) (va vb : Value) (zs ys : List Int) (n m : Nat) (ha : VecN w va zs n) (hb : VecN w vb ys m) (hzl : zs.length ≤ 100000) (r : Bool) (hr : r = decide (zs = ys)) :
    Calls Tryz.prog 22 #[va, vb] w fun e w' => e = .returned (.bool r) ∧ Below w.heap.size w w' := by
  have HA := hide ha; have HB := hide hb
  have HR := hide hr
  clear hr
  by_cases hl : zs.length = ys.length
  · obtain ⟨ao, acap, rfl, -, -⟩ := ha
    obtain ⟨bo, bcap, rfl, -, -⟩ := hb
    have hl1 : ((zs.length : Int) == (ys.length : Int)) = true := by rw [beq_iff_eq]; omega
    have hl2 : ((zs.length : Int) != (ys.length : Int)) = false := by rw [bne_eq_false_iff_eq]; omega
    have HLN := hide hl
    clear hl
    go_enter Tryz.func22, Tryz.ntmps22
    go_wp2
    go_loopw [5] (fun i wr => ∃ k : Nat, k ≤ zs.length ∧ i = .int .i64 k ∧ Hid (zs.take k = ys.take k) ∧ Below w.heap.size w wr) (fun i _ => zs.length - (intOf i).toNat)
    case atStart => exact ⟨0, Nat.zero_le _, rfl, by show _ = _; simp, Below.refl _ _⟩
    case round =>
      obtain ⟨k, hk, rfl, HG, hbe⟩ := hrel
      have HBE := hide hbe
      clear hbe
      by_cases hkl : k < zs.length
      · have hky : k < ys.length := by have := HLN.out; omega
        obtain ⟨ab, aoff, _, e⟩ := HA.out.form (by omega)
        simp only [Value.slice.injEq, true_and] at e
        obtain ⟨rfl, rfl⟩ := e
        obtain ⟨bb, boff, _, e⟩ := HB.out.form (by omega)
        simp only [Value.slice.injEq, true_and] at e
        obtain ⟨rfl, rfl⟩ := e
        obtain ⟨la, an, ao, al, ac, a0, a1, na⟩ := (HA.out.below HBE.out (Nat.le_refl _)).at k hkl
        obtain ⟨lb, bn, bo, bl, bc, b0, b1, nb⟩ := (HB.out.below HBE.out (Nat.le_refl _)).at k hky
        have NA := hide na; have NB := hide nb
        have HTS := hide (fun e => take_eq_succ hkl hky HG.out e)
        have HNE : Hid (zs.getD k 0 ≠ ys.getD k 0 → r = false) := fun h => by
          rw [HR.out]; exact decide_eq_false fun e => h (by rw [e])
        clear na nb
        generalize zs.getD k 0 = z at *
        generalize ys.getD k 0 = y at *
        go_wp2_with fail
        go_region_held3 (fun w' => w'.cell? ⟨ab, aoff + k * 2, none⟩ = some (.bool an) ∧ w'.cell? ⟨ab, aoff + k * 2 + 1, none⟩ = some (.slice ao al ac) ∧ w'.cell? ⟨bb, boff + k * 2, none⟩ = some (.bool bn) ∧ w'.cell? ⟨bb, boff + k * 2 + 1, none⟩ = some (.slice bo bl bc)) (go_keep)
          (first
            | (go_at_call 37; refine (sameInt_any _ _ _ z y n m (by exact NA.out) (by exact NB.out)).mono ?_; rintro e w1 ⟨rfl, hb1⟩; have HB1 := hide (show Below w.heap.size w w1 from HBE.out.drew.trans (hb1.mono HBE.out.size)); have p0 := (hb1.cell (p := ⟨ab, aoff + k * 2, none⟩) la).trans a0; have p1 := (hb1.cell (p := ⟨ab, aoff + k * 2 + 1, none⟩) la).trans a1; have p2 := (hb1.cell (p := ⟨bb, boff + k * 2, none⟩) lb).trans b0; have p3 := (hb1.cell (p := ⟨bb, boff + k * 2 + 1, none⟩) lb).trans b1; clear hb1))
        by_cases hz : z = y
        · have HG' := hide (HTS.out hz)
          have ez : decide (z = y) = true := decide_eq_true hz
          rw [ez]
          clear HTS HNE hz ez p0 p1 p2 p3 a0 a1 b0 b1
          go_wp2
          go_roundw
          case rel => exact ⟨k + 1, by omega, by go_num, HG', HB1.out⟩
          case measure => simp [intOf]; omega
        · have ez : decide (z = y) = false := decide_eq_false hz
          rw [ez]
          obtain rfl : r = false := HNE.out hz
          clear HTS HNE hz ez p0 p1 p2 p3 a0 a1 b0 b1
          go_wp2
          go_ret
          exact ⟨rfl, HB1.out⟩
      · obtain rfl : k = zs.length := by omega
        have HE : Hid (zs = ys) := by
          have := HG.out
          rw [List.take_length, List.take_of_length_le (by have := HLN.out; omega)] at this
          exact this
        obtain rfl : r = true := by rw [HR.out]; exact decide_eq_true HE.out
        clear HG HE
        go_wp2
        go_ret
        exact ⟨rfl, HBE.out⟩
  · obtain ⟨ao, acap, rfl, -, -⟩ := ha
    obtain ⟨bo, bcap, rfl, -, -⟩ := hb
    have hl1 : ((zs.length : Int) == (ys.length : Int)) = false := by rw [beq_eq_false_iff_ne]; omega
    have hl2 : ((zs.length : Int) != (ys.length : Int)) = true := by rw [bne_iff_ne]; omega
    obtain rfl : r = false := by rw [HR.out]; exact decide_eq_false fun e => hl (by rw [e])
    go_enter Tryz.func22, Tryz.ntmps22
    go_wp2
    go_ret
    exact ⟨rfl, Below.refl _ _⟩

end Go.Proofs.YtofegldopgkikaaGreatDoor
