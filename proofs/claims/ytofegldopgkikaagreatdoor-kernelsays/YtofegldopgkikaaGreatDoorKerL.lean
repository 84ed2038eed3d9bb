/- Numbers and vectors whose limbs are new. -/
import Derived.Test.YtofegldopgkikaaGreatDoorRefH
import Derived.Test.YtofegldopgkikaaGreatDoorVecX
import Derived.Test.YtofegldopgkikaaGreatDoorBeside

namespace Go.Proofs.YtofegldopgkikaaGreatDoor
open Go.RowKit Limbs

/-- A number whose limbs lie there. -/
def SignPost (w : World) (z : Int) (n : Nat) (ao : Option Addr) (cap : Nat) (e : Ending) (w' : World) : Prop := NumPost w z n e w' ∧ ∃ b l, e = .returned (.agg #[.bool b, .slice ao l cap])

set_option maxHeartbeats 400000 in
theorem signed_new (w : World) (neg : Bool) (ao : Option Addr) (cap : Nat) (zs : List Int) (n : Nat) (h : Lim w (.slice ao zs.length cap) zs) (hn : zs.length ≤ n) :
    Calls Tryz.prog 43 #[.bool neg, .slice ao zs.length cap] w fun e w' => SignPost w (if neg = true then - lv zs else lv zs) n ao cap e w' := by
  have HL : Hid (Lim w (.slice ao zs.length cap) zs) := h
  obtain ⟨ao', cap', hv, hcap, hlen, hlb, hc⟩ := h
  simp only [Value.slice.injEq, true_and] at hv
  obtain ⟨rfl, rfl⟩ := hv
  clear hc
  go_enter Tryz.func43, Tryz.ntmps43
  go_wp2_with fail
  refine (trim_any _ _ _ zs (HL.out.below ((Below.refl _ _).alloc (Nat.le_refl _) _) (Nat.le_refl _))).mono ?_
  rintro e w' ⟨m, hm, rfl, hv, hnr, rfl⟩
  have HV : Hid (lv (zs.take m) = lv zs) := hv
  clear hv
  have hl : (zs.take m).length = m := by rw [List.length_take]; omega
  have HL2 := HL.out.take m hm
  cases neg
  · have HF : Hid (NumPost w (lv zs) n (.returned (.agg #[.bool false, .slice ao m cap])) (w.alloc (Obj.cells #[Value.bool false, .slice ao m cap] 46))) :=
      ⟨_, rfl, ⟨false, _, zs.take m, rfl, HL2.below ((Below.refl _ _).alloc (Nat.le_refl _) _) (Nat.le_refl _), hnr, fun _ => rfl, HV.out.symm, by omega⟩, (Below.refl _ _).alloc (Nat.le_refl _) _⟩
    go_wp2
    exact bodyPost_ret (v := .agg #[.bool false, .slice ao m cap]) (by simp [results, Tryz.results43, go_sem]) rfl ⟨HF.out, _, _, rfl⟩
  · by_cases h0 : m = 0
    · subst h0
      have HF : Hid (NumPost w (-lv zs) n (.returned (.agg #[.bool false, .slice ao 0 cap])) (w.alloc (Obj.cells #[Value.bool false, .slice ao 0 cap] 46))) :=
        ⟨_, rfl, ⟨false, _, zs.take 0, rfl, HL2.below ((Below.refl _ _).alloc (Nat.le_refl _) _) (Nat.le_refl _), hnr, fun _ => rfl, by have := HV.out; simp [lv] at this ⊢; omega, by omega⟩, (Below.refl _ _).alloc (Nat.le_refl _) _⟩
      go_wp2
      exact bodyPost_ret (v := .agg #[.bool false, .slice ao 0 cap]) (by simp [results, Tryz.results43, go_sem]) rfl ⟨HF.out, _, _, rfl⟩
    · have HF : Hid (NumPost w (-lv zs) n (.returned (.agg #[.bool true, .slice ao m cap])) (w.alloc (Obj.cells #[Value.bool true, .slice ao m cap] 46))) :=
        ⟨_, rfl, ⟨true, _, zs.take m, rfl, HL2.below ((Below.refl _ _).alloc (Nat.le_refl _) _) (Nat.le_refl _), hnr, fun h => absurd h (by omega), by rw [if_pos rfl, HV.out], by omega⟩, (Below.refl _ _).alloc (Nat.le_refl _) _⟩
      have hd : decide (0 < m) = true := by simp; omega
      go_wp2
      exact bodyPost_ret (v := .agg #[.bool true, .slice ao m cap]) (by simp [results, Tryz.results43, go_sem]) rfl ⟨HF.out, _, _, rfl⟩

set_option maxHeartbeats 800000 in
theorem of_new (w : World) (n : Int) (h0 : -9223372036854775808 ≤ n) (h1 : n ≤ 9223372036854775807) :
    Calls Tryz.prog 28 #[.int .i64 n] w fun e w' => IntPost w n 2 e w' := by
  by_cases hn : n < 0
  · have hw : IntKind.u64.wrap (-IntKind.u64.wrap n) = -n := by rw [IntKind.wrap_u64, IntKind.wrap_u64]; omega
    have hw2 : -n / 4294967296 % 4294967296 = -n / 4294967296 := by omega
    have HN := hide (lv_two (-n))
    go_enter Tryz.func28, Tryz.ntmps28
    go_wp2_with fail
    refine (signed_new _ _ _ _ [-n % 4294967296, -n / 4294967296] 2 (lim_two _ _ _ _ (by omega) (by omega) _ (by simp)) (Nat.le_refl _)).mono ?_
    rintro e w2 ⟨⟨r, rfl, hr, hb2⟩, sb, sl, es⟩
    simp only [Ending.returned.injEq] at es
    subst es
    obtain ⟨c0, c1, f0, f1⟩ := Box.later (B := w.heap.size) ((box_new w _ _ _ _ rfl).later ((Below.refl _ _).alloc (by simp) _ : Below (w.heap.size + 1) _ _) (by omega)) hb2 (by simp; omega)
    rw [HN.out, if_pos rfl, Int.neg_neg] at hr
    have HF := hide (fun rn rs (h : NumL w2 (.agg #[.bool rn, rs]) n 2) => boxed (w := w) h c0 c1 (by simp) (by simp) ((((Below.refl _ _).alloc (Nat.le_refl _) _).alloc (by simp) _).trans (hb2.mono (by simp; omega))) (Nat.le_refl _))
    have HR := hide hr
    clear hb2 hr
    go_wp2
    exact bodyPost_ret (v := _) (by simp [results, Tryz.results28, go_sem, c0, c1]) rfl ⟨HF.out _ _ HR.out, fun neg s e a l c h => by simp only [Ending.returned.injEq, Value.agg.injEq, Array.mk.injEq, List.cons.injEq, and_true] at e; rw [← e.2] at h; simp only [Value.slice.injEq, Option.some.injEq] at h; rw [← h.1]; simp⟩
  · have HN := hide (lv_two n)
    go_enter Tryz.func28, Tryz.ntmps28
    go_wp2_with fail
    refine (signed_new _ _ _ _ [n % 4294967296, n / 4294967296] 2 (lim_two _ _ _ _ (by omega) (by omega) _ (by simp)) (Nat.le_refl _)).mono ?_
    rintro e w2 ⟨⟨r, rfl, hr, hb2⟩, sb, sl, es⟩
    simp only [Ending.returned.injEq] at es
    subst es
    obtain ⟨c0, c1, f0, f1⟩ := Box.later (B := w.heap.size) ((box_new w _ _ _ _ rfl).later ((Below.refl _ _).alloc (by simp) _ : Below (w.heap.size + 1) _ _) (by omega)) hb2 (by simp; omega)
    rw [HN.out, if_neg (by decide)] at hr
    have HF := hide (fun rn rs (h : NumL w2 (.agg #[.bool rn, rs]) n 2) => boxed (w := w) h c0 c1 (by simp) (by simp) ((((Below.refl _ _).alloc (Nat.le_refl _) _).alloc (by simp) _).trans (hb2.mono (by simp; omega))) (Nat.le_refl _))
    have HR := hide hr
    clear hb2 hr
    go_wp2
    exact bodyPost_ret (v := _) (by simp [results, Tryz.results28, go_sem, c0, c1]) rfl ⟨HF.out _ _ HR.out, fun neg s e a l c h => by simp only [Ending.returned.injEq, Value.agg.injEq, Array.mk.injEq, List.cons.injEq, and_true] at e; rw [← e.2] at h; simp only [Value.slice.injEq, Option.some.injEq] at h; rw [← h.1]; simp⟩

/-- Limbs of a vector's first numbers are new. -/
def NewV (w W : World) (P k : Nat) : Prop := ∀ i, i < k → ∀ o l c, W.cell? ⟨P, i * 2 + 1, none⟩ = some (.slice o l c) → NewSl w (.slice o l c)

theorem NewV.set {w W W2 : World} {P k n : Nat} {zs : List Int} (h : NewV w W P k) (hv : VecO w W P zs n) (hk : k < zs.length) (hb : Below W.heap.size W W2) {o : Option Addr} {l c : Nat} (hn : NewSl W (.slice o l c)) (rn : Bool) :
    NewV w ((W2.setCell ⟨P, k * 2, none⟩ (.bool rn)).setCell ⟨P, k * 2 + 1, none⟩ (.slice o l c)) P (k + 1) := fun i hi o' l' c' e => by
  by_cases e1 : i = k
  · subst e1
    obtain ⟨neg0, o0, l0, c0, k0, k1, -⟩ := (hv.later hb).at i hk
    have k1' : (W2.setCell ⟨P, i * 2, none⟩ (.bool rn)).cell? ⟨P, i * 2 + 1, none⟩ = some (.slice o0 l0 c0) := (World.cell?_setCell_other (h := fun e => by simp at e) ..).trans k1
    rw [World.cell?_setCell_same (h := k1')] at e
    simp only [Option.some.injEq] at e
    rw [← e]
    intro a l2 c2 h2
    exact Nat.le_trans hv.below.size (hn a l2 c2 h2)
  · have e2 : ((W2.setCell ⟨P, k * 2, none⟩ (.bool rn)).setCell ⟨P, k * 2 + 1, none⟩ (.slice o l c)).cell? ⟨P, i * 2 + 1, none⟩ = W2.cell? ⟨P, i * 2 + 1, none⟩ :=
      (World.cell?_setCell_other (h := fun e => by simp at e <;> omega) ..).trans (World.cell?_setCell_other (h := fun e => by simp at e <;> omega) ..)
    rw [e2, hb.cell (p := ⟨P, i * 2 + 1, none⟩) hv.lt] at e
    exact h i (by omega) o' l' c' e

set_option maxRecDepth 100000 in
set_option maxHeartbeats 1600000 in
theorem ofV_new (w : World) (v : Value) (ks : List Int) (hv : RowS w v ks) (h8 : ks.length ≤ 1000) :
    Calls Tryz.prog 14 #[v] w fun e w' => ∃ P, e = .returned (.slice (some ⟨P, 0, none⟩) ks.length ks.length) ∧ VecO w w' P ks 2 ∧ NewV w w' P ks.length := by
  have HV := hide hv
  obtain ⟨ao, cap, rfl, -, hk64, -⟩ := hv
  have HK := hide hk64
  have hmk := run_mkV ks.length (by omega)
  have HI := hide (VecO.made w w (Below.refl _ _) ks.length 2)
  clear hk64
  go_enter Tryz.func14, Tryz.ntmps14
  go_wp2
  clear hmk
  go_loopw [10] (fun i wr => ∃ k : Nat, k ≤ ks.length ∧ i = .int .i64 k ∧ VecO w wr w.heap.size (ks.take k ++ List.replicate (ks.length - k) 0) 2 ∧ Hid (NewV w wr w.heap.size k)) (fun i _ => ks.length - (intOf i).toNat)
  case atStart => exact ⟨0, Nat.zero_le _, rfl, HI.out, hide fun i hi => absurd hi (Nat.not_lt_zero i)⟩
  case round =>
    clear HI
    obtain ⟨k, hk, rfl, hinv, HNV⟩ := hrel
    have HI := hide hinv
    clear hinv
    by_cases hkl : k < ks.length
    · obtain ⟨_, _, e, -, -, hc⟩ := HV.out.below HI.out.below (Nat.le_refl _)
      simp only [Value.slice.injEq, true_and] at e
      obtain ⟨rfl, rfl⟩ := e
      obtain ⟨b, off, rfl, -, hc⟩ := hc (by omega)
      have c0 := hc k hkl
      have HFS := hide (fill_step ks k hkl)
      have hfl := fill_len ks k hk
      have hkl' : k < (ks.take k ++ List.replicate (ks.length - k) 0).length := by omega
      have H64 := hide (HK.out k)
      clear hc
      generalize ks.getD k 0 = z at *
      go_wp2_with fail
      refine (of_new wr z H64.out.1 H64.out.2).mono ?_
      rintro e w2 ⟨⟨r, rfl, hr, hb⟩, hnew⟩
      obtain ⟨⟨rn, ro, rl, rc⟩, rfl⟩ := hr.nm
      have HN2 := hide (HNV.out.set HI.out hkl' hb (hnew _ _ rfl) rn)
      have HI2 := hide (HI.out.later hb)
      obtain ⟨neg0, o0, l0, c0', k0, k1, -⟩ := HI2.out.at k (by omega)
      have f0 := HI2.out.thaw (k * 2)
      have f1 := HI2.out.thaw (k * 2 + 1)
      have hP := HI2.out.lt
      have HN := hide (HI2.out.set (k := k) (by omega) hr)
      rw [HFS.out] at HN
      clear hb hr hnew HNV HI HI2 HFS H64 c0
      go_wp2
      go_roundw
      case rel => exact ⟨k + 1, by omega, by go_num, HN.out, HN2⟩
      case measure => simp [intOf]; omega
    · obtain rfl : k = ks.length := by omega
      have HF := hide HI.out.full
      clear HI
      go_wp2
      go_ret
      exact ⟨_, rfl, HF.out, HNV.out⟩

end Go.Proofs.YtofegldopgkikaaGreatDoor

/- Of rows in the one form those that are nought in the first half. -/
namespace Go.Proofs.YtofegldopgkikaaGreatDoor
open Go.RowKit Limbs

/-- Those behind, without the first half. -/
def behindL (n : Nat) (ts : List (List Int)) : List (List Int) := (ts.filter fun r => decide ((n : Int) ≤ first r)).map (·.drop n)

theorem pivot_cut (n : Nat) (p : Nat → Nat) (r : Nat) (inc : ∀ i k, i < k → k < r → p i < p k) : ∀ m, m ≤ r → ∃ c, c ≤ m ∧ (∀ k, k < c → p k < n) ∧ ∀ k, c ≤ k → k < m → n ≤ p k
  | 0, _ => ⟨0, Nat.le_refl _, fun k hk => absurd hk (by omega), fun k _ hk => absurd hk (by omega)⟩
  | m + 1, hm => by
    obtain ⟨c, hc, h1, h2⟩ := pivot_cut n p r inc m (by omega)
    by_cases h : p m < n
    · refine ⟨m + 1, Nat.le_refl _, fun k hk => ?_, fun k h1 h2 => absurd h1 (by omega)⟩
      by_cases hkm : k = m
      · rw [hkm]; exact h
      · exact Nat.lt_trans (inc k m (by omega) (by omega)) h
    · refine ⟨c, by omega, h1, fun k hk hkm => ?_⟩
      by_cases e : k = m
      · rw [e]; omega
      · exact h2 k hk (by omega)

theorem getD_drop' (r : List Int) (n j : Nat) : (r.drop n).getD j 0 = r.getD (n + j) 0 := by
  rw [List.getD_eq_getElem?_getD, List.getElem?_drop, List.getD_eq_getElem?_getD]

theorem filter_cut {n m : Nat} {ts : List (List Int)} {p : Nat → Nat} (F : FormL m ts p) : ∃ c, c ≤ ts.length ∧ (∀ k, k < c → p k < n) ∧ (∀ k, c ≤ k → k < ts.length → n ≤ p k) ∧ (ts.filter fun r => decide ((n : Int) ≤ first r)) = ts.drop c := by
  obtain ⟨c, hc, h1, h2⟩ := pivot_cut n p ts.length F.form.inc ts.length (Nat.le_refl _)
  refine ⟨c, hc, h1, h2, ?_⟩
  have e : ts = ts.take c ++ ts.drop c := (List.take_append_drop c ts).symm
  conv => lhs; rw [e]
  rw [List.filter_append]
  have e1 : ((ts.take c).filter fun r => decide ((n : Int) ≤ first r)) = [] := by
    rw [List.filter_eq_nil_iff]
    intro r hr
    obtain ⟨k, hk, e⟩ := List.getElem_of_mem hr
    rw [List.length_take] at hk
    rw [List.getElem_take] at e
    have hf := (F.first (show k < ts.length by omega)).1
    have := h1 k (by omega)
    rw [← e, hf]
    simp only [decide_eq_true_eq]
    omega
  have e2 : ((ts.drop c).filter fun r => decide ((n : Int) ≤ first r)) = ts.drop c := by
    rw [List.filter_eq_self]
    intro r hr
    obtain ⟨k, hk, e⟩ := List.getElem_of_mem hr
    rw [List.length_drop] at hk
    rw [List.getElem_drop] at e
    have hf := (F.first (show c + k < ts.length by omega)).1
    have := h2 (c + k) (by omega) (by omega)
    rw [← e, hf]
    simp only [decide_eq_true_eq]
    omega
  rw [e1, e2, List.nil_append]

theorem behind_get {n c : Nat} {ts : List (List Int)} (k j : Nat) (hk : c + k < ts.length) : (((ts.drop c).map (·.drop n)).getD k []).getD j 0 = (ts.getD (c + k) []).getD (n + j) 0 := by
  have hl : k < ((ts.drop c).map (·.drop n)).length := by rw [List.length_map, List.length_drop]; omega
  rw [getD_row hl, List.getElem_map, List.getElem_drop, getD_drop', getD_row hk]

/-- They are in the one form, too. -/
theorem behind_form {f n : Nat} {ts : List (List Int)} {p : Nat → Nat} (F : FormL (f + n) ts p) : ∃ q, FormL n (behindL f ts) q := by
  obtain ⟨c, hc, -, h2, e⟩ := filter_cut (n := f) F
  refine ⟨fun k => p (c + k) - f, ?_⟩
  unfold behindL
  rw [e]
  have hl : ((ts.drop c).map (·.drop f)).length = ts.length - c := by rw [List.length_map, List.length_drop]
  refine ⟨fun r hr => ?_, ?_⟩
  · obtain ⟨s, hs, rfl⟩ := List.mem_map.1 hr
    rw [List.length_drop, F.len s (List.mem_of_mem_drop hs)]
    omega
  · rw [hl]
    refine ⟨fun i k hik hk => ?_, fun i hi => ?_, fun i b hi hb => ?_, fun i hi => ?_, fun i k hik hk => ?_⟩
    · have := F.form.inc (c + i) (c + k) (by omega) (by omega)
      have := h2 (c + i) (by omega) (by omega)
      omega
    · have := F.form.lt (c + i) (by omega)
      have := h2 (c + i) (by omega) (by omega)
      omega
    · rw [behind_get i b (by omega)]
      exact F.form.zero (c + i) (f + b) (by omega) (by omega)
    · have h3 := h2 (c + i) (by omega) (by omega)
      rw [behind_get i _ (by omega), show f + (p (c + i) - f) = p (c + i) by omega]
      exact F.form.pos (c + i) (by omega)
    · have h3 := h2 (c + k) (by omega) (by omega)
      rw [behind_get i _ (by omega), behind_get k _ (by omega), show f + (p (c + k) - f) = p (c + k) by omega]
      exact F.form.red (c + i) (c + k) (by omega) (by omega)

/-- What they generate stands behind noughts. -/
theorem behind_gens {f n : Nat} {ts : List (List Int)} {p : Nat → Nat} (F : FormL (f + n) ts p) {v : List Int} (hv : v.length = n) : Gens n (InL (behindL f ts)) v ↔ Gens (f + n) (InL ts) (List.replicate f 0 ++ v) := by
  obtain ⟨c, hc, h1, h2, e⟩ := filter_cut (n := f) F
  unfold behindL
  rw [e]
  constructor
  · intro h
    clear hv
    induction h with
    | base hv hl =>
      obtain ⟨s, hs, rfl⟩ := List.mem_map.1 hv
      have hst := List.mem_of_mem_drop hs
      have hsl := F.len s hst
      obtain ⟨k, hk, es⟩ := List.getElem_of_mem hs
      rw [List.length_drop] at hk
      rw [List.getElem_drop] at es
      have es' : List.replicate f 0 ++ s.drop f = s := by
        apply list_ext (by rw [List.length_append, List.length_replicate, List.length_drop, hsl]; omega)
        intro j hj
        rw [List.length_append, List.length_replicate, List.length_drop, hsl] at hj
        by_cases hjn : j < f
        · rw [getD_left _ _ _ (by simpa using hjn), getD_zeros]
          have := F.form.zero (c + k) j (by omega) (by have := h2 (c + k) (by omega) (by omega); omega)
          rw [getD_row (by omega), es] at this
          exact this.symm
        · have hr := getD_right (List.replicate f 0) (s.drop f) (j - f)
          rw [List.length_replicate, show f + (j - f) = j by omega, getD_drop', show f + (j - f) = j by omega] at hr
          exact hr
      rw [es']
      exact .base hst hsl
    | zero =>
      rw [List.replicate_append_replicate]
      exact .zero
    | comb x y hu hv g1 g2 =>
      have := Gens.comb x y g1 g2
      rw [comb_app x y _ _ _ _ rfl, comb_zeros] at this
      exact this
  · intro h
    obtain ⟨d, hd⟩ := lat_inL h
    have hz : ∀ k, k < c → d k = 0 := by
      intro k
      induction k using Nat.strongRecOn with
      | _ k ih =>
        intro hk
        have hp := h1 k hk
        have ha := F.form.at_pivot d k (by omega) (fun j hj => ih j hj (by omega))
        have hb : (List.replicate f 0 ++ v).getD (p k) 0 = sumN ts.length (fun j => d j * (ts.getD j []).getD (p k) 0) := hd (p k) (by omega)
        rw [getD_left _ _ _ (by simpa using hp), getD_zeros] at hb
        have hpos := F.form.pos k (by omega)
        have h0 : d k * (ts.getD k []).getD (p k) 0 = 0 := ha.symm.trans hb.symm
        rcases Int.mul_eq_zero.1 h0 with h | h
        · exact h
        · omega
    apply gens_of_lat (fun r hr => ?_) hv
    · refine ⟨fun k => d (c + k), fun b hb => ?_⟩
      have hb' : (List.replicate f 0 ++ v).getD (f + b) 0 = sumN ts.length (fun j => d j * (ts.getD j []).getD (f + b) 0) := hd (f + b) (by omega)
      show v.getD b 0 = sumN ((ts.drop c).map (·.drop f)).length (fun k => d (c + k) * (((ts.drop c).map (·.drop f)).getD k []).getD b 0)
      have hr := getD_right (List.replicate f 0) v b
      rw [List.length_replicate] at hr
      rw [hr] at hb'
      rw [hb']
      have hl : ((ts.drop c).map (·.drop f)).length = ts.length - c := by rw [List.length_map, List.length_drop]
      rw [hl]
      have hs : ∀ m, c + m ≤ ts.length → sumN (c + m) (fun k => d k * (ts.getD k []).getD (f + b) 0) = sumN m (fun k => d (c + k) * (((ts.drop c).map (·.drop f)).getD k []).getD b 0) := by
        intro m
        induction m with
        | zero =>
          intro _
          refine (sumN_congr (g := fun _ => 0) fun k hk => ?_).trans (sumN_zero _)
          rw [hz k hk, Int.zero_mul]
        | succ m ih =>
          intro hm
          have e1 : sumN (c + (m + 1)) (fun k => d k * (ts.getD k []).getD (f + b) 0) = sumN (c + m) (fun k => d k * (ts.getD k []).getD (f + b) 0) + d (c + m) * (ts.getD (c + m) []).getD (f + b) 0 := rfl
          have e2 : sumN (m + 1) (fun k => d (c + k) * (((ts.drop c).map (·.drop f)).getD k []).getD b 0) = sumN m (fun k => d (c + k) * (((ts.drop c).map (·.drop f)).getD k []).getD b 0) + d (c + m) * (((ts.drop c).map (·.drop f)).getD m []).getD b 0 := rfl
          rw [e1, e2, ih (by omega), behind_get m b (by omega)]
      have := hs (ts.length - c) (by omega)
      rw [show c + (ts.length - c) = ts.length by omega] at this
      exact this
    · obtain ⟨s, hs, rfl⟩ := List.mem_map.1 hr
      rw [List.length_drop, F.len s (List.mem_of_mem_drop hs)]
      omega

end Go.Proofs.YtofegldopgkikaaGreatDoor

/- What rows make nought of, by rows with units behind them. No Go in it. -/
namespace Go.Proofs.YtofegldopgkikaaGreatDoor
open Go.RowKit Limbs

/-- What a row makes of a vector. -/
def dotL (n : Nat) (r v : List Int) : Int := sumN n (fun b => r.getD b 0 * v.getD b 0)

/-- A unit. -/
def unitL (n j : Nat) : List Int := (List.range n).map fun b => if b = j then 1 else 0

theorem unitL_len (n j : Nat) : (unitL n j).length = n := by simp [unitL]

theorem unitL_get (n j b : Nat) (hb : b < n) : (unitL n j).getD b 0 = if b = j then 1 else 0 := range_getD n _ b hb

/-- Of each place a row: what the rows make of its unit, and behind that the unit. -/
def tracedL (ms : List (List Int)) (n : Nat) : List (List Int) := (List.range n).map fun j => (ms.map fun r => r.getD j 0) ++ unitL n j

theorem tracedL_length (ms : List (List Int)) (n : Nat) : (tracedL ms n).length = n := by simp [tracedL]

theorem tracedL_len (ms : List (List Int)) (n : Nat) : ∀ r ∈ tracedL ms n, r.length = ms.length + n := by
  intro r hr
  obtain ⟨j, -, rfl⟩ := List.mem_map.1 hr
  rw [List.length_append, List.length_map, unitL_len]

theorem tracedL_get (ms : List (List Int)) (n j : Nat) (hj : j < n) : (tracedL ms n).getD j [] = (ms.map fun r => r.getD j 0) ++ unitL n j := by
  rw [getD_row (by rw [tracedL_length]; exact hj)]
  simp [tracedL]

theorem map_getD0 (ms : List (List Int)) (g : List Int → Int) (i : Nat) (hi : i < ms.length) : (ms.map g).getD i 0 = g (ms.getD i []) := by
  rw [getD_row hi, List.getD_eq_getElem?_getD, List.getElem?_eq_getElem (by rw [List.length_map]; exact hi), Option.getD_some, List.getElem_map]

theorem dot_unit (n j : Nat) (hj : j < n) (r : List Int) : dotL n r (unitL n j) = r.getD j 0 := by
  unfold dotL
  refine (sumN_congr (g := fun b => r.getD b 0 * unitR j b) fun b hb => ?_).trans (sum_unit' n j hj r)
  rw [unitL_get n j b hb]; rfl
where
  sum_unit' (n j : Nat) (hj : j < n) (r : List Int) : sumN n (fun b => r.getD b 0 * unitR j b) = r.getD j 0 := by
    have := sumN_single n j hj (fun b => r.getD b 0 * unitR j b) (fun i _ hij => by show _ * (if i = j then (1 : Int) else 0) = 0; rw [if_neg hij, Int.mul_zero])
    rw [this]
    show _ * (if j = j then (1 : Int) else 0) = _
    rw [if_pos rfl, Int.mul_one]

theorem dot_zero (n m : Nat) (r : List Int) : dotL n r (List.replicate m 0) = 0 := by
  unfold dotL
  refine (sumN_congr (g := fun _ => 0) fun b _ => ?_).trans (sumN_zero _)
  rw [getD_zeros, Int.mul_zero]

theorem dot_zero_left (n m : Nat) (v : List Int) : dotL n (List.replicate m 0) v = 0 := by
  unfold dotL
  refine (sumN_congr (g := fun _ => 0) fun b _ => ?_).trans (sumN_zero _)
  rw [getD_zeros, Int.zero_mul]

theorem dot_comb (n : Nat) (r u v : List Int) (x y : Int) (hu : u.length = n) (hv : v.length = n) : dotL n r (List.zipWith (fun a b => x * a + y * b) u v) = x * dotL n r u + y * dotL n r v := by
  unfold dotL
  rw [← sumN_mul, ← sumN_mul, ← sumN_add]
  refine sumN_congr fun b hb => ?_
  rw [zip_getD _ _ _ (by omega) b (by omega), Int.mul_add, ← Int.mul_assoc, ← Int.mul_assoc, ← Int.mul_assoc, ← Int.mul_assoc, Int.mul_comm _ x, Int.mul_comm _ y]

theorem dot_comb_left (n : Nat) (r u v : List Int) (x y : Int) (hu : u.length = n) (hv : v.length = n) : dotL n (List.zipWith (fun a b => x * a + y * b) u v) r = x * dotL n u r + y * dotL n v r := by
  unfold dotL
  rw [← sumN_mul, ← sumN_mul, ← sumN_add]
  refine sumN_congr fun b hb => ?_
  rw [zip_getD _ _ _ (by omega) b (by omega), Int.add_mul, Int.mul_assoc, Int.mul_assoc]

/-- What they generate is what the rows make of any vector, and it behind that. -/
theorem traced_gens (ms : List (List Int)) (n : Nat) (z : List Int) : Gens (ms.length + n) (InL (tracedL ms n)) z ↔ ∃ v, v.length = n ∧ z = (ms.map fun r => dotL n r v) ++ v := by
  constructor
  · intro h
    induction h with
    | base hv hl =>
      obtain ⟨j, hj, rfl⟩ := List.mem_map.1 hv
      rw [List.mem_range] at hj
      refine ⟨unitL n j, unitL_len n j, ?_⟩
      congr 1
      exact List.map_congr_left fun r _ => (dot_unit n j hj r).symm
    | zero =>
      refine ⟨List.replicate n 0, by simp, ?_⟩
      rw [← List.replicate_append_replicate]
      congr 1
      rw [List.map_congr_left (g := fun _ => (0 : Int)) fun r _ => dot_zero n n r, List.map_const']
    | comb x y _ _ h1 h2 =>
      obtain ⟨u, hu, rfl⟩ := h1
      obtain ⟨v, hv, rfl⟩ := h2
      refine ⟨List.zipWith (fun a b => x * a + y * b) u v, by rw [zip_len _ _ _ (by omega)]; omega, ?_⟩
      rw [comb_app x y _ _ _ _ (by rw [List.length_map, List.length_map])]
      congr 1
      apply list_ext (by rw [zip_len _ _ _ (by rw [List.length_map, List.length_map]), List.length_map, List.length_map])
      intro i hi
      rw [zip_len _ _ _ (by rw [List.length_map, List.length_map]), List.length_map] at hi
      rw [zip_getD _ _ _ (by rw [List.length_map, List.length_map]) i (by rw [List.length_map]; exact hi), map_getD0 _ _ _ hi, map_getD0 _ _ _ hi, map_getD0 _ _ _ hi, dot_comb n _ u v x y hu hv]
  · rintro ⟨v, hv, rfl⟩
    refine gens_of_lat (tracedL_len ms n) (by rw [List.length_append, List.length_map, hv]) ⟨fun k => v.getD k 0, fun b hb => ?_⟩
    rw [tracedL_length]
    dsimp only
    by_cases hbm : b < ms.length
    · rw [getD_left _ _ _ (by rw [List.length_map]; exact hbm), map_getD0 _ _ _ hbm]
      unfold dotL
      refine sumN_congr fun k hk => ?_
      rw [tracedL_get _ _ _ hk, getD_left _ _ _ (by rw [List.length_map]; exact hbm), map_getD0 _ _ _ hbm, Int.mul_comm]
    · have e : b = ms.length + (b - ms.length) := by omega
      have g1 := getD_right (ms.map fun r => dotL n r v) v (b - ms.length)
      rw [List.length_map, ← e] at g1
      rw [g1]
      refine ((sumN_congr (g := fun k => v.getD k 0 * unitR k (b - ms.length)) fun k hk => ?_).trans (sum_unit n (fun k => v.getD k 0) (b - ms.length) (by omega))).symm
      have g2 := getD_right (ms.map fun r => r.getD k 0) (unitL n k) (b - ms.length)
      rw [List.length_map, ← e] at g2
      rw [tracedL_get _ _ _ hk, g2, unitL_get n k _ (by omega)]
      rfl

/-- The vectors that all rows make nought of. -/
theorem kernel_gens {ms ts : List (List Int)} {n : Nat} {p : Nat → Nat} (F : FormL (ms.length + n) ts p) (a : Alikes (ms.length + n) (InL ts) (InL (tracedL ms n))) {v : List Int} (hv : v.length = n) :
    Gens n (InL (behindL ms.length ts)) v ↔ ∀ r ∈ ms, dotL n r v = 0 := by
  rw [behind_gens F hv, a, traced_gens]
  constructor
  · rintro ⟨u, hu, e⟩
    have h := List.append_inj' e (by omega)
    obtain ⟨h1, rfl⟩ := h
    intro r hr
    have : dotL n r v ∈ ms.map fun r => dotL n r v := List.mem_map.2 ⟨r, hr, rfl⟩
    rw [← h1] at this
    exact List.eq_of_mem_replicate this
  · intro h
    refine ⟨v, hv, ?_⟩
    congr 1
    rw [List.map_congr_left (g := fun _ => (0 : Int)) fun r hr => h r hr, List.map_const']

theorem dot_gens {ms : List (List Int)} {n : Nat} {v : List Int} (h : ∀ r ∈ ms, dotL n r v = 0) {u : List Int} (hu : Gens n (InL ms) u) : dotL n u v = 0 := by
  induction hu with
  | base hr _ => exact h _ hr
  | zero => exact dot_zero_left n n v
  | comb x y g1 g2 h1 h2 => rw [dot_comb_left n v _ _ x y g1.len g2.len, h1, h2, Int.mul_zero, Int.mul_zero]; rfl

/-- Of rows that generate the same it is the same. -/
theorem kernel_one {ms hs ts us : List (List Int)} {n : Nat} {p q : Nat → Nat} (hm : ∀ r ∈ ms, r.length = n) (hh : ∀ r ∈ hs, r.length = n) (ha : Alikes n (InL hs) (InL ms))
    (F : FormL (ms.length + n) ts p) (a : Alikes (ms.length + n) (InL ts) (InL (tracedL ms n))) (G : FormL (hs.length + n) us q) (b : Alikes (hs.length + n) (InL us) (InL (tracedL hs n))) :
    behindL ms.length ts = behindL hs.length us := by
  obtain ⟨p', F'⟩ := behind_form F
  obtain ⟨q', G'⟩ := behind_form G
  refine formL_one F' G' fun v => ⟨fun h => ?_, fun h => ?_⟩
  · have h1 := (kernel_gens F a h.len).1 h
    exact (kernel_gens G b h.len).2 fun r hr => dot_gens h1 ((ha r).1 (.base hr (hh r hr)))
  · have h1 := (kernel_gens G b h.len).1 h
    exact (kernel_gens F a h.len).2 fun r hr => dot_gens h1 ((ha r).2 (.base hr (hm r hr)))

end Go.Proofs.YtofegldopgkikaaGreatDoor
