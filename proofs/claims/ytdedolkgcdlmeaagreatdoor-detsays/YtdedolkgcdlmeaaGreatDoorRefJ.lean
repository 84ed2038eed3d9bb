/- The reference: are two the same? -/
import Derived.Test.YtdedolkgcdlmeaaGreatDoorRaws

namespace Go.Proofs.YtdedolkgcdlmeaaGreatDoor
open Go.RowKit Limbs Digs

theorem numL_same {neg neg' : Bool} {zs zs' : List Int} (h1 : LB zs) (h2 : LB zs') (n1 : Nrm zs) (n2 : Nrm zs') (e1 : zs.length = 0 → neg = false) (e2 : zs'.length = 0 → neg' = false)
    (h : (if neg = true then -lv zs else lv zs) = (if neg' = true then -lv zs' else lv zs')) : neg = neg' ∧ zs = zs' := by
  have p1 := lv_nonneg h1
  have p2 := lv_nonneg h2
  have q1 := lv_zero_iff h1 n1
  have q2 := lv_zero_iff h2 n2
  cases neg <;> cases neg' <;> simp at h
  · exact ⟨rfl, lv_inj h1 h2 n1 n2 h⟩
  · exfalso
    have := e2 (q2.1 (by omega)); simp at this
  · exfalso
    have := e1 (q1.1 (by omega)); simp at this
  · exact ⟨rfl, lv_inj h1 h2 n1 n2 (by omega)⟩

set_option maxRecDepth 100000 in
set_option maxHeartbeats 1600000 in
theorem sameInt_true (w : World) (va vb : Value) (x : Int) (n m : Nat) (ha : NumL w va x n) (hb : NumL w vb x m) :
    Calls Tryz.prog 15 #[va, vb] w fun e w' => e = .returned (.bool true) ∧ Below w.heap.size w w' := by
  obtain ⟨an, sa, zs, rfl, hla, nra, ea, hx, -⟩ := ha
  obtain ⟨bn, sb, zs', rfl, hlb, nrb, eb, hy, -⟩ := hb
  have HA := hide hla
  have HB := hide hlb
  obtain ⟨ao, acap, rfl, hacap, halen, halb, -⟩ := hla
  obtain ⟨bo, bcap, rfl, hbcap, hblen, hblb, -⟩ := hlb
  obtain ⟨rfl, rfl⟩ := numL_same halb hblb nra nrb ea eb (hx.symm.trans hy)
  clear hx hy ea eb nra nrb
  have hT := two w (.bool an) (.slice ao zs.length acap) (.bool an) (.slice bo zs.length bcap) 29 29
  have HT := hide hT
  obtain ⟨_, _, e, -, -, -, hac⟩ := HA.out.below hT.below (Nat.le_refl _)
  simp only [Value.slice.injEq, true_and] at e
  obtain ⟨rfl, rfl⟩ := e
  obtain ⟨_, _, e, -, -, -, hbc⟩ := HB.out.below hT.below (Nat.le_refl _)
  simp only [Value.slice.injEq, true_and] at e
  obtain ⟨rfl, rfl⟩ := e
  have HAC := hide hac
  have HBC := hide hbc
  clear hac hbc HA HB
  go_enter Tryz.func15, Tryz.ntmps15
  go_wp2
  generalize (w.alloc (.cells #[.bool an, .slice ao zs.length acap] 29)).alloc (.cells #[.bool an, .slice bo zs.length bcap] 29) = W at *
  clear hT
  obtain ⟨k0, k1, -, -⟩ := HT.out.fst
  obtain ⟨l0, l1, -, -⟩ := HT.out.res
  go_loopw [5] (fun i wr => ∃ k nq : Nat, k ≤ zs.length ∧ i = .int .i64 k ∧ wr = W.drewN nq) (fun i _ => zs.length - (intOf i).toNat)
  case atStart => exact ⟨0, 0, Nat.zero_le _, rfl, by simp [World.drewN_zero]⟩
  case round =>
    obtain ⟨k, nq, hk, rfl, rfl⟩ := hrel
    by_cases hlt : k < zs.length
    · obtain ⟨ab, aoff, rfl, -, hac⟩ := HAC.out (by omega)
      obtain ⟨bb, boff, rfl, -, hbc⟩ := HBC.out (by omega)
      have hca := hac k hlt
      have hcb := hbc k hlt
      clear hac hbc HAC HBC
      generalize zs.getD k 0 = z at *
      go_wp2
      go_quiet (fail)
      go_wp2
      go_roundw
      case rel => exact ⟨k + 1, _, by omega, by go_num, rfl⟩
      case measure => simp [intOf]; omega
    · go_wp2
      go_ret
      exact ⟨rfl, below_drewN HT.out.below _⟩

end Go.Proofs.YtdedolkgcdlmeaaGreatDoor

/- The reference: two numbers are compared; one less another; what is wrong with a number. -/
namespace Go.Proofs.YtdedolkgcdlmeaaGreatDoor
open Go.RowKit Limbs Digs

theorem sign_of {s : Int} {sl : Value} {ds : List Int} (hd : DB ds) (hn : Nrm ds) (h : (ds.length = 0 ∧ s = 0 ∧ sl = .slice none 0 0) ∨ (0 < ds.length ∧ (s = 1 ∨ s = -1))) : (dv ds = 0 ∧ s = 0) ∨ (0 < dv ds ∧ (s = 1 ∨ s = -1)) := by
  rcases h with ⟨h1, h2, -⟩ | ⟨h1, h2⟩
  · exact .inl ⟨(dv_zero_iff hd hn).2 h1, h2⟩
  · exact .inr ⟨dv_pos hd hn (by omega), h2⟩

/-- what is wrong with a number, by the reference -/
def faulty (b : Bool) : Int := if b = true then 0 else 3

set_option maxRecDepth 100000 in
set_option maxHeartbeats 1600000 in
theorem intFault_any (w : World) (neg : Bool) (s : Value) (zs : List Int) (hl : Lim w s zs) :
    Calls Tryz.prog 87 #[.agg #[.bool neg, s]] w fun e w' => e = .returned (.int .i64 (faulty (isNum neg zs))) ∧ Below w.heap.size w w' := by
  obtain ⟨ao, acap, rfl, -, hlen, hlb, hc⟩ := hl
  by_cases h0 : zs.length = 0
  · have hb : ((zs.length : Int) == 0) = true := by simp [h0]
    have hg : ¬ (0 < zs.length) := by omega
    have e : isNum neg zs = !neg := by unfold isNum; rw [if_pos h0]
    rw [e]
    clear hc h0 e
    cases neg
    · go_enter Tryz.func87, Tryz.ntmps87
      go_wp2
      go_ret
      exact ⟨rfl, (Below.refl _ _).alloc (Nat.le_refl _) _⟩
    · go_enter Tryz.func87, Tryz.ntmps87
      go_wp2
      go_ret
      exact ⟨rfl, (Below.refl _ _).alloc (Nat.le_refl _) _⟩
  · have hb : ((zs.length : Int) == 0) = false := by rw [beq_eq_false_iff_ne]; omega
    have hg : 0 < zs.length := by omega
    obtain ⟨b, off, rfl, hbb, hc⟩ := hc (by omega)
    have hcc := hc (zs.length - 1) (by omega)
    have hi : (zs.length : Int) - 1 = ((zs.length - 1 : Nat) : Int) := by omega
    obtain ⟨k, hk⟩ : ∃ k, k = zs.length - 1 := ⟨_, rfl⟩
    have hkl : k < zs.length := by omega
    rw [← hk] at hi hcc
    have e : isNum neg zs = (zs.getD k 0 != 0) := by unfold isNum; rw [if_neg h0, hk]
    rw [e]
    have hz := hlb k
    clear hc hk e
    generalize zs.getD k 0 = z at *
    have hcc2 : ∀ o, (w.alloc o).cell? ⟨b, off + k, none⟩ = some (.int .u32 z) := fun o => ((((Below.refl w.heap.size w).alloc (Nat.le_refl _) o).cell (p := ⟨b, off + k, none⟩) hbb)).trans hcc
    by_cases hz0 : z = 0
    · subst hz0
      go_enter Tryz.func87, Tryz.ntmps87
      go_wp2
      go_ret
      exact ⟨rfl, (Below.refl _ _).alloc (Nat.le_refl _) _⟩
    · have hz1 : (z == 0) = false := by simp [hz0]
      have hz2 : (z != 0) = true := by simp [hz0]
      rw [hz2]
      go_enter Tryz.func87, Tryz.ntmps87
      go_wp2
      go_ret
      exact ⟨rfl, (Below.refl _ _).alloc (Nat.le_refl _) _⟩

end Go.Proofs.YtdedolkgcdlmeaaGreatDoor

/- The reference: a number of limbs, in its digits. -/
namespace Go.Proofs.YtdedolkgcdlmeaaGreatDoor
open Go.RowKit Limbs Digs

theorem dgetD_set (zs : List Int) (k j : Nat) (z : Int) (h : k < zs.length) : (zs.set k z).getD j 0 = if j = k then z else zs.getD j 0 := by
  rw [List.getD_eq_getElem?_getD, List.getElem?_set]
  by_cases hk : k = j
  · subst hk; simp [h]
  · rw [if_neg hk, if_neg (fun e => hk e.symm), List.getD_eq_getElem?_getD]

/-- Two to the 32nd times the digits: so many are done. -/
def UInv (w wr : World) (base : Nat) (v : Value) (zs : List Int) (c0 : Int) (k : Nat) (cy : Int) (ys : List Int) : Prop :=
  wr.ownsRow base 3 1 v zs.length (ys.map (Value.int .i64)) ∧ ys.length = zs.length ∧ DB ys ∧ ys.drop k = zs.drop k ∧ dv (ys.take k) + dp k * cy = 4294967296 * dv (zs.take k) + c0 ∧ 0 ≤ cy ∧ cy < 4294967296 ∧ Below base w wr

theorem UInv.step {w wr : World} {base g cap : Nat} {zs ys : List Int} {c0 cy T : Int} {k : Nat} (h : UInv w wr base (.slice (some ⟨g, 0, none⟩) zs.length cap) zs c0 k cy ys) (hk : k < zs.length) (hT : T = ys.getD k 0 * 4294967296 + cy) :
    UInv w (wr.setCell ⟨g, k, none⟩ (.int .i64 (T % 10000))) base (.slice (some ⟨g, 0, none⟩) zs.length cap) zs c0 (k + 1) (T / 10000) (ys.set k (T % 10000)) := by
  obtain ⟨h1, h2, h3, h4, h5, h6, h7, h8⟩ := h
  have hz := h3 k
  have hst := h1.stored k (.int .i64 (T % 10000))
  have he : ys.getD k 0 = zs.getD k 0 := by
    have e1 := drop_cons_getD ys k (by omega)
    have e2 := drop_cons_getD zs k hk
    rw [h4] at e1
    rw [e1] at e2
    exact (List.cons.injEq _ _ _ _ ▸ e2).1
  have hlt := h1.lt g rfl
  refine ⟨by rw [List.map_set]; exact hst.1, by simp [h2], DB_set h3 k (by omega), ?_, ?_, by omega, by omega, h8.setCell (by simp; omega) _⟩
  · rw [drop_set_lt ys k (k + 1) _ (Nat.lt_succ_self k)]
    have e1 := congrArg (List.drop 1) h4
    rwa [List.drop_drop, List.drop_drop] at e1
  · rw [dv_take_succ, take_set_ge ys k k _ (Nat.le_refl _), dgetD_set _ _ _ _ (by omega), if_pos rfl, dv_take_succ]
    simp only [dp]
    have e1 : 10000 * dp k * (T / 10000) = dp k * (10000 * (T / 10000)) := by rw [Int.mul_comm 10000, Int.mul_assoc]
    have e2 : dp k * (T % 10000) + dp k * (10000 * (T / 10000)) = dp k * T := by rw [← Int.mul_add]; congr 1; omega
    have e3 : dp k * T = dp k * (4294967296 * ys.getD k 0) + dp k * cy := by rw [hT, Int.mul_add, Int.mul_comm (ys.getD k 0)]
    have e4 : dp k * (4294967296 * ys.getD k 0) = 4294967296 * (dp k * zs.getD k 0) := by rw [he, Int.mul_left_comm]
    rw [e1, Int.mul_add]
    omega

theorem UInv.fin {w wr : World} {base : Nat} {v : Value} {zs ys : List Int} {c0 cy : Int} (h : UInv w wr base v zs c0 zs.length cy ys) : dv ys + dp zs.length * cy = 4294967296 * dv zs + c0 := by
  have := h.2.2.2.2.1
  rw [List.take_length, dv_take_ge ys (by rw [h.2.1]; exact Nat.le_refl _)] at this
  exact this

/-- What is left is put behind: at most three more. -/
def VInv (w wr : World) (base : Nat) (n : Nat) (T : Int) (cy : Int) (d : Value) (ds : List Int) : Prop :=
  wr.ownsRow base 3 1 d ds.length (ds.map (Value.int .i64)) ∧ DB ds ∧ T = dv ds + dp ds.length * cy ∧ 0 ≤ cy ∧ (∃ j : Nat, j ≤ 3 ∧ ds.length + j ≤ n + 3 ∧ cy < dp j) ∧ Below base w wr

theorem UInv.behind {w wr : World} {base : Nat} {v : Value} {zs ys : List Int} {c0 cy : Int} (h : UInv w wr base v zs c0 zs.length cy ys) : VInv w wr base zs.length (4294967296 * dv zs + c0) cy v ys := by
  have hf := h.fin
  obtain ⟨h1, h2, h3, h4, h5, h6, h7, h8⟩ := h
  have e3 : dp 3 = 1000000000000 := by decide
  exact ⟨by rw [h2]; exact h1, h3, by rw [h2]; exact hf.symm, h6, ⟨3, Nat.le_refl _, by omega, by omega⟩, h8⟩

theorem VInv.step {w wr w3 : World} {base n : Nat} {T cy r : Int} {d d' : Value} {ds : List Int} (h : VInv w wr base n T cy d ds) (hb : base ≤ wr.heap.size) (hc : cy ≠ 0) (hr : cy % 10000 = r)
    (hown : w3.ownsRow base 3 1 d' (ds.length + 1) (ds.map (Value.int .i64) ++ [.int .i64 r])) (hg : (wr.alloc (.cells #[.int .i64 r] 3)).grownBy w3 d.ownBlock) : VInv w w3 base n T (cy / 10000) d' (ds ++ [r]) := by
  obtain ⟨h1, h2, h3, h4, ⟨j, hj, hl, hlt⟩, h6⟩ := h
  have hbb := below_app h1 hb hg
  refine ⟨by rw [List.length_append, List.map_append]; exact hown, DB_append h2 (by omega), ?_, by omega, ?_, h6.trans hbb⟩
  · rw [dv_snoc, List.length_append, List.length_singleton, h3]
    simp only [dp]
    have e : 10000 * dp ds.length * (cy / 10000) = dp ds.length * (10000 * (cy / 10000)) := by rw [Int.mul_comm 10000, Int.mul_assoc]
    rw [e, Int.add_assoc, ← Int.mul_add]
    congr 2
    omega
  · match j, hj, hl, hlt with
    | 0, _, _, hlt => simp only [dp] at hlt; omega
    | j + 1, hj, hl, hlt => exact ⟨j, by omega, by simp; omega, by simp only [dp] at hlt; omega⟩

theorem VInv.few {w wr : World} {base n : Nat} {T cy : Int} {d : Value} {ds : List Int} (h : VInv w wr base n T cy d ds) : ds.length ≤ n + 3 := by
  obtain ⟨_, _, _, _, ⟨j, _, hl, _⟩, _⟩ := h
  omega

/-- At the outer loop's head: the digits of the limbs from a place on. -/
def FInv (w wr : World) (vl : Value) (neg : Bool) (ls : List Int) (i : Nat) (d : Value) (ds : List Int) : Prop :=
  wr.ownsRow (w.heap.size + 2) 3 1 d ds.length (ds.map (Value.int .i64)) ∧ DB ds ∧ dv ds = lv (ls.drop i) ∧ ds.length ≤ 3 * (ls.length - i) ∧ Box wr w.heap.size (.bool neg) vl ∧ BoxR wr (w.heap.size + 1) (.int .i64 0) (.slice none 0 0) ∧ Below w.heap.size w wr

theorem fInv_start (w : World) (neg : Bool) (ao : Option Addr) (al ac : Nat) (ls : List Int) : FInv w ((w.alloc (.cells #[.bool neg, .slice ao al ac] 29)).alloc (.cells #[.int .i64 0, .slice none 0 0] 40)) (.slice ao al ac) neg ls ls.length (.slice none 0 0) [] := by
  refine ⟨World.ownsRow_nil _ _ _ _, DB_nil, by simp [dv, lv], by simp, ?_, boxR_new _ _ _ _ (by simp), ((Below.refl _ _).alloc (Nat.le_refl _) _).alloc (by simp) _⟩
  exact (box_new w _ _ _ _ rfl).later ((Below.refl _ _).alloc (by simp) _ : Below (w.heap.size + 1) _ _) (by omega)

theorem FInv.size {w wr : World} {vl d : Value} {neg : Bool} {ls ds : List Int} {i : Nat} (h : FInv w wr vl neg ls i d ds) : w.heap.size + 2 ≤ wr.heap.size := by
  have := h.2.2.2.2.2.1.lt
  omega

theorem FInv.inner {w wr : World} {vl d : Value} {neg : Bool} {ls ds : List Int} {i : Nat} (h : FInv w wr vl neg ls i d ds) {c : Int} (hc : 0 ≤ c ∧ c < 4294967296) : UInv wr wr (w.heap.size + 2) d ds c 0 c ds :=
  ⟨h.1, rfl, h.2.1, rfl, by simp [dv, dp], hc.1, hc.2, Below.refl _ _⟩

theorem FInv.next {w wr w2 : World} {vl d d2 : Value} {neg : Bool} {ls ds ds2 : List Int} {i : Nat} (h : FInv w wr vl neg ls (i + 1) d ds) (hi : i < ls.length) (hv : VInv wr w2 (w.heap.size + 2) ds.length (4294967296 * dv ds + ls.getD i 0) 0 d2 ds2) : FInv w w2 vl neg ls i d2 ds2 := by
  have hf := hv.few
  obtain ⟨h1, h2, h3, h4, h5, h6, h7⟩ := h
  obtain ⟨k1, k2, k3, -, -, k6⟩ := hv
  refine ⟨k1, k2, ?_, by omega, h5.later k6 (by omega), h6.later k6 (by omega), h7.trans (k6.mono (by omega))⟩
  rw [drop_cons_getD ls i hi]
  simp only [lv]
  rw [← h3]
  omega

theorem From_post {w wr w2 : World} {vl d : Value} {neg : Bool} {ls ds : List Int} {v : Value} {z s : Int} {n : Nat} (h : FInv w wr vl neg ls 0 d ds) (hr : RefPost wr (s * dv ds) ds.length (.returned v) w2) (hz : z = s * lv ls) (hn : ls.length ≤ n) :
    NumR w2 v z (3 * n) ∧ BoxR w2 (w.heap.size + 1) (.int .i64 0) (.slice none 0 0) ∧ Below w.heap.size w w2 := by
  obtain ⟨h1, h2, h3, h4, h5, h6, h7⟩ := h
  obtain ⟨v', e, hv, hb⟩ := hr
  obtain rfl := Ending.returned.inj e
  rw [List.drop_zero] at h3
  rw [h3, ← hz] at hv
  exact ⟨hv.mono (by omega), h6.later hb h6.lt, h7.trans (hb.mono h7.size)⟩

set_option maxRecDepth 100000 in
set_option maxHeartbeats 3200000 in
theorem from_any (w : World) (va : Value) (z : Int) (n : Nat) (ha : NumL w va z n) (hn : n ≤ 30000) :
    Calls Tryz.prog 62 #[va] w fun e w' => RefPost w z (3 * n) e w' := by
  obtain ⟨i0, hi, hz0, hz1, hz2⟩ := info_parts Tryz.infoInt
  obtain ⟨neg, sl, ls, rfl, hl, hnrm, hneg, hz, hln⟩ := ha
  have HL := hide hl
  obtain ⟨ao, cap, rfl, hcap, hlen, hlb, hc⟩ := hl
  have hc' : ∀ i, i < ls.length → ∃ b off, ao = some ⟨b, off, none⟩ ∧ b < w.heap.size ∧ w.cell? ⟨b, off + i, none⟩ = some (.int .u32 (ls.getD i 0)) := fun i h => by
    obtain ⟨b, off, e, hb, hc⟩ := hc (by omega)
    exact ⟨b, off, e, hb, hc i h⟩
  have HC := hide hc'
  clear hc hc'
  have HZ := hide hz
  have hst := hide (fInv_start w neg ao ls.length cap ls)
  clear hz
  go_enter Tryz.func62, Tryz.ntmps62
  go_wp2
  go_loopw [3, 4] (fun d i wr => ∃ (p : Nat) (ds : List Int), p ≤ ls.length ∧ i = .int .i64 ((p : Int) - 1) ∧ FInv w wr (.slice ao ls.length cap) neg ls p d ds) (fun _ i _ => (intOf i + 1).toNat)
  case atStart => exact ⟨ls.length, [], Nat.le_refl _, rfl, hst.out⟩
  case round =>
    clear hst
    obtain ⟨p, ds, hp, rfl, hinv⟩ := hrel
    have HI := hide hinv
    obtain ⟨b0, b1, -, -⟩ := hinv.2.2.2.2.1
    clear hinv
    match p, hp, HI with
    | 0, _, HI =>
      have hcut : ∀ s : Int, (s = 1 ∨ s = -1) → Calls Tryz.prog 100 #[.int .i64 s, u3] wr fun e w' => RefPost wr (s * dv ds) ds.length e w' := fun s hs =>
        cutNum_any wr s _ ds (Dig.owns HI.out.1 HI.out.2.1 (by have := HI.out.2.2.2.1; omega)) (by omega)
      cases neg
      · have HZ' := hide (show z = 1 * lv ls by have := HZ.out; simpa using this)
        clear HZ
        go_wp2_with fail
        refine (hcut 1 (.inl rfl)).mono ?_
        rintro e w2 ⟨r, rfl, hr, hb2⟩
        obtain ⟨hr3, hB, hbl⟩ := From_post HI.out ⟨r, rfl, hr, hb2⟩ HZ'.out hln
        obtain ⟨sr, o, l, c, rfl, -⟩ := hr.form
        obtain ⟨c0, c1, f0, f1⟩ := hB.box
        have HF := hide (boxedR hr3 hB hbl (by omega))
        clear hr hr3 hB hbl hb2 HI hcut HC HL HZ' b0 b1
        go_wp2
        exact bodyPost_ret (v := .agg #[.int .i64 sr, .slice o l c]) (by simp [results, Tryz.results62, go_sem, c0, c1]) rfl HF.out
      · have HZ' := hide (show z = -1 * lv ls by have := HZ.out; simpa using this)
        clear HZ
        go_wp2_with fail
        refine (hcut (-1) (.inr rfl)).mono ?_
        rintro e w2 ⟨r, rfl, hr, hb2⟩
        obtain ⟨hr3, hB, hbl⟩ := From_post HI.out ⟨r, rfl, hr, hb2⟩ HZ'.out hln
        obtain ⟨sr, o, l, c, rfl, -⟩ := hr.form
        obtain ⟨c0, c1, f0, f1⟩ := hB.box
        have HF := hide (boxedR hr3 hB hbl (by omega))
        clear hr hr3 hB hbl hb2 HI hcut HC HL HZ' b0 b1
        go_wp2
        exact bodyPost_ret (v := .agg #[.int .i64 sr, .slice o l c]) (by simp [results, Tryz.results62, go_sem, c0, c1]) rfl HF.out
    | i + 1, hp, HI =>
      obtain ⟨b, off, rfl, hbw, hcell⟩ := HC.out i (by omega)
      have hcell' := (HI.out.2.2.2.2.2.2.cell (p := ⟨b, off + i, none⟩) hbw).trans hcell
      have hlim := hlb i
      have HU := hide (HI.out.inner hlim)
      clear hcell
      have hi1 : ((i + 1 : Nat) : Int) - 1 = (i : Int) := by omega
      rw [hi1]
      clear hi1
      have HG := hide (show ls.getD i 0 = ls.getD i 0 from rfl)
      generalize hlg : ls.getD i 0 = c at *
      have HLG := hide hlg
      clear hlg
      obtain ⟨od, cd, rfl⟩ : ∃ o cap, u3 = .slice o ds.length cap := by
        rcases HI.out.1.2 with ⟨e, h0⟩ | ⟨g, cap, cur, e, -⟩
        · exact ⟨none, 0, by rw [h0]; exact e⟩
        · exact ⟨_, cap, e⟩
      have hdl : ds.length ≤ 90000 := by have := HI.out.2.2.2.1; omega
      have hsz := HI.out.size
      generalize wr = W0 at *
      go_wp2
      go_loopw [5, 6, 7] (fun cy k _ w1 => ∃ (j : Nat) (x : Int) (ys : List Int), j ≤ ds.length ∧ k = .int .i64 j ∧ cy = .int .i64 x ∧ UInv W0 w1 (w.heap.size + 2) (.slice od ds.length cd) ds c j x ys) (fun _ k _ _ => ds.length - (intOf k).toNat)
      case atStart => exact ⟨0, c, ds, Nat.zero_le _, rfl, rfl, HU.out⟩
      case round =>
        clear HU
        obtain ⟨j, x, ys, hj, rfl, rfl, hinv⟩ := hrel
        have hc0 := hinv.2.2.2.2.2.1
        have hc1 := hinv.2.2.2.2.2.2.1
        by_cases hlt : j < ds.length
        · obtain ⟨g, cap', e, -, hgs⟩ := hinv.1.form (by omega)
          simp only [Value.slice.injEq, true_and] at e
          obtain ⟨rfl, rfl⟩ := e
          have hky : j < ys.length := by have := hinv.2.1; omega
          have hcl := hinv.1.cellAt j (by omega)
          rw [List.getElem?_map, List.getElem?_eq_getElem hky, Option.map_some, show ys[j]'hky = ys.getD j 0 by rw [List.getD_eq_getElem?_getD, List.getElem?_eq_getElem hky]; rfl] at hcl
          have hfr := hinv.1.frozenAt j
          have hz := hinv.2.2.1 j
          have HS := hide (hinv.step hlt rfl)
          clear hinv hcell' b0 b1
          generalize ys.getD j 0 = y at *
          have hm1 : IntKind.i64.wrap (y * 4294967296) = y * 4294967296 := by rw [IntKind.wrap_i64]; omega
          have hm2 : IntKind.i64.wrap (y * 4294967296 + x) = y * 4294967296 + x := by rw [IntKind.wrap_i64]; omega
          have hm3 : (y * 4294967296 + x).tmod 10000 = (y * 4294967296 + x) % 10000 := Int.tmod_eq_emod_of_nonneg (by omega)
          have hm4 : (y * 4294967296 + x).tdiv 10000 = (y * 4294967296 + x) / 10000 := Int.tdiv_eq_ediv_of_nonneg (by omega)
          go_wp2
          go_roundw
          case rel => exact ⟨j + 1, _, _, by omega, by go_num, rfl, HS.out⟩
          case measure => simp [intOf]; omega
        · obtain rfl : j = ds.length := by omega
          have HV := hide hinv.behind
          clear hinv hcell' b0 b1
          go_wp2
          go_loopw [3, 5] (fun d cy w2 => ∃ (x : Int) (es : List Int), cy = .int .i64 x ∧ VInv W0 w2 (w.heap.size + 2) ds.length (4294967296 * dv ds + c) x d es) (fun _ cy _ => (intOf cy).toNat)
          case atStart => exact ⟨x, ys, rfl, HV.out⟩
          case round =>
            clear HV
            obtain ⟨y, es, rfl, hv⟩ := hrel
            have hy0 := hv.2.2.2.1
            have hfew := hv.few
            by_cases hy : y = 0
            · subst hy
              have HN := hide (HI.out.next (by omega) (by rw [HLG.out]; exact hv))
              clear hv HI
              go_wp2
              go_roundw
              case rel => exact ⟨i, es, by omega, by go_num, HN.out⟩
              case measure => simp [intOf]
            · have hown := hv.1
              have hbs : w.heap.size + 2 ≤ wr.heap.size := by have := hv.2.2.2.2.2.size; omega
              have HST := hide (fun d' w3 hown' hg => hv.step (d' := d') (w3 := w3) hbs hy rfl hown' hg)
              have hyp : 0 < y := by omega
              have hy1 : y ≤ 1000000000000 := by obtain ⟨_, _, _, _, ⟨j, hj, _, hlt⟩, _⟩ := hv; have := dp_mono hj; have e3 : dp 3 = 1000000000000 := (by decide); omega
              have hm3 : y.tmod 10000 = y % 10000 := Int.tmod_eq_emod_of_nonneg (by omega)
              have hm4 : y.tdiv 10000 = y / 10000 := Int.tdiv_eq_ediv_of_nonneg (by omega)
              have hdec : decide (0 < y) = true := decide_eq_true hyp
              clear hv
              go_wp2_with (at_builtin; refine wpList_append_lies _ rfl _ _ 38 rfl (w.heap.size + 2) 3 i0 (.int .i64 0) 1 8 Tryz.underlying38 hi hz0 hz1 hz2 rfl (by decide) u3 es.length (es.map (Value.int .i64)) rfl (hown.alloc _) ⟨wr.heap.size, 0, none⟩ 1 1 [.int .i64 (y % 10000)] rfl rfl (World.news_of_block (heap_alloc_new wr _)) (fun u hu => by rw [List.mem_singleton] at hu; rw [hu]; rfl) (by decide) (by unfold maxLen; omega) (by omega) (by simp; omega) (wr.heap.size + 1) (by simp) ?_)
              intro g cap' w3 hown3 hgrow3 hat3 hlt3
              have HF := hide (HST.out _ _ hown3 hgrow3)
              clear hown3 hgrow3 hat3 hown HST
              go_wp2
              go_roundw
              case rel => exact ⟨_, _, rfl, HF.out⟩
              case measure => simp [intOf]; omega

end Go.Proofs.YtdedolkgcdlmeaaGreatDoor
