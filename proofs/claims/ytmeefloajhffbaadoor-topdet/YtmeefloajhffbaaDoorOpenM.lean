/- append(Mat(nil), m...): rows of one's own. -/
import Derived.Test.YtmeefloajhffbaaDoorDetY
import Derived.Test.YtmeefloajhffbaaDoorSmT
import Derived.Test.YtmeefloajhffbaaDoorNum
import Derived.Test.YtmeefloajhffbaaDoorMatChk

namespace Go.Proofs.YtmeefloajhffbaaDoor
open Go.RowKit Limbs

theorem is_self (x : Int) : (cmpI x x == 0) = true := by
  unfold cmpI
  rw [if_neg (by omega), if_neg (by omega)]
  rfl

theorem wpList_copy_rows {P : Program} {w : World} {ops : Array Oper} {rest : List Oper} {op : Oper} {a : Act} {Q : Exit → Act → World → Prop} (hgd : op.guard = none) (s x : Operand) (t : TypeId)
    (ho : op.op = .call { callee := .builtin .append, args := #[s, x], argTypes := #[t, t] })
    (i : TypeInfo) (ht : P.underlying t = some (.slice 32)) (hi : P.info? 32 = some i) (hz : i.zero = some (.slice none 0 0))
    (hsize : i.size = 1) (hby : i.bytes = 24) (hs : a.eval s = .slice none 0 0) (ao : Option Addr) (cap : Nat) (ms : List (List Int)) (nv : Nat) (hx : a.eval x = .slice ao ms.length cap) (hv : MatN w (.slice ao ms.length cap) ms nv) (h0 : 0 < ms.length) (hl : ms.length ≤ 1000) (hp : ∀ u ∈ ms, 0 < u.length)
    (h : ∀ rb cap' w', ms.length ≤ cap' → (∀ up, RowsD w w' rb w.heap.size up ms nv) → wpList P ops Q rest (a.put op.dst (.slice (some ⟨rb, 0, none⟩) ms.length cap')) w') : wpList P ops Q (op :: rest) a w := by
  obtain ⟨ao', cap2, e0, -, h2⟩ := id hv
  simp only [Value.slice.injEq, true_and] at e0
  obtain ⟨rfl, rfl⟩ := e0
  obtain ⟨b, off, rfl, hbl, -⟩ := h2 h0
  obtain ⟨qs', e1, e2, e3, e4⟩ := hv.heads h0
  have hql : qs'.length = ms.length := by rw [← e1, List.length_map]
  refine wpList_append_heads hgd s x t ho w.heap.size i ht hi hz hsize hby _ [] nv (GrowV.nil _ _ _) hs b off cap qs' (by rw [hql]; exact hx) (by omega) e2 e3 e4 (by simp; omega) (Nat.le_refl _) fun v' w' hg' hb' => ?_
  have hsp : ∀ up, ∀ q ∈ qs', ∀ a l c, q.1 = .slice (some a) l c → a.block < w.heap.size ∨ up ≤ a.block := fun up q hq a l c e => .inl (by
    have hp := hp q.2 (by rw [← e1]; exact List.mem_map_of_mem hq)
    obtain ⟨b', off', cap', e'⟩ := (e4 q hq).form hp
    have := (e4 q hq)
    rw [e'] at this e
    simp only [Value.slice.injEq, Option.some.injEq] at e
    obtain ⟨rfl, -, -⟩ := e
    exact (this.at 0 hp).1)
  obtain ⟨rb, cap', rfl, hc, hrd⟩ := growV_rows (R := ms) hg' hb' e1 h0 (hsp 0)
  refine h rb cap' w' hc fun up => ?_
  obtain ⟨rb', cap'', e, -, hrd'⟩ := growV_rows (R := ms) hg' hb' e1 h0 (hsp up)
  simp only [Value.slice.injEq, Option.some.injEq, Addr.mk.injEq, and_true, true_and] at e
  obtain ⟨rfl, -⟩ := e
  exact hrd'

end Go.Proofs.YtmeefloajhffbaaDoor

/- How many classes: the product of invariants is multiplied. No Go in it. -/
namespace Go.Proofs.YtmeefloajhffbaaDoor
open Go.RowKit Limbs

/-- How much of each row of the second ones each of the first ones is. -/
def muchM (hs ks : List (List Int)) (p : Nat → Nat) : List (List Int) := hs.map (muchL ks p)

section
variable {n : Nat} {hs ks : List (List Int)} {ph pk : Nat → Nat}

/-- Rows of as many places: what is made of them is their form's product, but for its sign. -/
theorem det_diag {r : Nat} {A fa : List (List Int)} (hA : A.length = r) (hl : ∀ u ∈ A, u.length = r) (S : Sq r fa) (a : Alikes r (InL fa) (InL A)) : absI (det r (ent A)) = diag r fa := by
  obtain ⟨C, hC⟩ := rows_coef (r := r) (n := r) (mm := r) (H := ent fa) (M := ent A) fun k hk => by
    have hm : fa.getD k [] ∈ fa := getD_mem (by rw [S.len]; exact hk)
    have g := lat_inL ((a _).1 (.base hm (S.form.len _ hm)))
    rw [hA] at g
    exact g
  obtain ⟨T, hT⟩ := rows_coef (r := r) (n := r) (mm := r) (H := ent A) (M := ent fa) fun k hk => by
    have hm : A.getD k [] ∈ A := getD_mem (by rw [hA]; exact hk)
    have g := lat_inL ((a _).2 (.base hm (hl _ hm)))
    rw [S.len] at g
    exact g
  have d1 : det r (ent fa) = diag r fa := det_tri r _ fun i b hi hb => S.low hi hb
  have e1 : diag r fa = det r C * det r (ent A) := by
    rw [← d1, ← det_mul]
    exact det_congr fun x y hx hy => hC x y hx hy
  have e2 : det r (ent A) = det r T * diag r fa := by
    rw [← d1, ← det_mul]
    exact det_congr fun x y hx hy => hT x y hx hy
  have o := S.one_le
  have a1 := congrArg absI e1; have a2 := congrArg absI e2
  rw [absI_mul, absI_of_nonneg (show 0 ≤ diag r fa by omega)] at a1 a2
  have n1 := absI_nonneg (det r C); have n2 := absI_nonneg (det r T); have n3 := absI_nonneg (det r (ent A))
  have c1 : 1 ≤ absI (det r C) := by
    rcases Int.lt_or_eq_of_le n1 with h | h
    · omega
    · rw [← h, Int.zero_mul] at a1; omega
  have hA1 : 1 ≤ absI (det r (ent A)) := by
    rcases Int.lt_or_eq_of_le n3 with h | h
    · omega
    · rw [← h, Int.mul_zero] at a1; omega
  have c2 : 1 ≤ absI (det r T) := by
    rcases Int.lt_or_eq_of_le n2 with h | h
    · omega
    · rw [← h, Int.zero_mul] at a2; omega
  have g1 := Int.mul_le_mul_of_nonneg_right c1 n3
  have g2 := Int.mul_le_mul_of_nonneg_right c2 (show 0 ≤ diag r fa by omega)
  omega

end

def prodL : List Int → Int
  | [] => 1
  | x :: t => x * prodL t

end Go.Proofs.YtmeefloajhffbaaDoor

/- What is made of rows that were turned about, or put to each other; of rows that aren't as many in the one form. No Go in it. -/
namespace Go.Proofs.YtmeefloajhffbaaDoor
open Go.RowKit Limbs

theorem det_less {n : Nat} {A hs : List (List Int)} (hA : A.length = n) (hl : ∀ u ∈ A, u.length = n) (a : Alikes n (InL hs) (InL A)) (h : hs.length < n) : det n (ent A) = 0 := by
  obtain ⟨T, hT⟩ := rows_coef (r := n) (n := n) (mm := hs.length) (H := ent A) (M := ent hs) fun k hk => by
    have hm : A.getD k [] ∈ A := getD_mem (by rw [hA]; exact hk)
    exact lat_inL ((a _).2 (.base hm (hl _ hm)))
  have e1 : det n (ent A) = det n (mulM n T (fun k y => if k < hs.length then ent hs k y else 0)) := det_congr fun x y hx hy => by
    rw [hT x y hx hy]
    show _ = sumN n (fun k => T x k * (if k < hs.length then ent hs k y else 0))
    have e2 := sumN_cut hs.length (n - hs.length) (fun k => T x k * (if k < hs.length then ent hs k y else 0)) fun k h1 h2 => by
      show T x k * (if k < hs.length then ent hs k y else 0) = 0
      rw [if_neg (by omega), Int.mul_zero]
    rw [show hs.length + (n - hs.length) = n by omega] at e2
    rw [e2]
    exact sumN_congr fun k hk => by rw [if_pos hk]
  have e3 : (fun k y => if k < hs.length then ent hs k y else 0) = setRow (fun k y => if k < hs.length then ent hs k y else 0) (n - 1) (fun _ => 0) := by
    funext k y
    by_cases hk : k = n - 1
    · subst hk
      rw [setRow_at, if_neg (by omega)]
    · rw [setRow_ne _ _ _ hk]
  rw [e1, det_mul, e3, det_row_zero n _ (n - 1) (by omega), Int.mul_zero]

theorem det_two {R : List (List Int)} {a b n : Nat} (hR : R.length = n) (ha : a < R.length) (hb : b < R.length) (hab : a ≠ b) : det n (ent ((R.set a R[b]).set b R[a])) = - det n (ent R) := by
  rcases Nat.lt_or_gt_of_ne hab with h | h
  · rw [det_congr fun i j _ _ => ent_swap ha hb h i j, det_swap n _ a b h (by omega)]
  · rw [List.set_comm _ _ hab, det_congr fun i j _ _ => ent_swap hb ha h i j, det_swap n _ b a h (by omega)]

theorem det_more {R : List (List Int)} {a b n : Nat} {z : Int} {u : List Int} (hR : R.length = n) (ha : a < n) (hb : b < n) (hab : a ≠ b) (hu : ∀ j, j < n → u.getD j 0 = ent R a j + z * ent R b j) : det n (ent (R.set a u)) = det n (ent R) := by
  have e1 : det n (ent (R.set a u)) = det n (setRow (ent R) a (fun j => 1 * ent R a j + z * ent R b j)) := det_congr fun i j hi hj => by
    by_cases e : i = a
    · subst e
      rw [setRow_at, Int.one_mul, ← hu j hj]
      unfold ent
      rw [List.getD_eq_getElem?_getD (l := R.set i u), List.getElem?_set_self (by omega), Option.getD_some]
    · rw [setRow_ne _ _ _ e]
      unfold ent
      rw [List.getD_eq_getElem?_getD (l := R.set a u), List.getElem?_set_ne (Ne.symm e), ← List.getD_eq_getElem?_getD]
  have e2 : det n (setRow (ent R) a (ent R b)) = 0 := by
    have h1 : ∀ j, setRow (ent R) a (ent R b) a j = setRow (ent R) a (ent R b) b j := fun j => by rw [setRow_at, setRow_ne _ _ _ (Ne.symm hab)]
    rcases Nat.lt_or_gt_of_ne hab with h | h
    · exact det_alt n _ a b h hb h1
    · exact det_alt n _ b a h ha fun j => (h1 j).symm
  rw [e1, det_lin (ent R) a (ent R a) (ent R b) 1 z ha, setRow_self, e2]
  omega

end Go.Proofs.YtmeefloajhffbaaDoor

/- A text's rest. -/
namespace Go.Proofs.YtmeefloajhffbaaDoor
open Go.RowKit

/-- A text without its first statement. -/
def Code.tl : Code → Code
  | .seq _ b => b
  | c => c

end Go.Proofs.YtmeefloajhffbaaDoor

/- Rows of vectors that came in; are they light? -/
namespace Go.Proofs.YtmeefloajhffbaaDoor
open Go.ChangeShapes Go.WideShapes Go.ChangeAt Go.RowKit Go.Joins Limbs

theorem Tryd.cellsVec : Tryd.prog.cellsOf 32 = 1 := by kernel_rfl

/-- What is known of rows that came in. -/
def MatC (W : World) (v : Value) (rss : List (List Raw)) : Prop :=
  ∃ ao cap, v = .slice ao rss.length cap ∧ rss.length ≤ cap ∧ rss.length ≤ 9223372036854775807 ∧
    (0 < rss.length → ∃ b off, ao = some ⟨b, off, none⟩ ∧ b < W.heap.size ∧ ∀ i rs, rss[i]? = some rs → ∃ u, W.cell? ⟨b, off + i, none⟩ = some u ∧ VecC W u rs)

set_option maxRecDepth 100000 in
theorem open_vecT {H : Type} {enc : TypeId × Value → H} {W : World} {n : Nat} {v : Value} {y : DataW H × List MemPlace}
    (hf : DataW.trod enc Tryd.prog W 0 (fun _ => true) true n 32 [v] = some y) : ∃ rs, VecC W v rs := by
  obtain ⟨a0, len, cap, e⟩ := slice_form Tryd.underlying32 hf
  simp only [List.cons.injEq, and_true] at e
  subst e
  rcases Go.Deep.open_slice_pairs Tryd.underlying32 Tryd.underlying26 Tryd.cellsNum rfl rfl Tryd.cellsBool Tryd.cellsSl hf with ⟨hcs, _⟩ | ⟨a, l, c, m, n, V0, V1, D0, D1, P0, P1, hcs, _, hl, hm, hmm, _, hc⟩
  · simp only [List.cons.injEq, Value.slice.injEq, and_true] at hcs
    obtain ⟨rfl, rfl, rfl⟩ := hcs
    exact ⟨[], none, 0, rfl, by simp, by simp, fun h => absurd h (by simp)⟩
  · simp only [List.cons.injEq, Value.slice.injEq, and_true] at hcs
    obtain ⟨rfl, rfl, rfl⟩ := hcs
    have hm' : len ≤ m := by simp at hmm; omega
    have each : ∀ i, i < len → ∃ r : Raw, V0 i = .bool r.neg ∧ V1 i = r.s ∧ CameR W r := fun i hi => by
      obtain ⟨-, -, h0, h1⟩ := hc i (by omega)
      obtain ⟨b, e0, -⟩ := DataW.trod_bool Tryd.underlying4 h0
      obtain ⟨r, e1, e2, e3⟩ := open_limbs h1 b
      simp only [List.cons.injEq, and_true] at e0
      exact ⟨r, by rw [e0, e1], e2.symm, e3⟩
    obtain ⟨q, hq⟩ := Go.Deep.choose_lt each
    have hlen : ((List.range len).map q).length = len := by simp
    refine ⟨(List.range len).map q, some a, cap, by rw [hlen], by rw [hlen]; exact hl, by rw [hlen]; unfold maxLen at hm; omega, fun h0 => ?_⟩
    rw [hlen] at h0
    obtain ⟨k0, -, -, -⟩ := hc 0 (by omega)
    obtain ⟨blk, off, spot⟩ := a
    have hsp : spot = none := by simpa [Addr.add] using World.cell?_spot k0
    subst hsp
    refine ⟨blk, off, rfl, by simpa [Addr.add] using World.block_lt_of_cell? W _ k0, fun i r hi => ?_⟩
    obtain ⟨hi', e⟩ := List.getElem?_eq_some_iff.1 hi
    rw [hlen] at hi'
    have e' : r = q i := by simpa using e.symm
    obtain ⟨c0, c1, -, -⟩ := hc i (by omega)
    obtain ⟨q0, q1, q2⟩ := hq i hi'
    rw [Go.WideShapes.add_plain, q0] at c0
    rw [Go.WideShapes.add_plain, q1] at c1
    rw [e']
    exact ⟨c0, c1, q2⟩

set_option maxRecDepth 100000 in
theorem open_mat {H : Type} {enc : TypeId × Value → H} {W : World} {r : Reach} {b0 : Nat} {v : Value} {d : DataW H} {p : List MemPlace}
    (hv : Value.okWide Tryd.prog W r b0 23 v) (h : DataW.Trod enc Tryd.prog W 0 (fun _ => true) true 23 v d p) :
    ∃ rss, MatC W v rss := by
  obtain ⟨a0, len, cap, rfl⟩ := okWide_slice Tryd.underlying23 hv
  obtain ⟨fuel, hf⟩ := h
  rcases Go.Deep.open_slice1 Tryd.underlying23 Tryd.cellsVec hf with ⟨hcs, _⟩ | ⟨a, l, c, m, n, V, D, Pl, hcs, _, hl, hm, hmm, _, hc⟩
  · simp [Value.cells] at hcs
    obtain ⟨rfl, rfl, rfl⟩ := hcs
    exact ⟨[], none, 0, rfl, by simp, by simp, fun h => absurd h (by simp)⟩
  · simp [Value.cells] at hcs
    obtain ⟨rfl, rfl, rfl⟩ := hcs
    have hm' : len ≤ m := by simp at hmm; omega
    have each : ∀ i, i < len → ∃ rs : List Raw, VecC W (V i) rs := fun i hi => open_vecT (hc i (by omega)).2
    obtain ⟨q, hq⟩ := Go.Deep.choose_lt each
    have hlen : ((List.range len).map q).length = len := by simp
    refine ⟨(List.range len).map q, some a, cap, by rw [hlen], by rw [hlen]; exact hl, by rw [hlen]; unfold maxLen at hm; omega, fun h0 => ?_⟩
    rw [hlen] at h0
    obtain ⟨k0, -⟩ := hc 0 (by omega)
    obtain ⟨blk, off, spot⟩ := a
    have hsp : spot = none := by simpa [Addr.add] using World.cell?_spot k0
    subst hsp
    refine ⟨blk, off, rfl, by simpa [Addr.add] using World.block_lt_of_cell? W _ k0, fun i rs hi => ?_⟩
    obtain ⟨hi', e⟩ := List.getElem?_eq_some_iff.1 hi
    rw [hlen] at hi'
    have e' : rs = q i := by simpa using e.symm
    obtain ⟨c0, -⟩ := hc i (by omega)
    rw [Go.WideShapes.add_plain] at c0
    rw [e']
    exact ⟨_, c0, hq i hi'⟩

theorem VecC.below {w w' : World} {v : Value} {rs : List Raw} (h : VecC w v rs) (hb : Below w.heap.size w w') : VecC w' v rs := by
  obtain ⟨ao, cap, hv, h1, h1', h2⟩ := h
  refine ⟨ao, cap, hv, h1, h1', fun h0 => ?_⟩
  obtain ⟨b, off, e, hlt, hc⟩ := h2 h0
  refine ⟨b, off, e, Nat.lt_of_lt_of_le hlt hb.size, fun i r hi => ?_⟩
  obtain ⟨h3, h4, h5, h6, h7⟩ := hc i r hi
  exact ⟨(hb.cell (p := ⟨b, off + i * 2, none⟩) hlt).trans h3, (hb.cell (p := ⟨b, off + i * 2 + 1, none⟩) hlt).trans h4, h5, h6, fun hl => (h7 hl).below hb (Nat.le_refl _)⟩

theorem MatC.below {w w' : World} {v : Value} {rss : List (List Raw)} (h : MatC w v rss) (hb : Below w.heap.size w w') : MatC w' v rss := by
  obtain ⟨ao, cap, hv, h1, h1', h2⟩ := h
  refine ⟨ao, cap, hv, h1, h1', fun h0 => ?_⟩
  obtain ⟨b, off, e, hlt, hc⟩ := h2 h0
  refine ⟨b, off, e, Nat.lt_of_lt_of_le hlt hb.size, fun i r hi => ?_⟩
  obtain ⟨u, h3, h4⟩ := hc i r hi
  exact ⟨u, (hb.cell (p := ⟨b, off + i, none⟩) hlt).trans h3, h4.below hb⟩

/-- So many limbs, together. -/
def limbsV (rs : List Raw) : Nat := (rs.map (·.zs.length)).sum
def limbsM (rss : List (List Raw)) : Nat := (rss.map limbsV).sum

def lightM (rss : List (List Raw)) (limbs : Int) : Bool := decide (rss.length ≤ 14) && rss.all lightV && decide ((limbsM rss : Int) ≤ limbs)

theorem limbsV_step (rs : List Raw) (k : Nat) (hk : k < rs.length) : limbsV (rs.take (k + 1)) = limbsV (rs.take k) + rs[k].zs.length := by
  unfold limbsV
  rw [List.take_succ_eq_append_getElem hk, List.map_append, List.sum_append]
  simp

theorem limbsM_step (rss : List (List Raw)) (k : Nat) (hk : k < rss.length) : limbsM (rss.take (k + 1)) = limbsM (rss.take k) + limbsV rss[k] := by
  unfold limbsM
  rw [List.take_succ_eq_append_getElem hk, List.map_append, List.sum_append]
  simp

theorem limbsV_le (rs : List Raw) (h : rs.all (fun r => decide (r.zs.length ≤ 8)) = true) : limbsV rs ≤ 8 * rs.length := by
  induction rs with
  | nil => simp [limbsV]
  | cons r rs ih =>
    rw [List.all_cons, Bool.and_eq_true] at h
    have h1 := of_decide_eq_true h.1
    have h2 := ih h.2
    simp only [limbsV, List.map_cons, List.sum_cons, List.length_cons] at h2 ⊢
    omega

theorem lightV_limbs {rs : List Raw} (h : lightV rs = true) : limbsV rs ≤ 80 ∧ rs.length ≤ 10 := by
  unfold lightV at h
  rw [Bool.and_eq_true] at h
  have h1 := of_decide_eq_true h.1
  have := limbsV_le rs h.2
  omega

theorem limbsM_le (rss : List (List Raw)) (h : rss.all lightV = true) : limbsM rss ≤ 80 * rss.length := by
  induction rss with
  | nil => simp [limbsM]
  | cons r rs ih =>
    rw [List.all_cons, Bool.and_eq_true] at h
    have h1 := (lightV_limbs h.1).1
    have h2 := ih h.2
    simp only [limbsM, List.map_cons, List.sum_cons, List.length_cons] at h2 ⊢
    omega

end Go.Proofs.YtmeefloajhffbaaDoor
