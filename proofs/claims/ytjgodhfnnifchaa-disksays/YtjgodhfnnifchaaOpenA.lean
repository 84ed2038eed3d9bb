/- Operations and acts that came in, as they read. -/
import Derived.Test.YtjgodhfnnifchaaActA
import Derived.Deep.SlicePairs
import Derived.ProofKit
import Derived.Lib.SmallJoins
import Derived.ChangeOld
namespace Go.Proofs.Ytjgodhfnnifchaa
open Go.ChangeShapes Go.WideShapes Go.ChangeAt Go.RowKit Go.Joins

theorem Try.cellsOp : Try.prog.cellsOf 38 = 4 := by kernel_rfl
theorem Try.cellsAct : Try.prog.cellsOf 41 = 9 := by kernel_rfl
theorem Try.cellsStr : Try.prog.cellsOf 9 = 1 := by kernel_rfl
theorem Try.cellsI : Try.prog.cellsOf 3 = 1 := by kernel_rfl
theorem Try.cellsIs : Try.prog.cellsOf 36 = 1 := by kernel_rfl
theorem Try.cellsOps : Try.prog.cellsOf 39 = 1 := by kernel_rfl

section
variable {H : Type} {enc : TypeId × Value → H} {W : World}

set_option maxRecDepth 100000 in
theorem open_op {n : Nat} {cs : List Value} {y : DataW H × List MemPlace} (h : DataW.trod enc Try.prog W 0 (fun _ => true) true n 38 cs = some y) :
    ∃ (name : ByteArray) (vo : Option Addr) (vl vc : Nat), cs[1]? = some (.string name) ∧ cs[3]? = some (.slice vo vl vc) := by
  obtain ⟨xs, k, -, -, hl, hxl, hf⟩ := DataW.trod_struct Try.underlying38 h
  rw [Try.cellsOp] at hl
  match cs, hl with
  | [v0, v1, v2, v3], _ =>
    match xs, hxl with
    | [x0, x1, x2, x3], _ =>
      have g1 : DataW.trod enc Try.prog W 0 (fun _ => true) true k 9 (([v0, v1, v2, v3].drop 1).take (Try.prog.cellsOf 9)) = [x0, x1, x2, x3][1]? := hf 1 _ rfl
      have g3 : DataW.trod enc Try.prog W 0 (fun _ => true) true k 36 (([v0, v1, v2, v3].drop 3).take (Try.prog.cellsOf 36)) = [x0, x1, x2, x3][3]? := hf 3 _ rfl
      rw [Try.cellsStr] at g1
      rw [Try.cellsIs] at g3
      obtain ⟨name, e1, -, -⟩ := DataW.trod_string Try.underlying9 g1
      have e1' : v1 = .string name := by simpa using e1
      rcases Go.Deep.open_slice Try.underlying36 g3 with ⟨e3, -⟩ | ⟨a, l, c, m, n, D, Pl, e3, -⟩
      · have e3' : v3 = .slice none 0 0 := by simpa using e3
        exact ⟨name, none, 0, 0, by simp [e1'], by simp [e3']⟩
      · have e3' : v3 = .slice (some a) l c := by simpa using e3
        exact ⟨name, some a, l, c, by simp [e1'], by simp [e3']⟩

theorem spot_none {a : Addr} {v : Value} (h : W.cell? (a.add 0) = some v) : ∃ b off, a = ⟨b, off, none⟩ ∧ b < W.heap.size := by
  obtain ⟨b, off, spot⟩ := a
  have hs : spot = none := by simpa [Addr.add] using World.cell?_spot h
  subst hs
  exact ⟨b, off, rfl, by simpa [Addr.add] using World.block_lt_of_cell? W _ h⟩

set_option maxRecDepth 100000 in
theorem open_opsA {n : Nat} {v : Value} {y : DataW H × List MemPlace} (h : DataW.trod enc Try.prog W 0 (fun _ => true) true n 39 [v] = some y) : ∃ l, OpsAt W v l := by
  rcases Go.Deep.open_slice Try.underlying39 h with ⟨e, -⟩ | ⟨a, l, c, m, n, D, Pl, e, -, hl, hm, hmm, -, hc⟩
  · have e' : v = .slice none 0 0 := by simpa using e
    exact ⟨0, none, 0, e', by decide, fun h => absurd h (by decide)⟩
  · have e' : v = .slice (some a) l c := by simpa using e
    have hm' : l ≤ m := by simp at hmm; omega
    refine ⟨l, some a, c, e', by unfold maxLen at hm; omega, fun h0 => ?_⟩
    have each : ∀ i, i < l → ∃ (name : ByteArray) (vo : Option Addr) (vl vc : Nat) (u : Value), W.cell? (a.add (i * 4 + 1)) = some (.string name) ∧ W.cell? (a.add (i * 4 + 3)) = some (.slice vo vl vc) ∧ W.cell? (a.add (i * 4 + 0)) = some u := fun i hi => by
      obtain ⟨cs, h1, h2⟩ := hc i (by omega)
      rw [Try.cellsOp] at h1
      obtain ⟨-, hlen, hcell⟩ := World.cells?_some h1
      obtain ⟨name, vo, vl, vc, e1, e3⟩ := open_op h2
      have c1 := hcell 1 (by omega)
      have c3 := hcell 3 (by omega)
      rw [Go.Deep.add_add, e1] at c1
      rw [Go.Deep.add_add, e3] at c3
      have c0 := hcell 0 (by omega)
      rw [Go.Deep.add_add, List.getElem?_eq_getElem (by omega)] at c0
      exact ⟨name, vo, vl, vc, _, c1, c3, c0⟩
    obtain ⟨name, vo, vl, vc, u, -, -, c0⟩ := each 0 h0
    obtain ⟨b, off, rfl, hlt⟩ := spot_none (by simpa using c0)
    refine ⟨b, off, rfl, hlt, fun i hi => ?_⟩
    obtain ⟨name, vo, vl, vc, u, c1, c3, -⟩ := each i hi
    rw [Go.WideShapes.add_plain] at c1 c3
    exact ⟨name, vo, vl, vc, by rw [Nat.add_assoc]; exact c1, by rw [Nat.add_assoc]; exact c3⟩

set_option maxRecDepth 100000 in
/-- One act's cells. -/
theorem open_act {n : Nat} {cs : List Value} {y : DataW H × List MemPlace} (h : DataW.trod enc Try.prog W 0 (fun _ => true) true n 41 cs = some y) :
    ∃ (p : Int × ByteArray) (name : ByteArray) (vo : Option Addr) (vl vc : Nat) (ov : Value) (l : Nat), cs[1]? = some (.int .i64 p.1) ∧ cs[2]? = some (.string p.2) ∧ cs[5]? = some (.string name) ∧ cs[7]? = some (.slice vo vl vc) ∧ cs[8]? = some ov ∧ OpsAt W ov l := by
  obtain ⟨xs, k, -, -, hl, hxl, hf⟩ := DataW.trod_struct Try.underlying41 h
  rw [Try.cellsAct] at hl
  match cs, hl with
  | [v0, v1, v2, v3, v4, v5, v6, v7, v8], _ =>
    match xs, hxl with
    | [x0, x1, x2, x3, x4, x5], _ =>
      have g1 : DataW.trod enc Try.prog W 0 (fun _ => true) true k 3 (([v0, v1, v2, v3, v4, v5, v6, v7, v8].drop 1).take (Try.prog.cellsOf 3)) = [x0, x1, x2, x3, x4, x5][1]? := hf 1 _ rfl
      have g2 : DataW.trod enc Try.prog W 0 (fun _ => true) true k 9 (([v0, v1, v2, v3, v4, v5, v6, v7, v8].drop 2).take (Try.prog.cellsOf 9)) = [x0, x1, x2, x3, x4, x5][2]? := hf 2 _ rfl
      have g4 : DataW.trod enc Try.prog W 0 (fun _ => true) true k 38 (([v0, v1, v2, v3, v4, v5, v6, v7, v8].drop 4).take (Try.prog.cellsOf 38)) = [x0, x1, x2, x3, x4, x5][4]? := hf 4 _ rfl
      have g5 : DataW.trod enc Try.prog W 0 (fun _ => true) true k 39 (([v0, v1, v2, v3, v4, v5, v6, v7, v8].drop 8).take (Try.prog.cellsOf 39)) = [x0, x1, x2, x3, x4, x5][5]? := hf 5 _ rfl
      rw [Try.cellsI] at g1
      rw [Try.cellsStr] at g2
      rw [Try.cellsOp] at g4
      rw [Try.cellsOps] at g5
      obtain ⟨z, e1, -, -⟩ := DataW.trod_int Try.underlying3 g1
      have e1' : v1 = .int .i64 z := by simpa using e1
      obtain ⟨t, e2, -, -⟩ := DataW.trod_string Try.underlying9 g2
      have e2' : v2 = .string t := by simpa using e2
      obtain ⟨name, vo, vl, vc, e5, e7⟩ := open_op (cs := [v4, v5, v6, v7]) (by simpa using g4)
      have e5' : v5 = .string name := by simpa using e5
      have e7' : v7 = .slice vo vl vc := by simpa using e7
      obtain ⟨l, ho⟩ := open_opsA (v := v8) (by simpa using g5)
      exact ⟨(z, t), name, vo, vl, vc, v8, l, by simp [e1'], by simp [e2'], by simp [e5'], by simp [e7'], by simp, ho⟩

set_option maxRecDepth 100000 in
theorem open_acts {r : Reach} {b0 : Nat} {v : Value} {d : DataW H} {p : List MemPlace} (hv : Value.okWide Try.prog W r b0 22 v) (h : DataW.Trod enc Try.prog W 0 (fun _ => true) true 22 v d p) : ∃ al, ActsAt W v al := by
  obtain ⟨a0, len, cap, rfl⟩ := okWide_slice Try.underlying22 hv
  obtain ⟨fuel, hf⟩ := h
  rcases Go.Deep.open_slice Try.underlying22 hf with ⟨e, -⟩ | ⟨a, l, c, m, n, D, Pl, e, -, hl, hm, hmm, -, hc⟩
  · have e' : Value.slice a0 len cap = .slice none 0 0 := by simpa [Value.cells] using e
    rw [e']
    exact ⟨[], none, 0, rfl, by decide, fun h => absurd h (by decide)⟩
  · have e' : Value.slice a0 len cap = .slice (some a) l c := by simpa [Value.cells] using e
    rw [e']
    have hm' : l ≤ m := by simp at hmm; omega
    have each : ∀ i, i < l → ∃ q : Int × ByteArray, W.cell? (a.add (i * 9 + 1)) = some (.int .i64 q.1) ∧ W.cell? (a.add (i * 9 + 2)) = some (.string q.2) ∧ (∃ (name : ByteArray) (vo : Option Addr) (vl vc : Nat), W.cell? (a.add (i * 9 + 5)) = some (.string name) ∧ W.cell? (a.add (i * 9 + 7)) = some (.slice vo vl vc)) ∧ (∃ ov k, W.cell? (a.add (i * 9 + 8)) = some ov ∧ OpsAt W ov k) ∧ ∃ u, W.cell? (a.add (i * 9 + 0)) = some u := fun i hi => by
      obtain ⟨cs, h1, h2⟩ := hc i (by omega)
      rw [Try.cellsAct] at h1
      obtain ⟨-, hlen, hcell⟩ := World.cells?_some h1
      obtain ⟨q, name, vo, vl, vc, ov, k, e1, e2, e5, e7, e8, ho⟩ := open_act h2
      have cc : ∀ j u, j < 9 → cs[j]? = some u → W.cell? (a.add (i * 9 + j)) = some u := fun j u hj hu => by
        have := hcell j hj
        rw [Go.Deep.add_add, hu] at this
        exact this
      exact ⟨q, cc 1 _ (by decide) e1, cc 2 _ (by decide) e2, ⟨name, vo, vl, vc, cc 5 _ (by decide) e5, cc 7 _ (by decide) e7⟩, ⟨ov, k, cc 8 _ (by decide) e8, ho⟩, _, cc 0 _ (by decide) (List.getElem?_eq_getElem (by omega))⟩
    obtain ⟨q, hq⟩ := Go.Deep.choose_lt each
    have hlen : ((List.range l).map q).length = l := by simp
    refine ⟨(List.range l).map q, some a, c, by rw [hlen], by rw [hlen]; unfold maxLen at hm; omega, fun h0 => ?_⟩
    rw [hlen] at h0
    obtain ⟨-, -, -, -, u, c0⟩ := hq 0 h0
    obtain ⟨b, off, rfl, hlt⟩ := spot_none (by simpa using c0)
    refine ⟨b, off, rfl, hlt, fun i p hp => ?_⟩
    obtain ⟨hi, e⟩ := List.getElem?_eq_some_iff.1 hp
    rw [hlen] at hi
    have ep : p = q i := by simpa using e.symm
    obtain ⟨c1, c2, ⟨name, vo, vl, vc, c5, c7⟩, ⟨ov, k, c8, ho⟩, -⟩ := hq i hi
    rw [Go.WideShapes.add_plain] at c1 c2 c5 c7 c8
    rw [ep]
    exact ⟨by rw [Nat.add_assoc]; exact c1, by rw [Nat.add_assoc]; exact c2, ⟨name, vo, vl, vc, by rw [show off + i * 9 + 4 + 1 = off + (i * 9 + 5) by omega]; exact c5, by rw [show off + i * 9 + 4 + 3 = off + (i * 9 + 7) by omega]; exact c7⟩, ov, k, by rw [Nat.add_assoc]; exact c8, ho⟩
end

end Go.Proofs.Ytjgodhfnnifchaa
