/- Acts that came in, with all their cells. -/
import Derived.Test.YtjgodhfnnifchaaOpenA
namespace Go.Proofs.Ytjgodhfnnifchaa
open Go.ChangeShapes Go.WideShapes Go.ChangeAt Go.RowKit Go.Joins

/-- An act: its kind, its number, its text, its bits; and its other cells. -/
structure ActC where
  kind : ByteArray
  a : Int
  s : ByteArray
  k : Int
  rest : List Value

instance : Inhabited ActC := ⟨⟨⟨#[]⟩, 0, ⟨#[]⟩, 0, []⟩⟩

def ActC.cells (p : ActC) : List Value := .string p.kind :: .int .i64 p.a :: .string p.s :: .int .u64 p.k :: p.rest

structure ActC.ok (p : ActC) : Prop where
  len : p.rest.length = 5
  one : ∀ v ∈ p.rest, v.oneCell' = true
  a : -9223372036854775808 ≤ p.a ∧ p.a ≤ 9223372036854775807
  k : 0 ≤ p.k ∧ p.k < 18446744073709551616

def ActsC (w : World) (v : Value) (bl : List ActC) : Prop :=
  ∃ ao cap, v = .slice ao bl.length cap ∧ bl.length ≤ cap ∧ (0 < bl.length → ∃ b off, ao = some ⟨b, off, none⟩ ∧ b < w.heap.size ∧ ∀ i p, bl[i]? = some p →
    p.ok ∧ ∀ j u, p.cells[j]? = some u → w.cell? ⟨b, off + i * 9 + j, none⟩ = some u)

theorem ActsC.below {C : Nat} {w w' : World} {v : Value} {bl : List ActC} (h : ActsC w v bl) (hb : Below C w w') (hC : w.heap.size ≤ C) : ActsC w' v bl := by
  obtain ⟨ao, cap, e, hn, h⟩ := h
  refine ⟨ao, cap, e, hn, fun h0 => ?_⟩
  obtain ⟨b, off, e, hlt, h⟩ := h h0
  refine ⟨b, off, e, Nat.lt_of_lt_of_le hlt hb.size, fun i p hp => ?_⟩
  obtain ⟨h1, h2⟩ := h i p hp
  exact ⟨h1, fun j u hu => (hb.cell (p := ⟨b, off + i * 9 + j, none⟩) (Nat.lt_of_lt_of_le hlt hC)).trans (h2 j u hu)⟩

theorem Try.cellsU : Try.prog.cellsOf 35 = 1 := by kernel_rfl

section
variable {H : Type} {enc : TypeId × Value → H} {W : World}

set_option maxRecDepth 100000 in
theorem open_opC {n : Nat} {cs : List Value} {y : DataW H × List MemPlace} (h : DataW.trod enc Try.prog W 0 (fun _ => true) true n 38 cs = some y) : cs.length = 4 ∧ ∀ v ∈ cs, v.oneCell' = true := by
  obtain ⟨xs, k, -, -, hl, hxl, hf⟩ := DataW.trod_struct Try.underlying38 h
  rw [Try.cellsOp] at hl
  match cs, hl with
  | [v0, v1, v2, v3], _ =>
    match xs, hxl with
    | [x0, x1, x2, x3], _ =>
      have g0 : DataW.trod enc Try.prog W 0 (fun _ => true) true k 3 (([v0, v1, v2, v3].drop 0).take (Try.prog.cellsOf 3)) = [x0, x1, x2, x3][0]? := hf 0 _ rfl
      have g1 : DataW.trod enc Try.prog W 0 (fun _ => true) true k 9 (([v0, v1, v2, v3].drop 1).take (Try.prog.cellsOf 9)) = [x0, x1, x2, x3][1]? := hf 1 _ rfl
      have g2 : DataW.trod enc Try.prog W 0 (fun _ => true) true k 3 (([v0, v1, v2, v3].drop 2).take (Try.prog.cellsOf 3)) = [x0, x1, x2, x3][2]? := hf 2 _ rfl
      have g3 : DataW.trod enc Try.prog W 0 (fun _ => true) true k 36 (([v0, v1, v2, v3].drop 3).take (Try.prog.cellsOf 36)) = [x0, x1, x2, x3][3]? := hf 3 _ rfl
      rw [Try.cellsI] at g0 g2
      rw [Try.cellsStr] at g1
      rw [Try.cellsIs] at g3
      obtain ⟨z0, e0, -, -⟩ := DataW.trod_int Try.underlying3 g0
      obtain ⟨s1, e1, -, -⟩ := DataW.trod_string Try.underlying9 g1
      obtain ⟨z2, e2, -, -⟩ := DataW.trod_int Try.underlying3 g2
      have e0' : v0 = .int .i64 z0 := by simpa using e0
      have e1' : v1 = .string s1 := by simpa using e1
      have e2' : v2 = .int .i64 z2 := by simpa using e2
      have e3' : ∃ so l c, v3 = .slice so l c := by
        rcases Go.Deep.open_slice Try.underlying36 g3 with ⟨e3, -⟩ | ⟨a, l, c, m, n, D, Pl, e3, -⟩
        · exact ⟨none, 0, 0, by simpa using e3⟩
        · exact ⟨some a, l, c, by simpa using e3⟩
      obtain ⟨so, l, c, e3'⟩ := e3'
      refine ⟨rfl, fun v hv => ?_⟩
      simp only [List.mem_cons, List.not_mem_nil, or_false] at hv
      rcases hv with rfl | rfl | rfl | rfl
      · rw [e0']; rfl
      · rw [e1']; rfl
      · rw [e2']; rfl
      · rw [e3']; rfl

set_option maxRecDepth 100000 in
theorem open_actC {n : Nat} {cs : List Value} {y : DataW H × List MemPlace} (h : DataW.trod enc Try.prog W 0 (fun _ => true) true n 41 cs = some y) : ∃ p : ActC, p.ok ∧ cs = p.cells := by
  obtain ⟨xs, k, -, -, hl, hxl, hf⟩ := DataW.trod_struct Try.underlying41 h
  rw [Try.cellsAct] at hl
  match cs, hl with
  | [v0, v1, v2, v3, v4, v5, v6, v7, v8], _ =>
    match xs, hxl with
    | [x0, x1, x2, x3, x4, x5], _ =>
      have g0 : DataW.trod enc Try.prog W 0 (fun _ => true) true k 9 (([v0, v1, v2, v3, v4, v5, v6, v7, v8].drop 0).take (Try.prog.cellsOf 9)) = [x0, x1, x2, x3, x4, x5][0]? := hf 0 _ rfl
      have g1 : DataW.trod enc Try.prog W 0 (fun _ => true) true k 3 (([v0, v1, v2, v3, v4, v5, v6, v7, v8].drop 1).take (Try.prog.cellsOf 3)) = [x0, x1, x2, x3, x4, x5][1]? := hf 1 _ rfl
      have g2 : DataW.trod enc Try.prog W 0 (fun _ => true) true k 9 (([v0, v1, v2, v3, v4, v5, v6, v7, v8].drop 2).take (Try.prog.cellsOf 9)) = [x0, x1, x2, x3, x4, x5][2]? := hf 2 _ rfl
      have g3 : DataW.trod enc Try.prog W 0 (fun _ => true) true k 35 (([v0, v1, v2, v3, v4, v5, v6, v7, v8].drop 3).take (Try.prog.cellsOf 35)) = [x0, x1, x2, x3, x4, x5][3]? := hf 3 _ rfl
      have g4 : DataW.trod enc Try.prog W 0 (fun _ => true) true k 38 (([v0, v1, v2, v3, v4, v5, v6, v7, v8].drop 4).take (Try.prog.cellsOf 38)) = [x0, x1, x2, x3, x4, x5][4]? := hf 4 _ rfl
      have g5 : DataW.trod enc Try.prog W 0 (fun _ => true) true k 39 (([v0, v1, v2, v3, v4, v5, v6, v7, v8].drop 8).take (Try.prog.cellsOf 39)) = [x0, x1, x2, x3, x4, x5][5]? := hf 5 _ rfl
      rw [Try.cellsStr] at g0 g2
      rw [Try.cellsI] at g1
      rw [Try.cellsU] at g3
      rw [Try.cellsOp] at g4
      rw [Try.cellsOps] at g5
      obtain ⟨s0, e0, -, -⟩ := DataW.trod_string Try.underlying9 g0
      obtain ⟨z1, e1, -, hw1⟩ := DataW.trod_int Try.underlying3 g1
      obtain ⟨s2, e2, -, -⟩ := DataW.trod_string Try.underlying9 g2
      obtain ⟨z3, e3, -, hw3⟩ := DataW.trod_int Try.underlying35 g3
      have e0' : v0 = .string s0 := by simpa using e0
      have e1' : v1 = .int .i64 z1 := by simpa using e1
      have e2' : v2 = .string s2 := by simpa using e2
      have e3' : v3 = .int .u64 z3 := by simpa using e3
      obtain ⟨-, h4⟩ := open_opC (cs := [v4, v5, v6, v7]) (by simpa using g4)
      have e5' : ∃ so l c, v8 = .slice so l c := by
        rcases Go.Deep.open_slice Try.underlying39 g5 with ⟨e5, -⟩ | ⟨a, l, c, m, n, D, Pl, e5, -⟩
        · exact ⟨none, 0, 0, by simpa using e5⟩
        · exact ⟨some a, l, c, by simpa using e5⟩
      obtain ⟨so, l, c, e5'⟩ := e5'
      refine ⟨⟨s0, z1, s2, z3, [v4, v5, v6, v7, v8]⟩, ⟨rfl, fun v hv => ?_, ?_, ?_⟩, by rw [e0', e1', e2', e3']; rfl⟩
      · have hv' : v ∈ [v4, v5, v6, v7] ∨ v = v8 := by
          simp only [List.mem_cons, List.not_mem_nil, or_false] at hv ⊢
          rcases hv with h | h | h | h | h <;> simp [h]
        rcases hv' with hv | rfl
        · exact h4 v hv
        · rw [e5']; rfl
      · simp [Lit.wf] at hw1
        exact ⟨hw1.1, hw1.2⟩
      · simp [Lit.wf] at hw3
        exact ⟨hw3.1, Int.lt_of_le_of_lt hw3.2 (by decide)⟩

set_option maxRecDepth 100000 in
theorem open_actsC {r : Reach} {b0 : Nat} {v : Value} {d : DataW H} {p : List MemPlace} (hv : Value.okWide Try.prog W r b0 22 v) (h : DataW.Trod enc Try.prog W 0 (fun _ => true) true 22 v d p) : ∃ bl, ActsC W v bl := by
  obtain ⟨a0, len, cap, rfl⟩ := okWide_slice Try.underlying22 hv
  obtain ⟨fuel, hf⟩ := h
  rcases Go.Deep.open_slice Try.underlying22 hf with ⟨e, -⟩ | ⟨a, l, c, m, n, D, Pl, e, -, hl, hm, hmm, -, hc⟩
  · have e' : Value.slice a0 len cap = .slice none 0 0 := by simpa [Value.cells] using e
    rw [e']
    exact ⟨[], none, 0, rfl, Nat.le_refl _, fun h => absurd h (by decide)⟩
  · have e' : Value.slice a0 len cap = .slice (some a) l c := by simpa [Value.cells] using e
    rw [e']
    have hm' : l ≤ m := by simp at hmm; omega
    have each : ∀ i, i < l → ∃ q : ActC, q.ok ∧ ∀ j u, q.cells[j]? = some u → W.cell? (a.add (i * 9 + j)) = some u := fun i hi => by
      obtain ⟨cs, h1, h2⟩ := hc i (by omega)
      rw [Try.cellsAct] at h1
      obtain ⟨-, hlen, hcell⟩ := World.cells?_some h1
      obtain ⟨q, hq, rfl⟩ := open_actC h2
      refine ⟨q, hq, fun j u hu => ?_⟩
      have hj := (List.getElem?_eq_some_iff.1 hu).1
      have := hcell j (by omega)
      rw [Go.Deep.add_add, hu] at this
      exact this
    obtain ⟨q, hq⟩ := Go.Deep.choose_lt each
    have hlen : ((List.range l).map q).length = l := by simp
    refine ⟨(List.range l).map q, some a, c, by rw [hlen], by rw [hlen]; omega, fun h0 => ?_⟩
    rw [hlen] at h0
    have c0 := (hq 0 h0).2 0 _ rfl
    obtain ⟨b, off, rfl, hlt⟩ := spot_none (by simpa using c0)
    refine ⟨b, off, rfl, hlt, fun i p hp => ?_⟩
    obtain ⟨hi, e⟩ := List.getElem?_eq_some_iff.1 hp
    rw [hlen] at hi
    have ep : p = q i := by simpa using e.symm
    subst ep
    refine ⟨(hq i hi).1, fun j u hu => ?_⟩
    have := (hq i hi).2 j u hu
    rw [Go.WideShapes.add_plain] at this
    rw [Nat.add_assoc]
    exact this
end

end Go.Proofs.Ytjgodhfnnifchaa
