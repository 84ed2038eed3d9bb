/- Rows of whole numbers that came in, in a struct: as they read. -/
import Derived.Test.YtdedolkgcdlmeaaGreatDoorOpens
import Derived.Test.YtdedolkgcdlmeaaGreatDoorLatJ
import Derived.Deep.SlicePairs
namespace Go.Proofs.YtdedolkgcdlmeaaGreatDoor
open Go.ChangeShapes Go.WideShapes Go.ChangeAt Go.RowKit Go.Joins Limbs

theorem Tryz.cellsGens : Tryz.prog.cellsOf 53 = 2 := by kernel_rfl
theorem Tryz.cellsIntS : Tryz.prog.cellsOf 38 = 1 := by kernel_rfl
theorem Tryz.cellsInt : Tryz.prog.cellsOf 3 = 1 := by kernel_rfl

set_option maxRecDepth 100000 in
theorem open_rowS {H : Type} {enc : TypeId × Value → H} {W : World} {n : Nat} {v : Value} {y : DataW H × List MemPlace}
    (h : DataW.trod enc Tryz.prog W 0 (fun _ => true) true n 38 [v] = some y) : ∃ ks, RowS W v ks := by
  rcases open_ints Tryz.underlying38 Tryz.underlying3 Tryz.cellsInt h with ⟨hcs, _⟩ | ⟨x, l, c, zs, hcs, _, hl, hm, hz, _, hcell, hwz⟩
  · simp only [List.cons.injEq, and_true] at hcs
    subst hcs
    exact ⟨[], none, 0, rfl, Nat.le_refl _, fun i => by simp, fun h => absurd h (by simp)⟩
  · simp only [List.cons.injEq, and_true] at hcs
    subst hcs
    have hz' : zs.length = c := by simpa using hz
    have hlen : (zs.take l).length = l := by rw [List.length_take]; omega
    refine ⟨zs.take l, some x, c, by rw [hlen], by rw [hlen]; exact hl, fun i => ?_, fun h0 => ?_⟩
    · by_cases hi : i < (zs.take l).length
      · rw [List.getD_eq_getElem?_getD, List.getElem?_eq_getElem hi, Option.getD_some]
        have := hwz _ (List.mem_of_mem_take (List.getElem_mem hi))
        simp [Lit.wf, IntKind.min, IntKind.max, IntKind.signed, IntKind.bits] at this
        rw [List.getElem_take]
        omega
      · rw [List.getD_eq_getElem?_getD, List.getElem?_eq_none (by omega)]
        simp
    · obtain ⟨blk, off, spot⟩ := x
      rw [hlen] at h0
      have h00 := hcell 0 (by omega)
      have hspot : spot = none := by simpa [Addr.add] using World.cell?_spot h00
      subst hspot
      refine ⟨blk, off, rfl, World.block_lt_of_cell? W _ h00, fun i hi => ?_⟩
      rw [hlen] at hi
      have := hcell i (by omega)
      rw [getD_take zs l i (by omega)]
      by_cases hi0 : i = 0
      · subst hi0; simpa [Addr.add] using this
      · simpa [Addr.add, hi0] using this

set_option maxRecDepth 100000 in
theorem open_gens {H : Type} {enc : TypeId × Value → H} {W : World} {r : Reach} {b0 : Nat} {v : Value} {d : DataW H} {p : List MemPlace}
    (hv : Value.okWide Tryz.prog W r b0 53 v) (h : DataW.Trod enc Tryz.prog W 0 (fun _ => true) true 53 v d p) :
    ∃ nI go gcap rs, v = .agg #[.int .i64 nI, .slice go rs.length gcap] ∧ RowsS W (.slice go rs.length gcap) rs := by
  obtain ⟨c0, c1, y0, y1, m, rfl, rfl, rfl, hy0, hy1⟩ := open_agg2 Tryz.underlying53 (by kernel_rfl) Tryz.cellsGens hv h
  obtain ⟨nI, e0, -, -⟩ := DataW.trod_int Tryz.underlying3 hy0
  simp only [List.cons.injEq, and_true] at e0
  subst e0
  rcases Go.Deep.open_slice1 Tryz.underlying51 Tryz.cellsIntS hy1 with ⟨hcs, _⟩ | ⟨a, l, c, m, n, V, D, Pl, hcs, _, hl, hm, hmm, _, hc⟩
  · simp only [List.cons.injEq, and_true] at hcs
    subst hcs
    exact ⟨nI, none, 0, [], rfl, none, 0, rfl, by simp, fun h => absurd h (by simp)⟩
  · simp only [List.cons.injEq, and_true] at hcs
    subst hcs
    have hm' : l ≤ m := by simp at hmm; omega
    have each : ∀ i, i < l → ∃ ks : List Int, RowS W (V i) ks := fun i hi => open_rowS (hc i (by omega)).2
    obtain ⟨q, hq⟩ := Go.Deep.choose_lt each
    have hlen : ((List.range l).map q).length = l := by simp
    refine ⟨nI, some a, c, (List.range l).map q, by rw [hlen], some a, c, rfl, by rw [hlen]; exact hl, fun h0 => ?_⟩
    rw [hlen] at h0
    obtain ⟨k0, -⟩ := hc 0 (by omega)
    obtain ⟨blk, off, spot⟩ := a
    have hsp : spot = none := by simpa [Addr.add] using World.cell?_spot k0
    subst hsp
    refine ⟨blk, off, rfl, by simpa [Addr.add] using World.block_lt_of_cell? W _ k0, fun i rs hi => ?_⟩
    obtain ⟨hi', e⟩ := List.getElem?_eq_some_iff.1 hi
    rw [hlen] at hi'
    have e' : rs = q i := by simpa using e.symm
    obtain ⟨c0, -⟩ := hc i (by omega)
    rw [Go.WideShapes.add_plain] at c0
    rw [e']
    exact ⟨_, c0, hq i hi'⟩

end Go.Proofs.YtdedolkgcdlmeaaGreatDoor
