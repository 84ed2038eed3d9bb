/- A vector that came in, as it reads. -/
import Derived.Test.YtklhmnejmbgmjacDoorOpens
import Derived.Test.YtklhmnejmbgmjacDoorVecB
import Derived.Deep.SlicePairs
namespace Go.Proofs.YtklhmnejmbgmjacDoor
open Go.ChangeShapes Go.WideShapes Go.ChangeAt Go.RowKit Go.Joins Limbs

theorem Tryd.cellsSl : Tryd.prog.cellsOf 22 = 1 := by kernel_rfl
theorem Tryd.cellsBool : Tryd.prog.cellsOf 4 = 1 := by kernel_rfl

/-- What is known of one of a vector's numbers that came in. -/
def CameR (W : World) (r : Raw) : Prop :=
  (∃ o cap, r.s = .slice o r.zs.length cap) ∧ r.zs.length ≤ 9223372036854775807 ∧ (r.zs.length ≤ 1000000 → Lim W r.s r.zs)

/-- What is known of a vector that came in. -/
def VecC (W : World) (v : Value) (rs : List Raw) : Prop :=
  ∃ ao cap, v = .slice ao rs.length cap ∧ rs.length ≤ cap ∧ rs.length ≤ 9223372036854775807 ∧
    (0 < rs.length → ∃ b off, ao = some ⟨b, off, none⟩ ∧ b < W.heap.size ∧ ∀ i r, rs[i]? = some r → W.cell? ⟨b, off + i * 2, none⟩ = some (.bool r.neg) ∧ W.cell? ⟨b, off + i * 2 + 1, none⟩ = some r.s ∧ CameR W r)

instance : Inhabited Raw := ⟨⟨false, .bool false, []⟩⟩

theorem open_limbs {H : Type} {enc : TypeId × Value → H} {W : World} {n : Nat} {v : Value} {y : DataW H × List MemPlace}
    (h : DataW.trod enc Tryd.prog W 0 (fun _ => true) true n 22 [v] = some y) (neg : Bool) : ∃ r : Raw, r.neg = neg ∧ r.s = v ∧ CameR W r := by
  rcases open_ints Tryd.underlying22 Tryd.underlying77 Tryd.cellsU32 h with ⟨hcs, _⟩ | ⟨x, l, c, zs, hcs, _, hl, hm, hz, _, hcell, hwz⟩
  · simp only [List.cons.injEq, and_true] at hcs
    subst hcs
    exact ⟨⟨neg, .slice none 0 0, []⟩, rfl, rfl, ⟨none, 0, rfl⟩, by simp, fun _ => ⟨none, 0, rfl, Nat.le_refl _, by simp, LB_nil, fun h => absurd h (by simp)⟩⟩
  · simp only [List.cons.injEq, and_true] at hcs
    subst hcs
    have hz' : zs.length = c := by simpa using hz
    have hlen : (zs.take l).length = l := by rw [List.length_take]; omega
    refine ⟨⟨neg, .slice (some x) l c, zs.take l⟩, rfl, rfl, ⟨some x, c, by simp only [hlen]⟩, by simp only [hlen]; unfold maxLen at hm; omega, fun hs => ⟨some x, c, by simp only [hlen], by simp only [hlen]; exact hl, hs, LB_take (LB_mem fun z hzz => ?_) l, fun h0 => ?_⟩⟩
    · have := hwz z hzz
      simp [Lit.wf, IntKind.min, IntKind.max, IntKind.signed, IntKind.bits] at this
      omega
    · obtain ⟨blk, off, spot⟩ := x
      simp only [hlen] at h0 ⊢
      have h00 := hcell 0 (by omega)
      have hspot : spot = none := by simpa [Addr.add] using World.cell?_spot h00
      subst hspot
      refine ⟨blk, off, rfl, World.block_lt_of_cell? W _ h00, fun i hi => ?_⟩
      have := hcell i (by omega)
      rw [getD_take zs l i (by omega)]
      by_cases hi0 : i = 0
      · subst hi0; simpa [Addr.add] using this
      · simpa [Addr.add, hi0] using this

set_option maxRecDepth 100000 in
theorem open_vec {H : Type} {enc : TypeId × Value → H} {W : World} {r : Reach} {b0 : Nat} {v : Value} {d : DataW H} {p : List MemPlace}
    (hv : Value.okWide Tryd.prog W r b0 26 v) (h : DataW.Trod enc Tryd.prog W 0 (fun _ => true) true 26 v d p) :
    ∃ rs, VecC W v rs := by
  obtain ⟨a0, len, cap, rfl⟩ := okWide_slice Tryd.underlying26 hv
  obtain ⟨fuel, hf⟩ := h
  rcases Go.Deep.open_slice_pairs Tryd.underlying26 Tryd.underlying24 Tryd.cellsNum rfl rfl Tryd.cellsBool Tryd.cellsSl hf with ⟨hcs, _⟩ | ⟨a, l, c, m, n, V0, V1, D0, D1, P0, P1, hcs, _, hl, hm, hmm, _, hc⟩
  · simp [Value.cells] at hcs
    obtain ⟨rfl, rfl, rfl⟩ := hcs
    exact ⟨[], none, 0, rfl, by simp, by simp, fun h => absurd h (by simp)⟩
  · simp [Value.cells] at hcs
    obtain ⟨rfl, rfl, rfl⟩ := hcs
    have hm' : len ≤ m := by simp at hmm; omega
    have each : ∀ i, i < len → ∃ r : Raw, V0 i = .bool r.neg ∧ V1 i = r.s ∧ CameR W r := fun i hi => by
      obtain ⟨-, -, h0, h1⟩ := hc i (by omega)
      obtain ⟨b, e0, -⟩ := DataW.trod_bool Tryd.underlying4 h0
      obtain ⟨r, e1, e2, e3⟩ := open_limbs h1 b
      simp only [List.cons.injEq, and_true] at e0
      exact ⟨r, by rw [e0, e1], e2.symm, e3⟩
    obtain ⟨q, hq⟩ := Go.Deep.choose_lt each
    have hlen : ((List.range len).map q).length = len := by simp
    refine ⟨(List.range len).map q, some a, cap, by rw [hlen], by rw [hlen]; exact hl, by rw [hlen]; unfold maxLen at hm; omega, fun h0 => ?_⟩
    rw [hlen] at h0
    obtain ⟨k0, -, -, -⟩ := hc 0 (by omega)
    obtain ⟨blk, off, spot⟩ := a
    have hsp : spot = none := by simpa [Addr.add] using World.cell?_spot k0
    subst hsp
    refine ⟨blk, off, rfl, by simpa [Addr.add] using World.block_lt_of_cell? W _ k0, fun i r hi => ?_⟩
    obtain ⟨hi', e⟩ := List.getElem?_eq_some_iff.1 hi
    rw [hlen] at hi'
    have e' : r = q i := by simpa using e.symm
    obtain ⟨c0, c1, -, -⟩ := hc i (by omega)
    obtain ⟨q0, q1, q2⟩ := hq i hi'
    rw [Go.WideShapes.add_plain, q0] at c0
    rw [Go.WideShapes.add_plain, q1] at c1
    rw [e']
    exact ⟨c0, c1, q2⟩

/-- A light one is one that may be read whole. -/
theorem VecC.light {W : World} {v : Value} {rs : List Raw} (h : VecC W v rs) (hl : ∀ r ∈ rs, r.zs.length ≤ 1000000) : VecL W v rs := by
  obtain ⟨ao, cap, hv, h1, -, h2⟩ := h
  refine ⟨ao, cap, hv, h1, fun h0 => ?_⟩
  obtain ⟨b, off, e, hlt, hc⟩ := h2 h0
  refine ⟨b, off, e, hlt, fun i r hi => ?_⟩
  obtain ⟨h3, h4, h5⟩ := hc i r hi
  exact ⟨h3, h4, h5.2.2 (hl r (List.mem_of_getElem? hi))⟩

end Go.Proofs.YtklhmnejmbgmjacDoor
