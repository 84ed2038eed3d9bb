/- A vector that came in, as it reads. -/
import Derived.Test.YtdedolkgcdlmeaaGreatDoorOpens
import Derived.Test.YtdedolkgcdlmeaaGreatDoorVecB
import Derived.Deep.SlicePairs
namespace Go.Proofs.YtdedolkgcdlmeaaGreatDoor
open Go.ChangeShapes Go.WideShapes Go.ChangeAt Go.RowKit Go.Joins Limbs

theorem Tryz.cellsSl : Tryz.prog.cellsOf 27 = 1 := by kernel_rfl
theorem Tryz.cellsBool : Tryz.prog.cellsOf 4 = 1 := by kernel_rfl

/-- What is known of one of a vector's numbers that came in. -/
def CameR (W : World) (r : Raw) : Prop :=
  (∃ o cap, r.s = .slice o r.zs.length cap) ∧ r.zs.length ≤ 9223372036854775807 ∧ (r.zs.length ≤ 1000000 → Lim W r.s r.zs)

/-- What is known of a vector that came in. -/
def VecC (W : World) (v : Value) (rs : List Raw) : Prop :=
  ∃ ao cap, v = .slice ao rs.length cap ∧ rs.length ≤ cap ∧ rs.length ≤ 9223372036854775807 ∧
    (0 < rs.length → ∃ b off, ao = some ⟨b, off, none⟩ ∧ b < W.heap.size ∧ ∀ i r, rs[i]? = some r → W.cell? ⟨b, off + i * 2, none⟩ = some (.bool r.neg) ∧ W.cell? ⟨b, off + i * 2 + 1, none⟩ = some r.s ∧ CameR W r)

instance : Inhabited Raw := ⟨⟨false, .bool false, []⟩⟩

/-- A light one is one that may be read whole. -/
theorem VecC.light {W : World} {v : Value} {rs : List Raw} (h : VecC W v rs) (hl : ∀ r ∈ rs, r.zs.length ≤ 1000000) : VecL W v rs := by
  obtain ⟨ao, cap, hv, h1, -, h2⟩ := h
  refine ⟨ao, cap, hv, h1, fun h0 => ?_⟩
  obtain ⟨b, off, e, hlt, hc⟩ := h2 h0
  refine ⟨b, off, e, hlt, fun i r hi => ?_⟩
  obtain ⟨h3, h4, h5⟩ := hc i r hi
  exact ⟨h3, h4, h5.2.2 (hl r (List.mem_of_getElem? hi))⟩

end Go.Proofs.YtdedolkgcdlmeaaGreatDoor
