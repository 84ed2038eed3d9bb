/- A disk: a write is put to a sector: none of the same bit is there. -/
import Derived.Test.YtjgodhfnnifchaaDkF
import Derived.Deep.AppendLies
namespace Go.Proofs.Ytjgodhfnnifchaa
open Go.RowKit

set_option maxRecDepth 100000 in
set_option maxHeartbeats 1600000 in
theorem addC_any (w : World) (cs : List Value) (bit b2 : Int) (bb : Nat) (hc : w.cell? ⟨bb, 0, none⟩ = some (.int .u64 b2)) (hlt : bb < w.heap.size) :
    Calls Try.prog 50 #[.agg (.int .u64 bit :: cs).toArray, .pointer (some ⟨bb, 0, none⟩)] w fun e w' => e = .returned (.bool (bit == b2)) ∧ Below w.heap.size w w' := by
  have HB := hide ((Below.refl w.heap.size w).alloc (Nat.le_refl _) (.cells (.int .u64 bit :: cs).toArray 88))
  have c1 := (HB.out.cell (p := ⟨bb, 0, none⟩) hlt).trans hc
  have c2 : (w.alloc (.cells (.int .u64 bit :: cs).toArray 88)).cell? ⟨w.heap.size, 0, none⟩ = some (.int .u64 bit) := by rw [World.cell?_alloc_new]; rfl
  clear hc
  go_enter Try.func50, Try.ntmps50
  go_wp2
  go_ret
  exact ⟨rfl, HB.out⟩

theorem Try.sizeWrite : (Try.prog.info? 88).map (·.size) = some 65 := by kernel_rfl

/-- A write's cells, read. -/
theorem load_write (W : World) (base lg n cap : Nat) (loose : List (Int × List UInt8)) (hown : W.ownsRow base 88 65 (.slice (some ⟨lg, 0, none⟩) n cap) n (loose.flatMap wcells)) (hok : ∀ p ∈ loose, p.2.length = 64) (k : Nat) (p : Int × List UInt8) (hp : loose[k]? = some p) :
    (loadVar 88 ⟨lg, k * 65, none⟩).run Try.prog W = .ok (.agg (wcells p).toArray) W := by
  have hl : (wcells p).length = 65 := by simp [wcells, hok p (List.mem_of_getElem? hp)]
  refine run_loadA W 88 lg (k * 65) (wcells p) _ Try.underlying88 rfl (by rw [hl]; exact Try.sizeWrite) (fun j v hj => owns_cell hown _ _ ?_)
  have hj' := (List.getElem?_eq_some_iff.1 hj).1
  rw [wcells_at _ hok k p hp j (by omega)]
  exact hj

set_option linter.unusedSimpArgs false in
set_option maxRecDepth 100000 in
set_option maxHeartbeats 1600000 in
theorem indexNone (w : World) (base : Nat) (v : Value) (loose : List (Int × List UInt8)) (bit : Int) (bb : Nat) (hown : w.ownsRow base 88 65 v loose.length (loose.flatMap wcells)) (hok : ∀ p ∈ loose, p.2.length = 64) (hno : ∀ p ∈ loose, p.1 ≠ bit) (hc : w.cell? ⟨bb, 0, none⟩ = some (.int .u64 bit)) (hlt : bb < w.heap.size) :
    Calls Try.prog 59 #[v, .func (.func 50) #[] #[.pointer (some ⟨bb, 0, none⟩)]] w fun e w' => e = .returned (.int .i64 (-1)) ∧ Below w.heap.size w w' := by
  have HO := hide hown; have HOK := hide hok; have HNO := hide hno; have HC := hide hc
  have hvs : ∃ vo vcap, v = .slice vo loose.length vcap ∧ loose.length ≤ 9223372036854775807 := by
    rcases hown.2 with ⟨rfl, e⟩ | ⟨lg, lcap, cur, rfl, -, -, h1, h2, -⟩
    · exact ⟨none, 0, by rw [e], by rw [e]; decide⟩
    · exact ⟨_, _, rfl, by unfold maxLen at h2; exact Nat.le_trans h1 h2⟩
  obtain ⟨vo, vcap, rfl, hlm⟩ := hvs
  clear hown hok hno hc
  go_enter Try.func59, Try.ntmps59
  go_wp2
  go_loopw [8] (fun x wr => ∃ k : Nat, k ≤ loose.length ∧ x = .int .i64 k ∧ Hid (Below w.heap.size w wr)) (fun x _ => loose.length - (intOf x).toNat)
  case atStart => exact ⟨0, Nat.zero_le _, rfl, hide (Below.refl _ _)⟩
  case round =>
    obtain ⟨k, hk, rfl, HB⟩ := hrel
    by_cases hkl : k < loose.length
    · obtain ⟨lg, rfl⟩ : ∃ lg, vo = some ⟨lg, 0, none⟩ := by
        rcases HO.out.2 with ⟨-, e0⟩ | ⟨lg, lcap, cur, e, -⟩
        · omega
        · simp only [Value.slice.injEq] at e
          exact ⟨lg, e.1⟩
      have HLD := hide (load_write wr base lg _ vcap loose (ownsLater HO.out HB.out) HOK.out k loose[k] (List.getElem?_eq_getElem hkl))
      have hne := HNO.out loose[k] (List.getElem_mem hkl)
      generalize loose[k] = p at *
      obtain ⟨b1, data⟩ := p
      have hbe : (b1 == bit) = false := beq_false_of_ne hne
      go_wp2_with (show wpList _ _ _ ({ dst := some 15, op := _, type := _, pos := _, after := _, guard := _ } :: _) _ _; refine wpList_loadA rfl 15 rfl (.tmp 14) 88 rfl ⟨lg, k * 65, none⟩ _ rfl HLD.out ?_)
      refine (addC_any wr (data.map byteC) b1 bit bb ((HB.out.cell (p := ⟨bb, 0, none⟩) hlt).trans HC.out) (Nat.lt_of_lt_of_le hlt HB.out.size)).mono ?_
      rintro e w2 ⟨rfl, hb2⟩
      rw [hbe]
      have HB2 := hide (HB.out.trans (hb2.mono HB.out.size))
      clear hb2 HLD hbe hne HB
      go_wp2
      go_roundw
      case rel => exact ⟨k + 1, by omega, by go_num, HB2⟩
      case measure => simp [intOf]; omega
    · obtain rfl : k = loose.length := by omega
      go_wp2
      go_ret
      exact ⟨rfl, HB.out⟩

set_option maxRecDepth 100000 in
set_option maxHeartbeats 1600000 in
theorem deleteNone (w : World) (base : Nat) (v : Value) (loose : List (Int × List UInt8)) (bit : Int) (bb : Nat) (hown : w.ownsRow base 88 65 v loose.length (loose.flatMap wcells)) (hok : ∀ p ∈ loose, p.2.length = 64) (hno : ∀ p ∈ loose, p.1 ≠ bit) (hc : w.cell? ⟨bb, 0, none⟩ = some (.int .u64 bit)) (hlt : bb < w.heap.size) :
    Calls Try.prog 49 #[v, .func (.func 50) #[] #[.pointer (some ⟨bb, 0, none⟩)]] w fun e w' => e = .returned v ∧ Below w.heap.size w w' := by
  have HI := hide (indexNone w base v loose bit bb hown hok hno hc hlt)
  obtain ⟨vo, vl, vcap, rfl⟩ : ∃ vo vl vcap, v = .slice vo vl vcap := by
    rcases hown.2 with ⟨rfl, -⟩ | ⟨lg, lcap, cur, rfl, -⟩
    · exact ⟨_, _, _, rfl⟩
    · exact ⟨_, _, _, rfl⟩
  clear hown hok hno hc
  go_enter Try.func49, Try.ntmps49
  go_wp2_with fail
  refine HI.out.mono ?_
  rintro e w1 ⟨rfl, hb1⟩
  have HB := hide hb1
  clear hb1 HI
  go_wp2
  go_ret
  exact ⟨rfl, HB.out⟩

end Go.Proofs.Ytjgodhfnnifchaa
