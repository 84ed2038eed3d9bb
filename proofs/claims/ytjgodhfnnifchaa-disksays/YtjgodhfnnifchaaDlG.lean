/- A sector is kept. -/
import Derived.Test.YtjgodhfnnifchaaDlF
namespace Go.Proofs.Ytjgodhfnnifchaa
open Go.RowKit

def spinD1 : Dsk := putD (newD 3) 1 ⟨#[120, 121]⟩
def spinD2 : Dsk := flushD spinD1
def spinD3 : Dsk := { spinD2.settled 0 with left := -1, down := false }

theorem spin_put : putErr (newD 3) 1 ⟨#[120, 121]⟩ = .nilIface := by kernel_rfl
theorem spin_flush : stepErr spinD1 = .nilIface := by kernel_rfl
theorem spin_len1 : spinD1.secs.length = 3 := by kernel_rfl
theorem spin_len2 : spinD2.secs.length = 3 := by kernel_rfl
theorem spin_len3 : spinD3.secs.length = 3 := by kernel_rfl
theorem spin_read : readS spinD3 1 = padded [120, 121] := by kernel_rfl
theorem spin_readE : spinD3.readErr 1 = .nilIface := by kernel_rfl

set_option linter.unusedSimpArgs false in
set_option maxRecDepth 100000 in
set_option maxHeartbeats 1600000 in
theorem spins_ok (w : World) : Calls Try.prog 7 #[] w fun e w' => e = .returned (.bool true) ∧ Below w.heap.size w w' := by
  go_enter Try.func7, Try.ntmps7
  go_wp2_with fail
  refine (new_ok w 3 (by decide) (by decide)).mono ?_
  rintro e w1 ⟨rfl, h1, hb1⟩
  have H1 := hide h1; have HB1 := hide hb1
  clear h1 hb1
  go_wp2_with fail
  refine (put_any w1 w.heap.size w.heap.size (newD 3) 3 0 1 ⟨#[120, 121]⟩ H1.out (newD_well 3) (by decide) (by decide) (by decide) HB1.out.size).mono ?_
  rintro e w2 ⟨rfl, h2, hk2⟩
  rw [spin_put]
  have H2 : Hid (DiskO w2 w.heap.size w.heap.size spinD1) := h2
  have HK2 := hide hk2
  clear h2 hk2
  go_wp2_with fail
  refine (flush_any w2 w.heap.size w.heap.size spinD1 H2.out (by rw [spin_len1]; decide)).mono ?_
  rintro e w3 ⟨rfl, h3, hk3⟩
  rw [spin_flush]
  have H3 : Hid (DiskO w3 w.heap.size w.heap.size spinD2) := h3
  have HK3 := hide (HK2.out.trans hk3)
  clear h3 hk3 H2
  go_wp2_with fail
  refine (restart_any w3 w.heap.size w.heap.size spinD2 0 H3.out (by rw [spin_len2]; decide)).mono ?_
  rintro e w4 ⟨rfl, h4, hk4⟩
  have H4 : Hid (DiskO w4 w.heap.size w.heap.size spinD3) := h4
  have HK4 := hide (HK3.out.trans hk4)
  clear h4 hk4 H3
  go_wp2_with fail
  refine (read_any w4 w.heap.size w.heap.size spinD3 1 H4.out (by rw [spin_len3]; decide)).mono ?_
  rintro e w5 ⟨rfl, hb5⟩
  rw [spin_read, spin_readE]
  have H5 := hide (DiskO.later H4.out hb5)
  have HK5 := hide (HK4.out.trans (Kept.of_below hb5))
  have HB5 : Hid (Below w.heap.size w w5) := by
    have hb := HK5.out.below HB1.out.size
    have h1 := HB1.out
    exact ⟨hb.os.trans h1.os, hb.tape.trans h1.tape, hb.output.trans h1.output, Nat.le_trans h1.size hb.size, fun b hlt => (hb.block b hlt).trans (h1.block b hlt)⟩
  clear hb5 H4 HK5 HK4 HK3 HK2 HB1 H1
  go_wp2_with fail
  refine (same_nil w5).mono ?_
  rintro e w6 ⟨rfl, hw⟩
  subst w6
  go_wp2_with fail
  refine (same_nil w5).mono ?_
  rintro e w6 ⟨rfl, hw⟩
  subst w6
  go_wp2_with fail
  refine (same_nil w5).mono ?_
  rintro e w6 ⟨rfl, hw⟩
  subst w6
  have g1 : (padded [120, 121]).length = 64 := rfl
  have g2 : (({ data := (padded [120, 121]).toArray } : ByteArray).extract 0 2).toList = [120, 121] := by kernel_rfl
  go_wp2_with fail
  refine (sectors_any w5 w.heap.size w.heap.size spinD3 H5.out).mono ?_
  rintro e w6 ⟨rfl, hb6⟩
  rw [spin_len3]
  have HB6 : Hid (Below w.heap.size w w6) := by
    have h1 := HB5.out
    exact ⟨hb6.os.trans h1.os, hb6.tape.trans h1.tape, hb6.output.trans h1.output, Nat.le_trans h1.size hb6.size, fun b hlt => (hb6.block b (Nat.lt_of_lt_of_le hlt h1.size)).trans (h1.block b hlt)⟩
  clear hb6 HB5 H5
  go_wp2
  go_ret
  exact ⟨rfl, HB6.out⟩

end Go.Proofs.Ytjgodhfnnifchaa
