/- A part of a row: so many times another number taken from it; that number given back. -/
import Derived.Test.YtdedolkgcdlmeaaGreatDoorShift
import Derived.Deep.AppendLies
import Derived.Deep.RegionWith
namespace Go.Proofs.YtdedolkgcdlmeaaGreatDoor
open Go.RowKit Limbs

theorem Row.far {w w' : World} {g h : Nat} {b : List Int} (hr : Row w h b) (hg : w.grownBy w' (some g)) (hne : h ≠ g) : Row w' h b := by
  obtain ⟨h1, h2, h3⟩ := hr
  refine ⟨Nat.lt_of_lt_of_le h1 hg.size, h2, fun j hj => ?_⟩
  obtain ⟨c1, c2⟩ := h3 j hj
  exact ⟨(hg.cell_far ⟨h, j, none⟩ h1 (by simp [hne])).trans c1, (hg.frozen_far ⟨h, j, none⟩ h1 (by simp [hne])).trans c2⟩

/-- So many limbs from a place on. -/
def seg (zs : List Int) (off k : Nat) : Int := lv ((zs.drop off).take k)

theorem seg_succ (zs : List Int) (off k : Nat) : seg zs off (k + 1) = seg zs off k + bp k * zs.getD (off + k) 0 := by
  unfold seg
  rw [lv_take_succ, getD_drop]

theorem seg_nonneg {zs : List Int} (h : LB zs) (off k : Nat) : 0 ≤ seg zs off k := lv_take_nonneg (LB_drop h off) k
theorem seg_lt {zs : List Int} (h : LB zs) (off k : Nat) : seg zs off k < bp k := lv_take_lt (LB_drop h off) k

theorem seg_set (zs : List Int) (off k : Nat) (z : Int) : seg (zs.set (off + k) z) off k = seg zs off k := by
  unfold seg
  rw [List.drop_set, if_neg (by omega), Nat.add_sub_cancel_left, take_set_ge _ _ _ _ (Nat.le_refl _)]

/-- Of a row, just the part from here to there is another one. -/
structure Only (zs ys : List Int) (off k : Nat) : Prop where
  len : ys.length = zs.length
  low : ys.take off = zs.take off
  high : ys.drop (off + k) = zs.drop (off + k)

theorem Only.refl (zs : List Int) (off k : Nat) : Only zs zs off k := ⟨rfl, rfl, rfl⟩

theorem Only.step {zs ys : List Int} {off k : Nat} (h : Only zs ys off k) (z : Int) : Only zs (ys.set (off + k) z) off (k + 1) where
  len := by rw [List.length_set]; exact h.len
  low := by rw [take_set_ge _ _ _ _ (by omega)]; exact h.low
  high := by
    rw [drop_set_lt _ _ _ _ (by omega)]
    have := congrArg (List.drop 1) h.high
    rwa [List.drop_drop, List.drop_drop] at this

theorem Only.at {zs ys : List Int} {off k : Nat} (h : Only zs ys off k) (i : Nat) (hi : off + k ≤ i) : ys.getD i 0 = zs.getD i 0 := by
  have e := congrArg (fun l => l.getD (i - (off + k)) 0) h.high
  simp only [getD_drop] at e
  rwa [show off + k + (i - (off + k)) = i by omega] at e

theorem Only.mono {zs ys : List Int} {off k : Nat} (h : Only zs ys off k) {m : Nat} (hm : k ≤ m) : Only zs ys off m where
  len := h.len
  low := h.low
  high := by
    have := congrArg (List.drop (m - k)) h.high
    rwa [List.drop_drop, List.drop_drop, show off + k + (m - k) = off + m by omega] at this

theorem Only.trans {zs ys xs : List Int} {off k : Nat} (h : Only zs ys off k) (g : Only ys xs off k) : Only zs xs off k := ⟨g.len.trans h.len, g.low.trans h.low, g.high.trans h.high⟩

/-- What a call leaves of a row of which it may change a part. -/
structure Part (w w' : World) (g : Nat) (zs ys : List Int) (off k : Nat) : Prop where
  row : Row w' g ys
  grown : w.grownBy w' (some g)
  only : Only zs ys off k

theorem Part.refl {w : World} {g : Nat} {zs : List Int} (h : Row w g zs) (off k : Nat) : Part w w g zs zs off k := ⟨h, World.grownBy.refl _ _, Only.refl _ _ _⟩

theorem Part.step {w wr : World} {g : Nat} {zs ys : List Int} {off k : Nat} (h : Part w wr g zs ys off k) (hk : off + k < zs.length) {z : Int} (hz : 0 ≤ z ∧ z < 4294967296) :
    Part w (wr.setCell ⟨g, off + k, none⟩ (.int .u32 z)) g zs (ys.set (off + k) z) off (k + 1) :=
  ⟨h.row.store (by rw [h.only.len]; exact hk) hz, grown_set h.grown _ _, h.only.step z⟩

theorem Part.mono {w wr : World} {g : Nat} {zs ys : List Int} {off k m : Nat} (h : Part w wr g zs ys off k) (hm : k ≤ m) : Part w wr g zs ys off m := ⟨h.row, h.grown, h.only.mono hm⟩

theorem Part.trans {w w1 w2 : World} {g : Nat} {zs ys xs : List Int} {off k : Nat} (h : Part w w1 g zs ys off k) (q : Part w1 w2 g ys xs off k) : Part w w2 g zs xs off k := ⟨q.row, h.grown.trans q.grown, h.only.trans q.only⟩

theorem Part.drewN {w wr : World} {g : Nat} {zs ys : List Int} {off k : Nat} (h : Part w wr g zs ys off k) (n : Nat) : Part w (wr.drewN n) g zs ys off k := ⟨h.row.drewN n, grown_drewN h.grown n, h.only⟩

theorem take_step {zs ys : List Int} {off k : Nat} {b : List Int} {T cy X s z : Int} (h : seg ys off k + T * lv (b.take k) = seg zs off k + bp k * cy) (hl : off + k < ys.length)
    (hX : X = cy + T * b.getD k 0) (hz : z = zs.getD (off + k) 0 - X % 4294967296 + 4294967296 * s) :
    seg (ys.set (off + k) z) off (k + 1) + T * lv (b.take (k + 1)) = seg zs off (k + 1) + bp (k + 1) * (X / 4294967296 + s) := by
  rw [seg_succ, seg_succ, seg_set, lv_take_succ, getD_set _ _ _ _ hl, if_pos rfl]
  have e1 : bp (k + 1) * (X / 4294967296 + s) = bp k * (4294967296 * (X / 4294967296) + 4294967296 * s) := by simp only [bp]; rw [Int.mul_comm 4294967296 (bp k), Int.mul_assoc, Int.mul_add]
  have e2 : bp k * z = bp k * (zs.getD (off + k) 0) + bp k * (4294967296 * s) - bp k * (X % 4294967296) := by rw [hz, ← Int.mul_add, ← Int.mul_sub]; congr 1; omega
  have e3 : bp k * X = bp k * cy + T * (bp k * b.getD k 0) := by rw [hX, Int.mul_add, Int.mul_left_comm]
  have e4 : bp k * (X % 4294967296 + 4294967296 * (X / 4294967296)) = bp k * X := by rw [Int.emod_add_mul_ediv]
  rw [Int.mul_add] at e4
  rw [e1, Int.mul_add, Int.mul_add]
  omega

theorem take_done {zs ys : List Int} {off : Nat} {b : List Int} {T cy s z : Int} (h : seg ys off b.length + T * lv (b.take b.length) = seg zs off b.length + bp b.length * cy) (hl : off + b.length < ys.length)
    (hz : z = zs.getD (off + b.length) 0 - cy + 4294967296 * s) :
    seg (ys.set (off + b.length) z) off (b.length + 1) + T * lv b = seg zs off (b.length + 1) + bp (b.length + 1) * s := by
  rw [List.take_length] at h
  rw [seg_succ, seg_succ, seg_set, getD_set _ _ _ _ hl, if_pos rfl]
  have e1 : bp (b.length + 1) * s = bp b.length * (4294967296 * s) := by simp only [bp]; rw [Int.mul_comm 4294967296 (bp b.length), Int.mul_assoc]
  have e2 : bp b.length * z = bp b.length * (zs.getD (off + b.length) 0) + bp b.length * (4294967296 * s) - bp b.length * cy := by rw [hz, ← Int.mul_add, ← Int.mul_sub]; congr 1; omega
  rw [e1]
  omega

/-- Taken: true just if it was too much. -/
def TakePost (w : World) (g : Nat) (zs : List Int) (off : Nat) (b : List Int) (T : Int) (e : Ending) (w' : World) : Prop :=
  ∃ (s : Bool) (ys : List Int), e = .returned (.bool s) ∧ Part w w' g zs ys off (b.length + 1) ∧
    seg ys off (b.length + 1) + T * lv b = seg zs off (b.length + 1) + (if s = true then bp (b.length + 1) else 0)

set_option maxRecDepth 100000 in
set_option maxHeartbeats 800000 in
theorem takeTimes_any (w : World) (g h cap bcap off : Nat) (zs b : List Int) (T : Int) (hr : Row w g zs) (hb : Row w h b) (hne : h ≠ g) (hoff : off + b.length + 1 ≤ zs.length) (hl : zs.length ≤ 1000000) (hT : 0 ≤ T ∧ T < 4294967296) :
    Calls Tryz.prog 158 #[.slice (some ⟨g, off, none⟩) (b.length + 1) cap, .slice (some ⟨h, 0, none⟩) b.length bcap, .int .u64 T] w fun e w' => TakePost w g zs off b T e w' := by
  have HB := hide hb
  have HR := hide hr
  have hlb := hr.2.1
  have hblb := hb.2.1
  clear hr hb
  go_enter Tryz.func158, Tryz.ntmps158
  go_wp2
  go_loopw [7, 13] (fun c i wr => ∃ (k : Nat) (cy : Int) (ys : List Int), k ≤ b.length ∧ i = .int .i64 k ∧ c = .int .u64 cy ∧ 0 ≤ cy ∧ cy < 4294967296 ∧ Part w wr g zs ys off k ∧ Hid (seg ys off k + T * lv (b.take k) = seg zs off k + bp k * cy)) (fun _ i _ => b.length - (intOf i).toNat)
  case atStart => exact ⟨0, 0, zs, Nat.zero_le _, rfl, rfl, by decide, by decide, Part.refl HR.out off 0, by show _ = _; simp [seg, lv]⟩
  case round =>
    obtain ⟨k, cy, ys, hk, rfl, rfl, hc0, hc1, hp, HV⟩ := hrel
    by_cases hlt : k < b.length
    · have hyl : off + k < ys.length := by rw [hp.only.len]; omega
      obtain ⟨hcell, hfr⟩ := hp.row.2.2 (off + k) hyl
      rw [hp.only.at (off + k) (Nat.le_refl _)] at hcell
      obtain ⟨hcb, -⟩ := (HB.out.far hp.grown hne).2.2 k hlt
      have hz := hlb (off + k)
      have hy := hblb k
      have hpr := mul_le_limbs hT hy
      have hst := fun z hz => hp.step (z := z) (show off + k < zs.length by omega) hz
      have hv := fun X s z hX hz => take_step (X := X) (s := s) (z := z) (T := T) HV.out hyl hX hz
      generalize zs.getD (off + k) 0 = a at *
      generalize b.getD k 0 = y at *
      generalize hXe : cy + T * y = X at *
      have hX0 : 0 ≤ X := by omega
      have hX1 : X ≤ 18446744069414584320 := by omega
      by_cases hs : a < X % 4294967296
      · have HS := hide (hst ((a - X) % 4294967296) (by omega))
        have HV' := hide (hv X 1 ((a - X) % 4294967296) rfl (by omega))
        clear hst hv
        go_wp2
        go_roundw
        case rel => exact ⟨k + 1, X / 4294967296 + 1, _, by omega, by go_num, rfl, by omega, by omega, HS.out, HV'.out⟩
        case measure => simp [intOf]; omega
      · have HS := hide (hst (a - X % 4294967296) (by omega))
        have HV' := hide (hv X 0 (a - X % 4294967296) rfl (by omega))
        rw [Int.add_zero] at HV'
        clear hst hv
        go_wp2
        go_roundw
        case rel => exact ⟨k + 1, X / 4294967296, _, by omega, by go_num, rfl, by omega, by omega, HS.out, HV'.out⟩
        case measure => simp [intOf]; omega
    · obtain rfl : k = b.length := by omega
      have hyl : off + b.length < ys.length := by rw [hp.only.len]; omega
      obtain ⟨hcell, hfr⟩ := hp.row.2.2 (off + b.length) hyl
      rw [hp.only.at (off + b.length) (Nat.le_refl _)] at hcell
      have hz := hlb (off + b.length)
      have hst := fun z hz => hp.step (z := z) (show off + b.length < zs.length by omega) hz
      have hv := fun s z hz => take_done (s := s) (z := z) (T := T) HV.out hyl hz
      generalize zs.getD (off + b.length) 0 = a at *
      by_cases hs : a < cy
      · have HS := hide (hst ((a - cy) % 4294967296) (by omega))
        have HV' := hide (hv 1 ((a - cy) % 4294967296) (by omega))
        rw [Int.mul_one] at HV'
        clear hst hv
        have hd : decide (a < cy) = true := decide_eq_true hs
        go_wp2
        go_ret
        exact ⟨true, _, rfl, HS.out, by rw [if_pos rfl]; exact HV'.out⟩
      · have HS := hide (hst (a - cy) (by omega))
        have HV' := hide (hv 0 (a - cy) (by omega))
        rw [Int.mul_zero] at HV'
        clear hst hv
        have hd : decide (a < cy) = false := decide_eq_false hs
        go_wp2
        go_ret
        exact ⟨false, _, rfl, HS.out, HV'.out⟩

theorem give_step {zs ys : List Int} {off k : Nat} {b : List Int} {cy X : Int} (h : seg ys off k + bp k * cy = seg zs off k + lv (b.take k)) (hl : off + k < ys.length)
    (hX : X = zs.getD (off + k) 0 + b.getD k 0 + cy) :
    seg (ys.set (off + k) (X % 4294967296)) off (k + 1) + bp (k + 1) * (X / 4294967296) = seg zs off (k + 1) + lv (b.take (k + 1)) := by
  rw [seg_succ, seg_succ, seg_set, lv_take_succ, getD_set _ _ _ _ hl, if_pos rfl]
  have e1 : bp (k + 1) * (X / 4294967296) = bp k * (4294967296 * (X / 4294967296)) := by simp only [bp]; rw [Int.mul_comm 4294967296 (bp k), Int.mul_assoc]
  have e3 : bp k * X = bp k * zs.getD (off + k) 0 + bp k * b.getD k 0 + bp k * cy := by rw [hX, Int.mul_add, Int.mul_add]
  have e4 : bp k * (X % 4294967296 + 4294967296 * (X / 4294967296)) = bp k * X := by rw [Int.emod_add_mul_ediv]
  rw [Int.mul_add] at e4
  rw [e1]
  omega

/-- Given back, modulo the part's limbs. -/
def GivePost (w : World) (g : Nat) (zs : List Int) (off : Nat) (b : List Int) (e : Ending) (w' : World) : Prop :=
  ∃ (c : Int) (ys : List Int), e = .returned (.tuple #[]) ∧ 0 ≤ c ∧ c ≤ 1 ∧ Part w w' g zs ys off (b.length + 1) ∧
    seg ys off (b.length + 1) + bp (b.length + 1) * c = seg zs off (b.length + 1) + lv b

set_option maxRecDepth 100000 in
set_option maxHeartbeats 800000 in
theorem giveBack_any (w : World) (g h cap bcap off : Nat) (zs b : List Int) (hr : Row w g zs) (hb : Row w h b) (hbc : b.length ≤ bcap) (hne : h ≠ g) (hoff : off + b.length + 1 ≤ zs.length) (hl : zs.length ≤ 1000000) :
    Calls Tryz.prog 159 #[.slice (some ⟨g, off, none⟩) (b.length + 1) cap, .slice (some ⟨h, 0, none⟩) b.length bcap] w fun e w' => GivePost w g zs off b e w' := by
  have HB := hide hb
  have HR := hide hr
  have hlb := hr.2.1
  have hblb := hb.2.1
  clear hr hb
  go_enter Tryz.func159, Tryz.ntmps159
  go_wp2
  go_loopw [4, 8] (fun c i wr => ∃ (k : Nat) (cy : Int) (ys : List Int), k ≤ b.length + 1 ∧ i = .int .i64 k ∧ c = .int .u32 cy ∧ 0 ≤ cy ∧ cy ≤ 1 ∧ Part w wr g zs ys off k ∧ Hid (seg ys off k + bp k * cy = seg zs off k + lv (b.take k))) (fun _ i _ => b.length + 1 - (intOf i).toNat)
  case atStart => exact ⟨0, 0, zs, Nat.zero_le _, rfl, rfl, by decide, by decide, Part.refl HR.out off 0, by show _ = _; simp [seg, lv]⟩
  case round =>
    obtain ⟨k, cy, ys, hk, rfl, rfl, hc0, hc1, hp, HV⟩ := hrel
    by_cases hlt : k < b.length + 1
    · have hyl : off + k < ys.length := by rw [hp.only.len]; omega
      obtain ⟨hcell, hfr⟩ := hp.row.2.2 (off + k) hyl
      rw [hp.only.at (off + k) (Nat.le_refl _)] at hcell
      have hlim := (HB.out.far hp.grown hne).lim bcap hbc (by omega)
      have hlb' := fun W (hW : Lim W (.slice (some ⟨h, 0, none⟩) b.length bcap) b) => limb_any W (.slice (some ⟨h, 0, none⟩) b.length bcap) b k hW (by omega) (by omega)
      rw [Int.toNat_natCast] at hlb'
      have hz := hlb (off + k)
      have hy := hblb k
      have hst := fun z hz => hp.step (z := z) (show off + k < zs.length by omega) hz
      have hv := fun X hX => give_step (X := X) HV.out hyl hX
      generalize zs.getD (off + k) 0 = a at *
      generalize b.getD k 0 = y at *
      have HS := hide (hst ((a + y + cy) % 4294967296) (by omega))
      have HV' := hide (hv (a + y + cy) rfl)
      clear hst hv
      go_wp2
      have hq0 : 0 ≤ (a + y + cy) / 4294967296 := by omega
      have hq1 : (a + y + cy) / 4294967296 ≤ 1 := by omega
      go_region_with (first | (go_at_call 146; refine (hlb' _ (by exact hlim)).mono ?_; rintro e w' ⟨rfl, rfl⟩) | (go_at_call 145; refine (add32 a y cy _ hz hy ⟨hc0, hc1⟩).mono ?_; rintro e w' ⟨rfl, rfl⟩))
      all_goals
        go_wp2
        go_roundw
        case rel => exact ⟨k + 1, _, _, by omega, by go_num, rfl, hq0, hq1, HS.out.drewN _, HV'.out⟩
        case measure => simp [intOf]; omega
    · obtain rfl : k = b.length + 1 := by omega
      rw [lv_take_ge b (by omega)] at HV
      go_wp2
      go_end0
      exact ⟨cy, ys, rfl, hc0, hc1, hp, HV.out⟩

end Go.Proofs.YtdedolkgcdlmeaaGreatDoor
