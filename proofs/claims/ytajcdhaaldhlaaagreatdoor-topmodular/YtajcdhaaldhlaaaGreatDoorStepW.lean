/- A part of a row: so many times another number taken from it; that number given back. -/
import Derived.Test.YtajcdhaaldhlaaaGreatDoorShift
import Derived.Deep.AppendLies
import Derived.Deep.RegionWith

namespace Go.Proofs.YtajcdhaaldhlaaaGreatDoor
open Go.RowKit Limbs

theorem Row.far {w w' : World} {g h : Nat} {b : List Int} (hr : Row w h b) (hg : w.grownBy w' (some g)) (hne : h ≠ g) : Row w' h b := by
 obtain ⟨h1, h2, h3⟩ := hr
 refine ⟨Nat.lt_of_lt_of_le h1 hg.size, h2, fun j hj => ?_⟩
 obtain ⟨c1, c2⟩ := h3 j hj
 exact ⟨(hg.cell_far ⟨h, j, none⟩ h1 (by simp [hne])).trans c1, (hg.frozen_far ⟨h, j, none⟩ h1 (by simp [hne])).trans c2⟩

def seg (zs : List Int) (off k : Nat) : Int := lv ((zs.drop off).take k)

theorem seg_succ (zs : List Int) (off k : Nat) : seg zs off (k + 1) = seg zs off k + bp k * zs.getD (off + k) 0 := by
 unfold seg
 rw [lv_take_succ, getD_drop]

theorem seg_nonneg {zs : List Int} (h : LB zs) (off k : Nat) : 0 ≤ seg zs off k := lv_take_nonneg (LB_drop h off) k
theorem seg_lt {zs : List Int} (h : LB zs) (off k : Nat) : seg zs off k < bp k := lv_take_lt (LB_drop h off) k

theorem seg_set (zs : List Int) (off k : Nat) (z : Int) : seg (zs.set (off + k) z) off k = seg zs off k := by
 unfold seg
 rw [List.drop_set, if_neg (by omega), Nat.add_sub_cancel_left, take_set_ge _ _ _ _ (Nat.le_refl _)]

structure Only (zs ys : List Int) (off k : Nat) : Prop where
 len : ys.length = zs.length
 low : ys.take off = zs.take off
 high : ys.drop (off + k) = zs.drop (off + k)

theorem Only.refl (zs : List Int) (off k : Nat) : Only zs zs off k := ⟨rfl, rfl, rfl⟩

theorem Only.step {zs ys : List Int} {off k : Nat} (h : Only zs ys off k) (z : Int) : Only zs (ys.set (off + k) z) off (k + 1) where
 len := by rw [List.length_set]; exact h.len
 low := by rw [take_set_ge _ _ _ _ (by omega)]; exact h.low
 high := by
  rw [drop_set_lt _ _ _ _ (by omega)]
  have := congrArg (List.drop 1) h.high
  rwa [List.drop_drop, List.drop_drop] at this

theorem Only.at {zs ys : List Int} {off k : Nat} (h : Only zs ys off k) (i : Nat) (hi : off + k ≤ i) : ys.getD i 0 = zs.getD i 0 := by
 have e := congrArg (fun l => l.getD (i - (off + k)) 0) h.high
 simp only [getD_drop] at e
 rwa [show off + k + (i - (off + k)) = i by omega] at e

theorem Only.mono {zs ys : List Int} {off k : Nat} (h : Only zs ys off k) {m : Nat} (hm : k ≤ m) : Only zs ys off m where
 len := h.len
 low := h.low
 high := by
  have := congrArg (List.drop (m - k)) h.high
  rwa [List.drop_drop, List.drop_drop, show off + k + (m - k) = off + m by omega] at this

theorem Only.trans {zs ys xs : List Int} {off k : Nat} (h : Only zs ys off k) (g : Only ys xs off k) : Only zs xs off k := ⟨g.len.trans h.len, g.low.trans h.low, g.high.trans h.high⟩

structure Part (w w' : World) (g : Nat) (zs ys : List Int) (off k : Nat) : Prop where
 row : Row w' g ys
 grown : w.grownBy w' (some g)
 only : Only zs ys off k

theorem Part.refl {w : World} {g : Nat} {zs : List Int} (h : Row w g zs) (off k : Nat) : Part w w g zs zs off k := ⟨h, World.grownBy.refl _ _, Only.refl _ _ _⟩

theorem Part.step {w wr : World} {g : Nat} {zs ys : List Int} {off k : Nat} (h : Part w wr g zs ys off k) (hk : off + k < zs.length) {z : Int} (hz : 0 ≤ z ∧ z < 4294967296) :
  Part w (wr.setCell ⟨g, off + k, none⟩ (.int .u32 z)) g zs (ys.set (off + k) z) off (k + 1) :=
 ⟨h.row.store (by rw [h.only.len]; exact hk) hz, grown_set h.grown _ _, h.only.step z⟩

theorem Part.mono {w wr : World} {g : Nat} {zs ys : List Int} {off k m : Nat} (h : Part w wr g zs ys off k) (hm : k ≤ m) : Part w wr g zs ys off m := ⟨h.row, h.grown, h.only.mono hm⟩

theorem Part.trans {w w1 w2 : World} {g : Nat} {zs ys xs : List Int} {off k : Nat} (h : Part w w1 g zs ys off k) (q : Part w1 w2 g ys xs off k) : Part w w2 g zs xs off k := ⟨q.row, h.grown.trans q.grown, h.only.trans q.only⟩

theorem Part.drewN {w wr : World} {g : Nat} {zs ys : List Int} {off k : Nat} (h : Part w wr g zs ys off k) (n : Nat) : Part w (wr.drewN n) g zs ys off k := ⟨h.row.drewN n, grown_drewN h.grown n, h.only⟩

theorem take_step {zs ys : List Int} {off k : Nat} {b : List Int} {T cy X s z : Int} (h : seg ys off k + T * lv (b.take k) = seg zs off k + bp k * cy) (hl : off + k < ys.length)
  (hX : X = cy + T * b.getD k 0) (hz : z = zs.getD (off + k) 0 - X % 4294967296 + 4294967296 * s) :
  seg (ys.set (off + k) z) off (k + 1) + T * lv (b.take (k + 1)) = seg zs off (k + 1) + bp (k + 1) * (X / 4294967296 + s) := by
 rw [seg_succ, seg_succ, seg_set, lv_take_succ, getD_set _ _ _ _ hl, if_pos rfl]
 have e1 : bp (k + 1) * (X / 4294967296 + s) = bp k * (4294967296 * (X / 4294967296) + 4294967296 * s) := by simp only [bp]; rw [Int.mul_comm 4294967296 (bp k), Int.mul_assoc, Int.mul_add]
 have e2 : bp k * z = bp k * (zs.getD (off + k) 0) + bp k * (4294967296 * s) - bp k * (X % 4294967296) := by rw [hz, ← Int.mul_add, ← Int.mul_sub]; congr 1; omega
 have e3 : bp k * X = bp k * cy + T * (bp k * b.getD k 0) := by rw [hX, Int.mul_add, Int.mul_left_comm]
 have e4 : bp k * (X % 4294967296 + 4294967296 * (X / 4294967296)) = bp k * X := by rw [Int.emod_add_mul_ediv]
 rw [Int.mul_add] at e4
 rw [e1, Int.mul_add, Int.mul_add]
 omega

theorem take_done {zs ys : List Int} {off : Nat} {b : List Int} {T cy s z : Int} (h : seg ys off b.length + T * lv (b.take b.length) = seg zs off b.length + bp b.length * cy) (hl : off + b.length < ys.length)
  (hz : z = zs.getD (off + b.length) 0 - cy + 4294967296 * s) :
  seg (ys.set (off + b.length) z) off (b.length + 1) + T * lv b = seg zs off (b.length + 1) + bp (b.length + 1) * s := by
 rw [List.take_length] at h
 rw [seg_succ, seg_succ, seg_set, getD_set _ _ _ _ hl, if_pos rfl]
 have e1 : bp (b.length + 1) * s = bp b.length * (4294967296 * s) := by simp only [bp]; rw [Int.mul_comm 4294967296 (bp b.length), Int.mul_assoc]
 have e2 : bp b.length * z = bp b.length * (zs.getD (off + b.length) 0) + bp b.length * (4294967296 * s) - bp b.length * cy := by rw [hz, ← Int.mul_add, ← Int.mul_sub]; congr 1; omega
 rw [e1]
 omega

def TakePost (w : World) (g : Nat) (zs : List Int) (off : Nat) (b : List Int) (T : Int) (e : Ending) (w' : World) : Prop :=
 ∃ (s : Bool) (ys : List Int), e = .returned (.bool s) ∧ Part w w' g zs ys off (b.length + 1) ∧
  seg ys off (b.length + 1) + T * lv b = seg zs off (b.length + 1) + (if s = true then bp (b.length + 1) else 0)

set_option maxRecDepth 100000 in
set_option maxHeartbeats 800000 in
theorem takeTimes_any (w : World) (g h cap bcap off : Nat) (zs b : List Int) (T : Int) (hr : Row w g zs) (hb : Row w h b) (hne : h ≠ g) (hoff : off + b.length + 1 ≤ zs.length) (hl : zs.length ≤ 1000000) (hT : 0 ≤ T ∧ T < 4294967296) :
  Calls Tryz.prog 110 #[.slice (some ⟨g, off, none⟩) (b.length + 1) cap, .slice (some ⟨h, 0, none⟩) b.length bcap, .int .u64 T] w fun e w' => TakePost w g zs off b T e w' := by
 have HB := hide hb
 have HR := hide hr
 have hlb := hr.2.1
 have hblb := hb.2.1
 clear hr hb
 go_enter Tryz.func110, Tryz.ntmps110
 go_wp2
 go_loopw [7, 13] (fun c i wr => ∃ (k : Nat) (cy : Int) (ys : List Int), k ≤ b.length ∧ i = .int .i64 k ∧ c = .int .u64 cy ∧ 0 ≤ cy ∧ cy < 4294967296 ∧ Part w wr g zs ys off k ∧ Hid (seg ys off k + T * lv (b.take k) = seg zs off k + bp k * cy)) (fun _ i _ => b.length - (intOf i).toNat)
 case atStart => exact ⟨0, 0, zs, Nat.zero_le _, rfl, rfl, by decide, by decide, Part.refl HR.out off 0, by show _ = _; simp [seg, lv]⟩
 case round =>
  obtain ⟨k, cy, ys, hk, rfl, rfl, hc0, hc1, hp, HV⟩ := hrel
  by_cases hlt : k < b.length
  ·have hyl : off + k < ys.length := by rw [hp.only.len]; omega
   obtain ⟨hcell, hfr⟩ := hp.row.2.2 (off + k) hyl
   rw [hp.only.at (off + k) (Nat.le_refl _)] at hcell
   obtain ⟨hcb, -⟩ := (HB.out.far hp.grown hne).2.2 k hlt
   have hz := hlb (off + k)
   have hy := hblb k
   have hpr := mul_le_limbs hT hy
   have hst := fun z hz => hp.step (z := z) (show off + k < zs.length by omega) hz
   have hv := fun X s z hX hz => take_step (X := X) (s := s) (z := z) (T := T) HV.out hyl hX hz
   generalize zs.getD (off + k) 0 = a at *
   generalize b.getD k 0 = y at *
   generalize hXe : cy + T * y = X at *
   have hX0 : 0 ≤ X := by omega
   have hX1 : X ≤ 18446744069414584320 := by omega
   by_cases hs : a < X % 4294967296
   ·have HS := hide (hst ((a - X) % 4294967296) (by omega))
    have HV' := hide (hv X 1 ((a - X) % 4294967296) rfl (by omega))
    clear hst hv
    go_wp2
    go_roundw
    case rel => exact ⟨k + 1, X / 4294967296 + 1, _, by omega, by go_num, rfl, by omega, by omega, HS.out, HV'.out⟩
    case measure => simp [intOf]; omega
   ·have HS := hide (hst (a - X % 4294967296) (by omega))
    have HV' := hide (hv X 0 (a - X % 4294967296) rfl (by omega))
    rw [Int.add_zero] at HV'
    clear hst hv
    go_wp2
    go_roundw
    case rel => exact ⟨k + 1, X / 4294967296, _, by omega, by go_num, rfl, by omega, by omega, HS.out, HV'.out⟩
    case measure => simp [intOf]; omega
  ·obtain rfl : k = b.length := by omega
   have hyl : off + b.length < ys.length := by rw [hp.only.len]; omega
   obtain ⟨hcell, hfr⟩ := hp.row.2.2 (off + b.length) hyl
   rw [hp.only.at (off + b.length) (Nat.le_refl _)] at hcell
   have hz := hlb (off + b.length)
   have hst := fun z hz => hp.step (z := z) (show off + b.length < zs.length by omega) hz
   have hv := fun s z hz => take_done (s := s) (z := z) (T := T) HV.out hyl hz
   generalize zs.getD (off + b.length) 0 = a at *
   by_cases hs : a < cy
   ·have HS := hide (hst ((a - cy) % 4294967296) (by omega))
    have HV' := hide (hv 1 ((a - cy) % 4294967296) (by omega))
    rw [Int.mul_one] at HV'
    clear hst hv
    have hd : decide (a < cy) = true := decide_eq_true hs
    go_wp2
    go_ret
    exact ⟨true, _, rfl, HS.out, by rw [if_pos rfl]; exact HV'.out⟩
   ·have HS := hide (hst (a - cy) (by omega))
    have HV' := hide (hv 0 (a - cy) (by omega))
    rw [Int.mul_zero] at HV'
    clear hst hv
    have hd : decide (a < cy) = false := decide_eq_false hs
    go_wp2
    go_ret
    exact ⟨false, _, rfl, HS.out, HV'.out⟩

theorem give_step {zs ys : List Int} {off k : Nat} {b : List Int} {cy X : Int} (h : seg ys off k + bp k * cy = seg zs off k + lv (b.take k)) (hl : off + k < ys.length)
  (hX : X = zs.getD (off + k) 0 + b.getD k 0 + cy) :
  seg (ys.set (off + k) (X % 4294967296)) off (k + 1) + bp (k + 1) * (X / 4294967296) = seg zs off (k + 1) + lv (b.take (k + 1)) := by
 rw [seg_succ, seg_succ, seg_set, lv_take_succ, getD_set _ _ _ _ hl, if_pos rfl]
 have e1 : bp (k + 1) * (X / 4294967296) = bp k * (4294967296 * (X / 4294967296)) := by simp only [bp]; rw [Int.mul_comm 4294967296 (bp k), Int.mul_assoc]
 have e3 : bp k * X = bp k * zs.getD (off + k) 0 + bp k * b.getD k 0 + bp k * cy := by rw [hX, Int.mul_add, Int.mul_add]
 have e4 : bp k * (X % 4294967296 + 4294967296 * (X / 4294967296)) = bp k * X := by rw [Int.emod_add_mul_ediv]
 rw [Int.mul_add] at e4
 rw [e1]
 omega

def GivePost (w : World) (g : Nat) (zs : List Int) (off : Nat) (b : List Int) (e : Ending) (w' : World) : Prop :=
 ∃ (c : Int) (ys : List Int), e = .returned (.tuple #[]) ∧ 0 ≤ c ∧ c ≤ 1 ∧ Part w w' g zs ys off (b.length + 1) ∧
  seg ys off (b.length + 1) + bp (b.length + 1) * c = seg zs off (b.length + 1) + lv b

set_option maxRecDepth 100000 in
set_option maxHeartbeats 800000 in
theorem giveBack_any (w : World) (g h cap bcap off : Nat) (zs b : List Int) (hr : Row w g zs) (hb : Row w h b) (hbc : b.length ≤ bcap) (hne : h ≠ g) (hoff : off + b.length + 1 ≤ zs.length) (hl : zs.length ≤ 1000000) :
  Calls Tryz.prog 111 #[.slice (some ⟨g, off, none⟩) (b.length + 1) cap, .slice (some ⟨h, 0, none⟩) b.length bcap] w fun e w' => GivePost w g zs off b e w' := by
 have HB := hide hb
 have HR := hide hr
 have hlb := hr.2.1
 have hblb := hb.2.1
 clear hr hb
 go_enter Tryz.func111, Tryz.ntmps111
 go_wp2
 go_loopw [4, 8] (fun c i wr => ∃ (k : Nat) (cy : Int) (ys : List Int), k ≤ b.length + 1 ∧ i = .int .i64 k ∧ c = .int .u32 cy ∧ 0 ≤ cy ∧ cy ≤ 1 ∧ Part w wr g zs ys off k ∧ Hid (seg ys off k + bp k * cy = seg zs off k + lv (b.take k))) (fun _ i _ => b.length + 1 - (intOf i).toNat)
 case atStart => exact ⟨0, 0, zs, Nat.zero_le _, rfl, rfl, by decide, by decide, Part.refl HR.out off 0, by show _ = _; simp [seg, lv]⟩
 case round =>
  obtain ⟨k, cy, ys, hk, rfl, rfl, hc0, hc1, hp, HV⟩ := hrel
  by_cases hlt : k < b.length + 1
  ·have hyl : off + k < ys.length := by rw [hp.only.len]; omega
   obtain ⟨hcell, hfr⟩ := hp.row.2.2 (off + k) hyl
   rw [hp.only.at (off + k) (Nat.le_refl _)] at hcell
   have hlim := (HB.out.far hp.grown hne).lim bcap hbc (by omega)
   have hlb' := fun W (hW : Lim W (.slice (some ⟨h, 0, none⟩) b.length bcap) b) => limb_any W (.slice (some ⟨h, 0, none⟩) b.length bcap) b k hW (by omega) (by omega)
   rw [Int.toNat_natCast] at hlb'
   have hz := hlb (off + k)
   have hy := hblb k
   have hst := fun z hz => hp.step (z := z) (show off + k < zs.length by omega) hz
   have hv := fun X hX => give_step (X := X) HV.out hyl hX
   generalize zs.getD (off + k) 0 = a at *
   generalize b.getD k 0 = y at *
   have HS := hide (hst ((a + y + cy) % 4294967296) (by omega))
   have HV' := hide (hv (a + y + cy) rfl)
   clear hst hv
   go_wp2
   have hq0 : 0 ≤ (a + y + cy) / 4294967296 := by omega
   have hq1 : (a + y + cy) / 4294967296 ≤ 1 := by omega
   go_region_with (first | (go_at_call 85; refine (hlb' _ (by exact hlim)).mono ?_; rintro e w' ⟨rfl, rfl⟩) | (go_at_call 84; refine (add32 a y cy _ hz hy ⟨hc0, hc1⟩).mono ?_; rintro e w' ⟨rfl, rfl⟩))
   all_goals
    go_wp2
    go_roundw
    case rel => exact ⟨k + 1, _, _, by omega, by go_num, rfl, hq0, hq1, HS.out.drewN _, HV'.out⟩
    case measure => simp [intOf]; omega
  ·obtain rfl : k = b.length + 1 := by omega
   rw [lv_take_ge b (by omega)] at HV
   go_wp2
   go_end0
   exact ⟨cy, ys, rfl, hc0, hc1, hp, HV.out⟩

end Go.Proofs.YtajcdhaaldhlaaaGreatDoor

/- One step of a division of limbs. -/
namespace Go.Proofs.YtajcdhaaldhlaaaGreatDoor
open Go.RowKit Limbs

structure Tops (A V p la lb a0 a1 a2 hi nx : Int) : Prop where
 ea : A = la + p * (a2 + 4294967296 * (a0 * 4294967296 + a1))
 ev : V = lb + p * (nx + 4294967296 * hi)
 p0 : 0 < p
 la0 : 0 ≤ la
 la1 : la < p
 lb0 : 0 ≤ lb
 lb1 : lb < p
 ra0 : 0 ≤ a0 ∧ a0 < 4294967296
 ra1 : 0 ≤ a1 ∧ a1 < 4294967296
 ra2 : 0 ≤ a2 ∧ a2 < 4294967296
 rhi : 1 ≤ hi ∧ hi < 4294967296
 rnx : 0 ≤ nx ∧ nx < 4294967296

theorem Tops.vpos {A V p la lb a0 a1 a2 hi nx : Int} (h : Tops A V p la lb a0 a1 a2 hi nx) : 4294967296 * p ≤ V := by
 obtain ⟨ea, ev, p0, la0, la1, lb0, lb1, ra0, ra1, ra2, rhi, rnx⟩ := h
 have : p * 4294967296 ≤ p * (nx + 4294967296 * hi) := Int.mul_le_mul_of_nonneg_left (by omega) (by omega)
 omega

theorem Tops.first {A V p la lb a0 a1 a2 hi nx : Int} (h : Tops A V p la lb a0 a1 a2 hi nx) (hlt : A < V * 4294967296) : a0 ≤ hi := by
 obtain ⟨ea, ev, p0, la0, la1, lb0, lb1, ra0, ra1, ra2, rhi, rnx⟩ := h
 have h1 : p * (a2 + 4294967296 * (a0 * 4294967296 + a1)) < p * ((nx + 4294967296 * hi + 1) * 4294967296) := by
  have e : p * ((nx + 4294967296 * hi + 1) * 4294967296) = (p * (nx + 4294967296 * hi) + p) * 4294967296 := by rw [← Int.mul_assoc, Int.mul_add p _ 1, Int.mul_one]
  rw [e]
  generalize p * (nx + 4294967296 * hi) = X at *
  generalize p * (a2 + 4294967296 * (a0 * 4294967296 + a1)) = Y at *
  omega
 have h2 := Int.lt_of_mul_lt_mul_left h1 (by omega)
 omega

theorem Tops.above {A V p la lb a0 a1 a2 hi nx : Int} (h : Tops A V p la lb a0 a1 a2 hi nx) {G : Int} (hG : 0 ≤ G) (hle : a2 + 4294967296 * (a0 * 4294967296 + a1) + 1 ≤ G * (nx + 4294967296 * hi)) : A < G * V := by
 obtain ⟨ea, ev, p0, la0, la1, lb0, lb1, ra0, ra1, ra2, rhi, rnx⟩ := h
 have h1 : p * (a2 + 4294967296 * (a0 * 4294967296 + a1) + 1) ≤ p * (G * (nx + 4294967296 * hi)) := Int.mul_le_mul_of_nonneg_left hle (by omega)
 have h2 : 0 ≤ G * lb := Int.mul_nonneg hG lb0
 have e : G * V = G * lb + p * (G * (nx + 4294967296 * hi)) := by rw [ev, Int.mul_add, Int.mul_left_comm]
 rw [Int.mul_add, Int.mul_one] at h1
 omega

theorem Tops.start {A V p la lb a0 a1 a2 hi nx : Int} (h : Tops A V p la lb a0 a1 a2 hi nx) : A < ((a0 * 4294967296 + a1) / hi + 1) * V := by
 have h' := h
 obtain ⟨ea, ev, p0, la0, la1, lb0, lb1, ra0, ra1, ra2, rhi, rnx⟩ := h'
 have q0 : 0 ≤ (a0 * 4294967296 + a1) / hi := Int.ediv_nonneg (by omega) (by omega)
 have d := Int.mul_ediv_add_emod (a0 * 4294967296 + a1) hi
 have m1 := Int.emod_lt_of_pos (a0 * 4294967296 + a1) (show 0 < hi by omega)
 refine h.above (by omega) ?_
 generalize (a0 * 4294967296 + a1) / hi = q at *
 have e : (q + 1) * (nx + 4294967296 * hi) = (q + 1) * nx + 4294967296 * (hi * q + hi) := by rw [Int.mul_add, Int.mul_left_comm (q + 1), Int.mul_comm (q + 1) hi, Int.mul_add hi, Int.mul_one]
 have n0 : 0 ≤ (q + 1) * nx := Int.mul_nonneg (by omega) rnx.1
 rw [e]
 generalize hi * q = z at *
 omega

theorem Tops.less {A V p la lb a0 a1 a2 hi nx : Int} (h : Tops A V p la lb a0 a1 a2 hi nx) {G R : Int} (hG : 0 ≤ G) (hR : G * hi + R = a0 * 4294967296 + a1) (hgt : R * 4294967296 + a2 < G * nx) : A < G * V := by
 refine h.above hG ?_
 have e : G * (nx + 4294967296 * hi) = G * nx + 4294967296 * (G * hi) := by rw [Int.mul_add, Int.mul_left_comm]
 rw [e, ← hR]
 omega

theorem Tops.stop {A V p la lb a0 a1 a2 hi nx : Int} (h : Tops A V p la lb a0 a1 a2 hi nx) {G R : Int} (hG : 0 ≤ G ∧ G < 4294967296) (hR : G * hi + R = a0 * 4294967296 + a1) (hle : G * nx ≤ R * 4294967296 + a2) : G * V < A + V := by
 have hv := h.vpos
 obtain ⟨ea, ev, p0, la0, la1, lb0, lb1, ra0, ra1, ra2, rhi, rnx⟩ := h
 have e : G * (nx + 4294967296 * hi) = G * nx + 4294967296 * (G * hi) := by rw [Int.mul_add, Int.mul_left_comm]
 have h1 : p * (G * (nx + 4294967296 * hi)) ≤ p * (a2 + 4294967296 * (a0 * 4294967296 + a1)) := Int.mul_le_mul_of_nonneg_left (by rw [e, ← hR]; omega) (by omega)
 have e2 : G * V = G * lb + p * (G * (nx + 4294967296 * hi)) := by rw [ev, Int.mul_add, Int.mul_left_comm]
 have h2 : G * lb ≤ 4294967295 * lb := Int.mul_le_mul_of_nonneg_right (by omega) lb0
 omega

theorem Tops.stop_far {A V p la lb a0 a1 a2 hi nx : Int} (h : Tops A V p la lb a0 a1 a2 hi nx) (hlt : A < V * 4294967296) {G R : Int} (hG : 0 ≤ G) (hR : G * hi + R = a0 * 4294967296 + a1) (hfar : 4294967296 ≤ R) : G < 4294967296 ∧ G * nx ≤ R * 4294967296 + a2 := by
 have hf := h.first hlt
 obtain ⟨ea, ev, p0, la0, la1, lb0, lb1, ra0, ra1, ra2, rhi, rnx⟩ := h
 have hg : G < 4294967296 := by
  rcases Int.lt_or_le G 4294967296 with h | h
  ·exact h
  ·have : 4294967296 * hi ≤ G * hi := Int.mul_le_mul_of_nonneg_right h (by omega)
   omega
 have h1 : G * nx ≤ 4294967295 * 4294967295 := Int.mul_le_mul (by omega) (by omega) rnx.1 (by decide)
 exact ⟨hg, by omega⟩

theorem tops_of {zs b : List Int} {off m : Nat} (hz : LB zs) (hb : LB b) (hm : b.length = m + 2) (ht : b.getD (m + 1) 0 ≠ 0) :
  Tops (seg zs off (b.length + 1)) (lv b) (bp m) (seg zs off m) (lv (b.take m)) (zs.getD (off + (m + 2)) 0) (zs.getD (off + (m + 1)) 0) (zs.getD (off + m) 0) (b.getD (m + 1) 0) (b.getD m 0) where
 ea := by
  rw [hm, seg_succ, seg_succ, seg_succ]
  simp only [bp, Int.mul_add]
  have e1 : 4294967296 * (4294967296 * bp m) * zs.getD (off + (m + 2)) 0 = bp m * (4294967296 * (zs.getD (off + (m + 2)) 0 * 4294967296)) := by ac_rfl
  have e2 : 4294967296 * bp m * zs.getD (off + (m + 1)) 0 = bp m * (4294967296 * zs.getD (off + (m + 1)) 0) := by ac_rfl
  rw [e1, e2]
  omega
 ev := by
  have e : lv b = lv (b.take (m + 2)) := by rw [lv_take_ge b (by omega)]
  rw [e, lv_take_succ, lv_take_succ]
  simp only [bp, Int.mul_add]
  have e2 : 4294967296 * bp m * b.getD (m + 1) 0 = bp m * (4294967296 * b.getD (m + 1) 0) := by ac_rfl
  rw [e2]
  omega
 p0 := bp_pos m
 la0 := seg_nonneg hz off m
 la1 := seg_lt hz off m
 lb0 := lv_take_nonneg hb m
 lb1 := lv_take_lt hb m
 ra0 := hz _
 ra1 := hz _
 ra2 := hz _
 rhi := by have := hb (m + 1); omega
 rnx := hb _

end Go.Proofs.YtajcdhaaldhlaaaGreatDoor

/- One step of a division of limbs, walked. -/
namespace Go.Proofs.YtajcdhaaldhlaaaGreatDoor
open Go.RowKit Limbs

def StepPost (w : World) (g : Nat) (zs : List Int) (off : Nat) (b : List Int) (e : Ending) (w' : World) : Prop :=
 ∃ (q : Int) (ys : List Int), e = .returned (.int .u32 q) ∧ 0 ≤ q ∧ q < 4294967296 ∧ Part w w' g zs ys off (b.length + 1) ∧
  seg zs off (b.length + 1) = q * lv b + seg ys off (b.length + 1) ∧ seg ys off (b.length + 1) < lv b

theorem prod_small {G nx : Int} (hG : 0 ≤ G ∧ G < 4294967296) (hn : 0 ≤ nx ∧ nx < 4294967296) : 0 ≤ G * nx ∧ G * nx < 18446744073709551616 := by
 have := mul_le_limbs hG hn
 omega

theorem Part.of_drewN {w w' : World} {n g : Nat} {zs ys : List Int} {off k : Nat} (h : Part (w.drewN n) w' g zs ys off k) : Part w w' g zs ys off k :=
 ⟨h.row, (grown_drewN (World.grownBy.refl w (some g)) n).trans h.grown, h.only⟩

theorem step_same {A V G S : Int} (hv : S + G * V = A) (hu : A < (G + 1) * V) : A = G * V + S ∧ S < V := by
 rw [Int.add_mul, Int.one_mul] at hu
 omega

theorem step_less {A V G S P S2 c : Int} (hv : S + G * V = A + P) (hS : S < P) (hx : G * V < A + V) (hv2 : S2 + P * c = S + V) (hS2 : S2 < P) (hc0 : 0 ≤ c) (hc1 : c ≤ 1) (hA : 0 ≤ A) (hV : 0 < V ∧ V < P) :
  1 ≤ G ∧ A = (G - 1) * V + S2 ∧ S2 < V := by
 have hg : 1 ≤ G := by
  rcases Int.lt_or_le G 1 with h | h
  ·have : G * V ≤ 0 * V := Int.mul_le_mul_of_nonneg_right (by omega) (by omega)
   omega
  ·exact h
 rw [Int.sub_mul, Int.one_mul]
 rcases (by omega : c = 0 ∨ c = 1) with rfl | rfl
 ·omega
 ·rw [Int.mul_one] at hv2
  exact ⟨hg, by omega, by omega⟩

set_option maxRecDepth 100000 in
set_option maxHeartbeats 1600000 in
theorem divStep_any (w : World) (g h cap bcap off m : Nat) (zs b : List Int) (hr : Row w g zs) (hb : Row w h b) (hbc : b.length ≤ bcap) (hne : h ≠ g) (hoff : off + b.length + 1 ≤ zs.length) (hl : zs.length ≤ 1000000)
  (hm : b.length = m + 2) (ht : b.getD (m + 1) 0 ≠ 0) (hlt : seg zs off (b.length + 1) < lv b * 4294967296) :
  Calls Tryz.prog 82 #[.slice (some ⟨g, off, none⟩) (b.length + 1) cap, .slice (some ⟨h, 0, none⟩) b.length bcap] w fun e w' => StepPost w g zs off b e w' := by
 have HB := hide hb
 have HR := hide hr
 have hlb := hr.2.1
 have hT := tops_of (off := off) hr.2.1 hb.2.1 hm ht
 obtain ⟨c0, -⟩ := hr.2.2 (off + (m + 2)) (by omega)
 obtain ⟨c1, -⟩ := hr.2.2 (off + (m + 1)) (by omega)
 obtain ⟨c2, -⟩ := hr.2.2 (off + m) (by omega)
 obtain ⟨d1, -⟩ := hb.2.2 (m + 1) (by omega)
 obtain ⟨d2, -⟩ := hb.2.2 m (by omega)
 clear hr hb ht
 have HM := hide hm
 have hbl : (b.length : Int) = (m : Int) + 2 := by omega
 clear hm
 have htk := fun (W : World) (G : Int) hr hb hT => takeTimes_any W g h cap bcap off zs b G hr hb hne hoff hl hT
 have hgb := fun (W : World) (ys : List Int) hr hb hoff hl => giveBack_any W g h cap bcap off ys b hr hb hbc hne hoff hl
 have HTK := hide htk
 have HGB := hide hgb
 clear htk hgb
 generalize zs.getD (off + (m + 2)) 0 = a0 at *
 generalize zs.getD (off + (m + 1)) 0 = a1 at *
 generalize zs.getD (off + m) 0 = a2 at *
 generalize b.getD (m + 1) 0 = hi at *
 generalize b.getD m 0 = nx at *
 have HT := hide hT
 have HL := hide hlt
 have hvp := hide (show 0 < lv b ∧ lv b < bp (b.length + 1) by
  have h1 := hT.vpos; have h2 := hT.p0; have h3 := lv_lt HB.out.2.1; have h4 : bp b.length ≤ bp (b.length + 1) := bp_mono (by omega); omega)
 have hf := hT.first hlt
 obtain ⟨-, -, -, -, -, -, -, ra0, ra1, ra2, rhi, rnx⟩ := hT
 clear hlt
 have hor := or_join a0 a1 ra0.1 ra0.2 ra1.1 ra1.2
 have hsh := shl_join a0 a1 ra0.1 ra0.2 ra1.1 ra1.2
 have HQ := hide (HT.out.start)
 have q0 : 0 ≤ (a0 * 4294967296 + a1) / hi := Int.ediv_nonneg (by omega) (by omega)
 have q1 : (a0 * 4294967296 + a1) / hi ≤ a0 * 4294967296 + a1 := Int.ediv_le_self _ (by omega)
 have m0 := Int.emod_nonneg (a0 * 4294967296 + a1) (show hi ≠ 0 by omega)
 have m1 := Int.emod_lt_of_pos (a0 * 4294967296 + a1) (show 0 < hi by omega)
 have hh1 : (hi != 0) = true := by rw [bne_iff_ne]; omega
 have hh2 : (hi == 0) = false := by rw [beq_eq_false_iff_ne]; omega
 have HD := hide (show (a0 * 4294967296 + a1) / hi * hi + (a0 * 4294967296 + a1) % hi = a0 * 4294967296 + a1 by rw [Int.mul_comm]; exact Int.mul_ediv_add_emod _ _)
 go_enter Tryz.func82, Tryz.ntmps82
 go_wp2
 go_quiet (fail)
 go_wp2
 go_quiet (fail)
 go_wp2
 go_quiet (fail)
 go_wp2
 go_loopw [9, 10] (fun gv rv wr => ∃ (G R : Int) (nq : Nat), gv = .int .u64 G ∧ rv = .int .u64 R ∧ wr = w.drewN nq ∧ 0 ≤ G ∧ G < 18446744073709551616 ∧ 0 ≤ R ∧ R < 8589934592 ∧ Hid (G * hi + R = a0 * 4294967296 + a1) ∧ Hid (seg zs off (b.length + 1) < (G + 1) * lv b)) (fun gv _ _ => (intOf gv).toNat)
 case atStart => exact ⟨_, _, _, rfl, rfl, by rw [World.drewN_drewN, World.drewN_drewN], q0, by omega, m0, by omega, HD, HQ⟩
 case round =>
  obtain ⟨G, R, nq, rfl, rfl, rfl, hG0, hG1, hR0, hR1, HE, HU⟩ := hrel
  by_cases hR : R < 4294967296
  ·have hor2 := or_join R a2 hR0 hR ra2.1 ra2.2
   have hsh2 := shl_join R a2 hR0 hR ra2.1 ra2.2
   by_cases hG : G < 4294967296
   ·have hpr := prod_small ⟨hG0, hG⟩ rnx
    by_cases hgt : R * 4294967296 + a2 < G * nx
    ·have HU' := hide (HT.out.less hG0 HE.out hgt)
     have hg1 : 1 ≤ G := by
      rcases Int.lt_or_le G 1 with h | h
      ·have : G = 0 := by omega
       subst this
       omega
      ·exact h
     have HE' := hide (show (G - 1) * hi + (R + hi) = a0 * 4294967296 + a1 by have := HE.out; rw [Int.sub_mul, Int.one_mul]; omega)
     go_wp2
     go_roundw
     case rel => exact ⟨_, _, _, _, _, _, _, _, _, _, _, _, _, _, _, _, _, _, _, _, _, _, _, _, _, _, _, _, _, _, ⟨G - 1, R + hi, nq, rfl, rfl, rfl, by omega, by omega, by omega, by omega, HE', by rw [Int.sub_add_cancel]; exact HU'⟩, rfl⟩
     case measure => show (G - 1).toNat < G.toNat; omega
    ·have HX := hide (HT.out.stop ⟨hG0, hG⟩ HE.out (by omega))
     go_wp2_with fail
     refine (HTK.out _ G (HR.out.drewN nq) (HB.out.drewN nq) ⟨hG0, hG⟩).mono ?_
     rintro e w1 ⟨s, ys, rfl, hp, hv⟩
     replace hp := hp.of_drewN
     have hS := seg_lt hp.row.2.1 off (b.length + 1)
     cases s
     ·have HF := hide (step_same (G := G) (V := lv b) (by simpa using hv) HU.out)
      clear hv hS
      go_wp2
      go_ret
      exact ⟨G, ys, rfl, hG0, hG, hp, HF.out.1, HF.out.2⟩
     ·rw [if_pos rfl] at hv
      have hlen := hp.only.len
      go_wp2_with fail
      refine (HGB.out w1 ys hp.row (HB.out.far hp.grown hne) (by rw [hlen]; exact hoff) (by rw [hlen]; exact hl)).mono ?_
      rintro e w2 ⟨c, xs, rfl, hc0, hc1, hp2, hv2⟩
      replace hp := hp.trans hp2
      have hS2 := seg_lt hp.row.2.1 off (b.length + 1)
      have hA := seg_nonneg hlb off (b.length + 1)
      obtain ⟨hg1, hF1, hF2⟩ := step_less hv hS HX.out hv2 hS2 hc0 hc1 hA (hvp.out)
      have HF1 := hide hF1; have HF2 := hide hF2
      clear hv hv2 hS hS2 hA hF1 hF2
      go_wp2
      go_ret
      exact ⟨G - 1, xs, rfl, by omega, by omega, hp, HF1.out, HF2.out⟩
   ·have HU' := hide (show seg zs off (b.length + 1) < G * lv b by
     have h1 := HL.out
     have h2 := HT.out.vpos
     have h3 := HT.out.p0
     have h4 : 4294967296 * lv b ≤ G * lv b := Int.mul_le_mul_of_nonneg_right (by omega) (by omega)
     omega)
    have HE' := hide (show (G - 1) * hi + (R + hi) = a0 * 4294967296 + a1 by have := HE.out; rw [Int.sub_mul, Int.one_mul]; omega)
    go_wp2
    go_roundw
    case rel => exact ⟨⟨nq, rfl⟩, by omega, by omega, by omega, by omega⟩
    case measure => simp [intOf]; omega
  ·have hfar := HT.out.stop_far HL.out hG0 HE.out (by omega)
   have HX := hide (HT.out.stop ⟨hG0, hfar.1⟩ HE.out hfar.2)
   go_wp2_with fail
   refine (HTK.out _ G (HR.out.drewN nq) (HB.out.drewN nq) ⟨hG0, hfar.1⟩).mono ?_
   rintro e w1 ⟨s, ys, rfl, hp, hv⟩
   replace hp := hp.of_drewN
   have hS := seg_lt hp.row.2.1 off (b.length + 1)
   cases s
   ·have HF := hide (step_same (G := G) (V := lv b) (by simpa using hv) HU.out)
    clear hv hS
    go_wp2
    go_ret
    exact ⟨G, ys, rfl, hG0, hfar.1, hp, HF.out.1, HF.out.2⟩
   ·rw [if_pos rfl] at hv
    have hlen := hp.only.len
    go_wp2_with fail
    refine (HGB.out w1 ys hp.row (HB.out.far hp.grown hne) (by rw [hlen]; exact hoff) (by rw [hlen]; exact hl)).mono ?_
    rintro e w2 ⟨c, xs, rfl, hc0, hc1, hp2, hv2⟩
    replace hp := hp.trans hp2
    have hS2 := seg_lt hp.row.2.1 off (b.length + 1)
    have hA := seg_nonneg hlb off (b.length + 1)
    obtain ⟨hg1, hF1, hF2⟩ := step_less hv hS HX.out hv2 hS2 hc0 hc1 hA (hvp.out)
    have HF1 := hide hF1; have HF2 := hide hF2
    clear hv hv2 hS hS2 hA hF1 hF2
    go_wp2
    go_ret
    exact ⟨G - 1, xs, rfl, by omega, by omega, hp, HF1.out, HF2.out⟩

end Go.Proofs.YtajcdhaaldhlaaaGreatDoor
