/- Sums and differences of limbs. -/
import Derived.Test.YtdedolkgcdlmeaaGreatDoorTrim
namespace Go.Proofs.YtdedolkgcdlmeaaGreatDoor
open Go.RowKit Limbs

/-- A row of limbs that the call itself has made, and may write. -/
def Row (w : World) (g : Nat) (zs : List Int) : Prop :=
  g < w.heap.size ∧ LB zs ∧ ∀ j, j < zs.length → w.cell? ⟨g, j, none⟩ = some (.int .u32 (zs.getD j 0)) ∧ w.frozen? ⟨g, j, none⟩ = false

theorem Tryz.infoU32 : (Tryz.prog.info? 104).map (fun i => (i.zero, i.size, i.bytes)) = some (some (.int .u32 0), 1, 4) := by kernel_rfl

theorem run_mk (m : Nat) (hm : m ≤ 3000000) (W : World) : (Instr.makeSlice 27 (.int .i64 (m : Int)) (.int .i64 (m : Int))).run Tryz.prog W = .ok (.slice (some ⟨W.heap.size, 0, none⟩) m m) (W.alloc (.cells (madeCells #[.int .u32 0] m) 104)) := by
  obtain ⟨i0, hi, hz0, hz1, hz2⟩ := info_parts Tryz.infoU32
  have h := run_make (P := Tryz.prog) W 27 104 i0 (.int .u32 0) Tryz.underlying27 hi hz0 .i64 .i64 m m (by omega) (by omega) (by rw [hz2]; omega) (by omega)
  rw [hz1, Int.toNat_natCast, Nat.mul_one] at h
  exact h

theorem Row.made (w : World) (m : Nat) : Row (w.alloc (.cells (madeCells #[.int .u32 0] m) 104)) w.heap.size (List.replicate m 0) := by
  refine ⟨by simp, LB_replicate m, fun j hj => ⟨?_, World.frozen?_alloc_new _ _ _ _⟩⟩
  rw [List.length_replicate] at hj
  rw [World.cell?_alloc_new]
  simp [madeCells, hj, Nat.mod_one, List.getD_eq_getElem?_getD]

theorem Row.store {w : World} {g : Nat} {zs : List Int} (h : Row w g zs) {k : Nat} (hk : k < zs.length) {z : Int} (hz : 0 ≤ z ∧ z < 4294967296) : Row (w.setCell ⟨g, k, none⟩ (.int .u32 z)) g (zs.set k z) := by
  obtain ⟨h1, h2, h3⟩ := h
  refine ⟨by simpa [World.setCell] using h1, LB_set h2 k hz, fun j hj => ?_⟩
  rw [List.length_set] at hj
  obtain ⟨c1, c2⟩ := h3 j hj
  obtain ⟨c3, c4⟩ := h3 k hk
  rw [World.frozen?_setCell, getD_set zs k j z hk]
  refine ⟨?_, c2⟩
  by_cases e : j = k
  · subst e
    rw [if_pos rfl]
    exact World.cell?_setCell_same (h := c3) ..
  · rw [if_neg e, ← c1]
    exact World.cell?_setCell_other (h := fun h => e (congrArg Addr.off h).symm) ..

theorem Row.lim {w : World} {g : Nat} {zs : List Int} (h : Row w g zs) (cap : Nat) (hc : zs.length ≤ cap) (hl : zs.length ≤ 1000000) : Lim w (.slice (some ⟨g, 0, none⟩) zs.length cap) zs := by
  obtain ⟨h1, h2, h3⟩ := h
  exact ⟨_, cap, rfl, hc, hl, h2, fun _ => ⟨g, 0, rfl, h1, fun i hi => by rw [Nat.zero_add]; exact (h3 i hi).1⟩⟩

/-- Limbs come back in new memory. -/
def LimPost (w : World) (z : Int) (n : Nat) (e : Ending) (w' : World) : Prop :=
  ∃ v zs, e = .returned v ∧ Lim w' v zs ∧ lv zs = z ∧ zs.length ≤ n ∧ Below w.heap.size w w'

def AddInv (w wr : World) (a b : List Int) (m k : Nat) (cy : Int) (zs : List Int) : Prop :=
  zs.length = m ∧ Row wr w.heap.size zs ∧ Below w.heap.size w wr ∧ lv (zs.take k) + bp k * cy = lv (a.take k) + lv (b.take k)

theorem AddInv.start (w : World) (a b : List Int) (m : Nat) : AddInv w (w.alloc (.cells (madeCells #[.int .u32 0] m) 104)) a b m 0 0 (List.replicate m 0) :=
  ⟨List.length_replicate, Row.made w m, (Below.refl _ _).alloc (Nat.le_refl _) _, by simp [lv]⟩

theorem AddInv.step {w wr : World} {a b : List Int} {m k : Nat} {cy : Int} {zs : List Int} (h : AddInv w wr a b m k cy zs) (hk : k < m) :
    AddInv w (wr.setCell ⟨w.heap.size, k, none⟩ (.int .u32 ((a.getD k 0 + b.getD k 0 + cy) % 4294967296))) a b m (k + 1) ((a.getD k 0 + b.getD k 0 + cy) / 4294967296) (zs.set k ((a.getD k 0 + b.getD k 0 + cy) % 4294967296)) := by
  obtain ⟨h1, h2, h3, h4⟩ := h
  refine ⟨by rw [List.length_set]; exact h1, h2.store (by omega) (by omega), h3.setCell (Nat.le_refl _) _, ?_⟩
  rw [lv_take_succ, lv_take_succ, lv_take_succ, take_set_ge _ _ _ _ (Nat.le_refl _), getD_set _ _ _ _ (by omega), if_pos rfl]
  have e : bp k * ((a.getD k 0 + b.getD k 0 + cy) % 4294967296 + 4294967296 * ((a.getD k 0 + b.getD k 0 + cy) / 4294967296)) = bp k * (a.getD k 0 + b.getD k 0 + cy) := by rw [Int.emod_add_mul_ediv]
  generalize (a.getD k 0 + b.getD k 0 + cy) % 4294967296 = s at *
  generalize (a.getD k 0 + b.getD k 0 + cy) / 4294967296 = c at *
  rw [Int.mul_add, Int.mul_add, Int.mul_add] at e
  have e2 : bp (k + 1) * c = bp k * (4294967296 * c) := by simp only [bp]; rw [Int.mul_comm 4294967296 (bp k), Int.mul_assoc]
  rw [e2]
  omega

theorem AddInv.done {w wr : World} {a b : List Int} {m : Nat} {cy : Int} {zs : List Int} (h : AddInv w wr a b m m cy zs) (hc : 0 ≤ cy ∧ cy ≤ 1) (ha : LB a) (hb : LB b) (la : a.length < m) (lb : b.length < m) : lv zs = lv a + lv b := by
  obtain ⟨h1, h2, h3, h4⟩ := h
  rw [lv_take_ge zs (by omega), lv_take_ge a (by omega), lv_take_ge b (by omega)] at h4
  have e1 := lv_lt ha
  have e2 := lv_lt hb
  have e3 : bp a.length ≤ bp (m - 1) := bp_mono (by omega)
  have e4 : bp b.length ≤ bp (m - 1) := bp_mono (by omega)
  have e5 : bp m = 4294967296 * bp (m - 1) := by rw [← Nat.sub_add_cancel (show 1 ≤ m by omega)]; rfl
  have e6 := lv_nonneg h2.2.1
  have e7 := bp_pos (m - 1)
  rcases (by omega : cy = 0 ∨ cy = 1) with rfl | rfl
  · omega
  · omega

theorem limPost_row {w wr : World} {zs : List Int} {m n : Nat} {z : Int} (hl : zs.length = m) (hr : Row wr w.heap.size zs) (hb : Below w.heap.size w wr) (hz : lv zs = z) (hm : m ≤ 1000000) (hn : m ≤ n) : LimPost w z n (.returned (.slice (some ⟨w.heap.size, 0, none⟩) m m)) wr := by
  subst hl
  exact ⟨_, zs, rfl, hr.lim _ (Nat.le_refl _) hm, hz, hn, hb⟩

set_option maxHeartbeats 400000 in
theorem addLimbs_any (w : World) (va vb : Value) (a b : List Int) (ha : Lim w va a) (hb : Lim w vb b) (hla : a.length ≤ 900000) (hlb : b.length ≤ 900000) :
    Calls Tryz.prog 127 #[va, vb] w fun e w' => LimPost w (lv a + lv b) (max a.length b.length + 1) e w' := by
  have HA : Hid (Lim w va a) := ha
  have HB : Hid (Lim w vb b) := hb
  obtain ⟨ao, acap, rfl, hacap, halen, halb, hac⟩ := ha
  obtain ⟨bo, bcap, rfl, hbcap, hblen, hblb, hbc⟩ := hb
  clear hac hbc
  obtain ⟨m, hm⟩ : ∃ m, m = max a.length b.length + 1 := ⟨_, rfl⟩
  have hma : a.length < m := by omega
  have hmb : b.length < m := by omega
  have hm3 : m ≤ 900001 := by omega
  have hmk := run_mk m (by omega)
  rw [← hm]
  rcases (by omega : (a.length < b.length ∧ (b.length : Int) + 1 = (m : Int)) ∨ (b.length ≤ a.length ∧ (a.length : Int) + 1 = (m : Int))) with ⟨hab, e⟩ | ⟨hab, e⟩
  all_goals
    clear hm
    go_enter Tryz.func127, Tryz.ntmps127
    go_wp2
    go_loopw [6, 17] (fun c i wr => ∃ (k : Nat) (cy : Int) (zs : List Int), k ≤ m ∧ i = .int .i64 k ∧ c = .int .u32 cy ∧ 0 ≤ cy ∧ cy ≤ 1 ∧ AddInv w wr a b m k cy zs) (fun _ i _ => m - (intOf i).toNat)
    case atStart => exact ⟨0, 0, _, Nat.zero_le _, rfl, rfl, by decide, by decide, AddInv.start w a b m⟩
    case round =>
      obtain ⟨k, cy, zs, hk, rfl, rfl, hc0, hc1, hinv⟩ := hrel
      by_cases hlt : k < m
      · have hst := hinv.step hlt
        obtain ⟨hcell, hfr⟩ := hinv.2.1.2.2 k (by have := hinv.1; omega)
        have hLa := HA.out.below hinv.2.2.1 (Nat.le_refl _)
        have hLb := HB.out.below hinv.2.2.1 (Nat.le_refl _)
        have hgx := halb k
        have hgy := hblb k
        have hsz := hinv.2.1.1
        generalize zs.getD k 0 = z0 at *
        go_wp2_with fail
        refine (limb_any _ _ a k hLa (by omega) (by omega)).mono ?_
        rintro e w' ⟨rfl, rfl⟩
        rw [Int.toNat_natCast]
        generalize a.getD k 0 = x at *
        go_wp2_with fail
        refine (limb_any _ _ b k hLb (by omega) (by omega)).mono ?_
        rintro e w' ⟨rfl, rfl⟩
        rw [Int.toNat_natCast]
        generalize b.getD k 0 = y at *
        go_wp2_with fail
        refine (add32 x y cy _ hgx hgy ⟨hc0, hc1⟩).mono ?_
        rintro e w' ⟨rfl, rfl⟩
        have hs0 : 0 ≤ (x + y + cy) / 4294967296 := by omega
        have hs1 : (x + y + cy) / 4294967296 ≤ 1 := by omega
        generalize (x + y + cy) % 4294967296 = s at *
        generalize (x + y + cy) / 4294967296 = c at *
        go_wp2
        go_roundw
        case rel => exact ⟨k + 1, c, _, by omega, by go_num, rfl, hs0, hs1, hst⟩
        case measure => simp [intOf]; omega
      · obtain rfl : k = m := by omega
        have hd := hinv.done ⟨hc0, hc1⟩ halb hblb hma hmb
        have hl := hinv.1
        go_wp2
        go_ret
        exact limPost_row hl hinv.2.1 hinv.2.2.1 hd (by omega) (Nat.le_refl _)

def SubInv (w wr : World) (a b : List Int) (m k : Nat) (bw : Int) (zs : List Int) : Prop :=
  zs.length = m ∧ Row wr w.heap.size zs ∧ Below w.heap.size w wr ∧ lv (zs.take k) - bp k * bw = lv (a.take k) - lv (b.take k)

theorem SubInv.start (w : World) (a b : List Int) (m : Nat) : SubInv w (w.alloc (.cells (madeCells #[.int .u32 0] m) 104)) a b m 0 0 (List.replicate m 0) :=
  ⟨List.length_replicate, Row.made w m, (Below.refl _ _).alloc (Nat.le_refl _) _, by simp [lv]⟩

theorem Row.drew {w : World} {g : Nat} {zs : List Int} (h : Row w g zs) : Row w.drew g zs := h

theorem SubInv.drew {w wr : World} {a b : List Int} {m k : Nat} {cy : Int} {zs : List Int} (h : SubInv w wr a b m k cy zs) : SubInv w wr.drew a b m k cy zs :=
  ⟨h.1, h.2.1.drew, h.2.2.1.drew, h.2.2.2⟩

theorem bor_01 (x y : Int) : 0 ≤ bor x y ∧ bor x y ≤ 1 := by unfold bor; split <;> decide

theorem bor_eq (x y c : Int) (hx : 0 ≤ x ∧ x < 4294967296) (hy : 0 ≤ y ∧ y < 4294967296) (hc : 0 ≤ c ∧ c ≤ 1) : (x - y - c) % 4294967296 - 4294967296 * bor x (y + c) = x - y - c := by
  unfold bor; split <;> omega

theorem SubInv.step {w wr : World} {a b : List Int} {m k : Nat} {cy : Int} {zs : List Int} (h : SubInv w wr a b m k cy zs) (hk : k < m) (hc : 0 ≤ cy ∧ cy ≤ 1) (ha : LB a) (hb : LB b) :
    SubInv w (wr.setCell ⟨w.heap.size, k, none⟩ (.int .u32 ((a.getD k 0 - b.getD k 0 - cy) % 4294967296))) a b m (k + 1) (bor (a.getD k 0) (b.getD k 0 + cy)) (zs.set k ((a.getD k 0 - b.getD k 0 - cy) % 4294967296)) := by
  obtain ⟨h1, h2, h3, h4⟩ := h
  refine ⟨by rw [List.length_set]; exact h1, h2.store (by omega) (by omega), h3.setCell (Nat.le_refl _) _, ?_⟩
  rw [lv_take_succ, lv_take_succ, lv_take_succ, take_set_ge _ _ _ _ (Nat.le_refl _), getD_set _ _ _ _ (by omega), if_pos rfl]
  have e : bp k * ((a.getD k 0 - b.getD k 0 - cy) % 4294967296 - 4294967296 * bor (a.getD k 0) (b.getD k 0 + cy)) = bp k * (a.getD k 0 - b.getD k 0 - cy) := by rw [bor_eq _ _ _ (ha k) (hb k) hc]
  generalize (a.getD k 0 - b.getD k 0 - cy) % 4294967296 = s at *
  generalize bor (a.getD k 0) (b.getD k 0 + cy) = c at *
  rw [Int.mul_sub, Int.mul_sub, Int.mul_sub] at e
  have e2 : bp (k + 1) * c = bp k * (4294967296 * c) := by simp only [bp]; rw [Int.mul_comm 4294967296 (bp k), Int.mul_assoc]
  rw [e2]
  omega

theorem SubInv.done {w wr : World} {a b : List Int} {m : Nat} {cy : Int} {zs : List Int} (h : SubInv w wr a b m m cy zs) (hc : 0 ≤ cy ∧ cy ≤ 1) (la : a.length = m) (lb : b.length ≤ m) (hle : lv b ≤ lv a) : lv zs = lv a - lv b := by
  obtain ⟨h1, h2, h3, h4⟩ := h
  rw [lv_take_ge zs (by omega), lv_take_ge a (by omega), lv_take_ge b (by omega)] at h4
  have e1 := lv_lt h2.2.1
  rw [h1] at e1
  rcases (by omega : cy = 0 ∨ cy = 1) with rfl | rfl
  · omega
  · omega

theorem length_le_of_le {a b : List Int} (ha : LB a) (hb : LB b) (nb : Nrm b) (h : lv b ≤ lv a) : b.length ≤ a.length := by
  by_cases hl : a.length < b.length
  · have := lv_lt_of_length ha hb nb hl; omega
  · omega

set_option maxHeartbeats 800000 in
theorem subLimbs_any (w : World) (va vb : Value) (a b : List Int) (ha : Lim w va a) (hb : Lim w vb b) (nb : Nrm b) (hle : lv b ≤ lv a) :
    Calls Tryz.prog 128 #[va, vb] w fun e w' => LimPost w (lv a - lv b) a.length e w' := by
  have HA : Hid (Lim w va a) := ha
  have HB : Hid (Lim w vb b) := hb
  obtain ⟨ao, acap, rfl, hacap, halen, halb, hac⟩ := ha
  obtain ⟨bo, bcap, rfl, hbcap, hblen, hblb, hbc⟩ := hb
  clear hbc
  have hbl := length_le_of_le halb hblb nb hle
  have hmk := run_mk a.length (by omega)
  go_enter Tryz.func128, Tryz.ntmps128
  go_wp2
  go_loopw [6, 13] (fun c i wr => ∃ (k : Nat) (cy : Int) (zs : List Int), k ≤ a.length ∧ i = .int .i64 k ∧ c = .int .u32 cy ∧ 0 ≤ cy ∧ cy ≤ 1 ∧ SubInv w wr a b a.length k cy zs) (fun _ i _ => a.length - (intOf i).toNat)
  case atStart => exact ⟨0, 0, _, Nat.zero_le _, rfl, rfl, by decide, by decide, SubInv.start w a b a.length⟩
  case round =>
    obtain ⟨k, cy, zs, hk, rfl, rfl, hc0, hc1, hinv⟩ := hrel
    by_cases hlt : k < a.length
    · have hst := hinv.step hlt ⟨hc0, hc1⟩ halb hblb
      obtain ⟨hcell, hfr⟩ := hinv.2.1.2.2 k (by have := hinv.1; omega)
      have hLb := HB.out.below hinv.2.2.1 (Nat.le_refl _)
      have hbe := hinv.2.2.1
      have hgx := halb k
      have hgy := hblb k
      have hsz := hinv.2.1.1
      replace hac := hac (by omega)
      obtain ⟨ab, aoff, rfl, hab, hac⟩ := hac
      have hca : wr.cell? ⟨ab, aoff + k, none⟩ = some (.int .u32 (a.getD k 0)) := (hbe.cell (p := ⟨ab, aoff + k, none⟩) hab).trans (hac k hlt)
      clear hac
      generalize zs.getD k 0 = z0 at *
      have hlb' := fun W (h : Below w.heap.size w W) => limb_any W (.slice bo b.length bcap) b k (HB.out.below h (Nat.le_refl _)) (by omega) (by omega)
      rw [Int.toNat_natCast] at hlb'
      generalize a.getD k 0 = x at *
      generalize b.getD k 0 = y at *
      have hbo := bor_01 x (y + cy)
      have hks : ∀ v, (wr.setCell ⟨w.heap.size, k, none⟩ v).cell? ⟨ab, aoff + k, none⟩ = some (.int .u32 x) := fun v => (World.cell?_setCell_other (h := fun h => by have := congrArg Addr.block h; simp at this; omega) ..).trans hca
      go_wp2
      go_region_held3 (fun w' => w'.cell? ⟨ab, aoff + k, none⟩ = some (.int .u32 x)) (go_keep) (first | (go_at_call 146; refine (hlb' _ (by first | exact hbe.drew | exact hbe)).mono ?_; rintro e w' ⟨rfl, rfl⟩) | (go_at_call 147; refine (sub32 x y cy _ hgx hgy ⟨hc0, hc1⟩).mono ?_; rintro e w' ⟨rfl, rfl⟩))
      generalize (x - y - cy) % 4294967296 = s at *
      generalize bor x (y + cy) = c at *
      go_wp2
      go_roundw
      case rel => exact ⟨k + 1, c, _, by omega, by go_num, rfl, hbo.1, hbo.2, hst.drew⟩
      case measure => simp [intOf]; omega
    · obtain rfl : k = a.length := by omega
      have hd := hinv.done ⟨hc0, hc1⟩ rfl hbl hle
      have hl := hinv.1
      go_wp2
      go_ret
      exact limPost_row hl hinv.2.1 hinv.2.2.1 hd (by omega) (Nat.le_refl _)

end Go.Proofs.YtdedolkgcdlmeaaGreatDoor
