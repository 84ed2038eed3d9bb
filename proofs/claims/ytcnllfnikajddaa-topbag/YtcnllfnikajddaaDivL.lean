/- One step of a division of limbs, walked. -/
import Derived.Test.YtcnllfnikajddaaStep
import Derived.Test.YtcnllfnikajddaaDivOne
import Derived.Deep.AppendLies
import Derived.Shelf.Small.Bits
import Derived.Shelf.Small.Wraps
import Derived.Shelf.Strings.BuilderK
import Derived.Shelf.Strconv.Itoa3
import Derived.Test.YtcnllfnikajddaaProg

namespace Go.Proofs.Ytcnllfnikajddaa
open Go.RowKit Limbs

def StepPost (w : World) (g : Nat) (zs : List Int) (off : Nat) (b : List Int) (e : Ending) (w' : World) : Prop :=
 ∃ (q : Int) (ys : List Int), e = .returned (.int .u32 q) ∧ 0 ≤ q ∧ q < 4294967296 ∧ Part w w' g zs ys off (b.length + 1) ∧
  seg zs off (b.length + 1) = q * lv b + seg ys off (b.length + 1) ∧ seg ys off (b.length + 1) < lv b

theorem prod_small {G nx : Int} (hG : 0 ≤ G ∧ G < 4294967296) (hn : 0 ≤ nx ∧ nx < 4294967296) : 0 ≤ G * nx ∧ G * nx < 18446744073709551616 := by
 have := mul_le_limbs hG hn
 omega

theorem Part.of_drewN {w w' : World} {n g : Nat} {zs ys : List Int} {off k : Nat} (h : Part (w.drewN n) w' g zs ys off k) : Part w w' g zs ys off k :=
 ⟨h.row, (grown_drewN (World.grownBy.refl w (some g)) n).trans h.grown, h.only⟩

theorem step_same {A V G S : Int} (hv : S + G * V = A) (hu : A < (G + 1) * V) : A = G * V + S ∧ S < V := by
 rw [Int.add_mul, Int.one_mul] at hu
 omega

theorem step_less {A V G S P S2 c : Int} (hv : S + G * V = A + P) (hS : S < P) (hx : G * V < A + V) (hv2 : S2 + P * c = S + V) (hS2 : S2 < P) (hc0 : 0 ≤ c) (hc1 : c ≤ 1) (hA : 0 ≤ A) (hV : 0 < V ∧ V < P) :
  1 ≤ G ∧ A = (G - 1) * V + S2 ∧ S2 < V := by
 have hg : 1 ≤ G := by
  rcases Int.lt_or_le G 1 with h | h
  ·have : G * V ≤ 0 * V := Int.mul_le_mul_of_nonneg_right (by omega) (by omega)
   omega
  ·exact h
 rw [Int.sub_mul, Int.one_mul]
 rcases (by omega : c = 0 ∨ c = 1) with rfl | rfl
 ·omega
 ·rw [Int.mul_one] at hv2
  exact ⟨hg, by omega, by omega⟩

set_option maxRecDepth 100000 in
set_option maxHeartbeats 1600000 in
theorem divStep_any (w : World) (g h cap bcap off m : Nat) (zs b : List Int) (hr : Row w g zs) (hb : Row w h b) (hbc : b.length ≤ bcap) (hne : h ≠ g) (hoff : off + b.length + 1 ≤ zs.length) (hl : zs.length ≤ 1000000)
  (hm : b.length = m + 2) (ht : b.getD (m + 1) 0 ≠ 0) (hlt : seg zs off (b.length + 1) < lv b * 4294967296) :
  Calls Try.prog 70 #[.slice (some ⟨g, off, none⟩) (b.length + 1) cap, .slice (some ⟨h, 0, none⟩) b.length bcap] w fun e w' => StepPost w g zs off b e w' := by
 have HB := hide hb
 have HR := hide hr
 have hlb := hr.2.1
 have hT := tops_of (off := off) hr.2.1 hb.2.1 hm ht
 obtain ⟨c0, -⟩ := hr.2.2 (off + (m + 2)) (by omega)
 obtain ⟨c1, -⟩ := hr.2.2 (off + (m + 1)) (by omega)
 obtain ⟨c2, -⟩ := hr.2.2 (off + m) (by omega)
 obtain ⟨d1, -⟩ := hb.2.2 (m + 1) (by omega)
 obtain ⟨d2, -⟩ := hb.2.2 m (by omega)
 clear hr hb ht
 have HM := hide hm
 have hbl : (b.length : Int) = (m : Int) + 2 := by omega
 clear hm
 have htk := fun (W : World) (G : Int) hr hb hT => takeTimes_any W g h cap bcap off zs b G hr hb hne hoff hl hT
 have hgb := fun (W : World) (ys : List Int) hr hb hoff hl => giveBack_any W g h cap bcap off ys b hr hb hbc hne hoff hl
 have HTK := hide htk
 have HGB := hide hgb
 clear htk hgb
 generalize zs.getD (off + (m + 2)) 0 = a0 at *
 generalize zs.getD (off + (m + 1)) 0 = a1 at *
 generalize zs.getD (off + m) 0 = a2 at *
 generalize b.getD (m + 1) 0 = hi at *
 generalize b.getD m 0 = nx at *
 have HT := hide hT
 have HL := hide hlt
 have hvp := hide (show 0 < lv b ∧ lv b < bp (b.length + 1) by
  have h1 := hT.vpos; have h2 := hT.p0; have h3 := lv_lt HB.out.2.1; have h4 : bp b.length ≤ bp (b.length + 1) := bp_mono (by omega); omega)
 have hf := hT.first hlt
 obtain ⟨-, -, -, -, -, -, -, ra0, ra1, ra2, rhi, rnx⟩ := hT
 clear hlt
 have hor := or_join a0 a1 ra0.1 ra0.2 ra1.1 ra1.2
 have hsh := shl_join a0 a1 ra0.1 ra0.2 ra1.1 ra1.2
 have HQ := hide (HT.out.start)
 have q0 : 0 ≤ (a0 * 4294967296 + a1) / hi := Int.ediv_nonneg (by omega) (by omega)
 have q1 : (a0 * 4294967296 + a1) / hi ≤ a0 * 4294967296 + a1 := Int.ediv_le_self _ (by omega)
 have m0 := Int.emod_nonneg (a0 * 4294967296 + a1) (show hi ≠ 0 by omega)
 have m1 := Int.emod_lt_of_pos (a0 * 4294967296 + a1) (show 0 < hi by omega)
 have hh1 : (hi != 0) = true := by rw [bne_iff_ne]; omega
 have hh2 : (hi == 0) = false := by rw [beq_eq_false_iff_ne]; omega
 have HD := hide (show (a0 * 4294967296 + a1) / hi * hi + (a0 * 4294967296 + a1) % hi = a0 * 4294967296 + a1 by rw [Int.mul_comm]; exact Int.mul_ediv_add_emod _ _)
 go_enter Try.func70, Try.ntmps70
 go_wp2
 go_quiet (fail)
 go_wp2
 go_quiet (fail)
 go_wp2
 go_quiet (fail)
 go_wp2
 go_loopw [9, 10] (fun gv rv wr => ∃ (G R : Int) (nq : Nat), gv = .int .u64 G ∧ rv = .int .u64 R ∧ wr = w.drewN nq ∧ 0 ≤ G ∧ G < 18446744073709551616 ∧ 0 ≤ R ∧ R < 8589934592 ∧ Hid (G * hi + R = a0 * 4294967296 + a1) ∧ Hid (seg zs off (b.length + 1) < (G + 1) * lv b)) (fun gv _ _ => (intOf gv).toNat)
 case atStart => exact ⟨_, _, _, rfl, rfl, by rw [World.drewN_drewN, World.drewN_drewN], q0, by omega, m0, by omega, HD, HQ⟩
 case round =>
  obtain ⟨G, R, nq, rfl, rfl, rfl, hG0, hG1, hR0, hR1, HE, HU⟩ := hrel
  by_cases hR : R < 4294967296
  ·have hor2 := or_join R a2 hR0 hR ra2.1 ra2.2
   have hsh2 := shl_join R a2 hR0 hR ra2.1 ra2.2
   by_cases hG : G < 4294967296
   ·have hpr := prod_small ⟨hG0, hG⟩ rnx
    by_cases hgt : R * 4294967296 + a2 < G * nx
    ·have HU' := hide (HT.out.less hG0 HE.out hgt)
     have hg1 : 1 ≤ G := by
      rcases Int.lt_or_le G 1 with h | h
      ·have : G = 0 := by omega
       subst this
       omega
      ·exact h
     have HE' := hide (show (G - 1) * hi + (R + hi) = a0 * 4294967296 + a1 by have := HE.out; rw [Int.sub_mul, Int.one_mul]; omega)
     go_wp2
     go_roundw
     case rel => exact ⟨_, _, _, _, _, _, _, _, _, _, _, _, _, _, _, _, _, _, _, _, _, _, _, _, _, _, _, _, _, _, ⟨G - 1, R + hi, nq, rfl, rfl, rfl, by omega, by omega, by omega, by omega, HE', by rw [Int.sub_add_cancel]; exact HU'⟩, rfl⟩
     case measure => show (G - 1).toNat < G.toNat; omega
    ·have HX := hide (HT.out.stop ⟨hG0, hG⟩ HE.out (by omega))
     go_wp2_with fail
     refine (HTK.out _ G (HR.out.drewN nq) (HB.out.drewN nq) ⟨hG0, hG⟩).mono ?_
     rintro e w1 ⟨s, ys, rfl, hp, hv⟩
     replace hp := hp.of_drewN
     have hS := seg_lt hp.row.2.1 off (b.length + 1)
     cases s
     ·have HF := hide (step_same (G := G) (V := lv b) (by simpa using hv) HU.out)
      clear hv hS
      go_wp2
      go_ret
      exact ⟨G, ys, rfl, hG0, hG, hp, HF.out.1, HF.out.2⟩
     ·rw [if_pos rfl] at hv
      have hlen := hp.only.len
      go_wp2_with fail
      refine (HGB.out w1 ys hp.row (HB.out.far hp.grown hne) (by rw [hlen]; exact hoff) (by rw [hlen]; exact hl)).mono ?_
      rintro e w2 ⟨c, xs, rfl, hc0, hc1, hp2, hv2⟩
      replace hp := hp.trans hp2
      have hS2 := seg_lt hp.row.2.1 off (b.length + 1)
      have hA := seg_nonneg hlb off (b.length + 1)
      obtain ⟨hg1, hF1, hF2⟩ := step_less hv hS HX.out hv2 hS2 hc0 hc1 hA (hvp.out)
      have HF1 := hide hF1; have HF2 := hide hF2
      clear hv hv2 hS hS2 hA hF1 hF2
      go_wp2
      go_ret
      exact ⟨G - 1, xs, rfl, by omega, by omega, hp, HF1.out, HF2.out⟩
   ·have HU' := hide (show seg zs off (b.length + 1) < G * lv b by
     have h1 := HL.out
     have h2 := HT.out.vpos
     have h3 := HT.out.p0
     have h4 : 4294967296 * lv b ≤ G * lv b := Int.mul_le_mul_of_nonneg_right (by omega) (by omega)
     omega)
    have HE' := hide (show (G - 1) * hi + (R + hi) = a0 * 4294967296 + a1 by have := HE.out; rw [Int.sub_mul, Int.one_mul]; omega)
    go_wp2
    go_roundw
    case rel => exact ⟨⟨nq, rfl⟩, by omega, by omega, by omega, by omega⟩
    case measure => simp [intOf]; omega
  ·have hfar := HT.out.stop_far HL.out hG0 HE.out (by omega)
   have HX := hide (HT.out.stop ⟨hG0, hfar.1⟩ HE.out hfar.2)
   go_wp2_with fail
   refine (HTK.out _ G (HR.out.drewN nq) (HB.out.drewN nq) ⟨hG0, hfar.1⟩).mono ?_
   rintro e w1 ⟨s, ys, rfl, hp, hv⟩
   replace hp := hp.of_drewN
   have hS := seg_lt hp.row.2.1 off (b.length + 1)
   cases s
   ·have HF := hide (step_same (G := G) (V := lv b) (by simpa using hv) HU.out)
    clear hv hS
    go_wp2
    go_ret
    exact ⟨G, ys, rfl, hG0, hfar.1, hp, HF.out.1, HF.out.2⟩
   ·rw [if_pos rfl] at hv
    have hlen := hp.only.len
    go_wp2_with fail
    refine (HGB.out w1 ys hp.row (HB.out.far hp.grown hne) (by rw [hlen]; exact hoff) (by rw [hlen]; exact hl)).mono ?_
    rintro e w2 ⟨c, xs, rfl, hc0, hc1, hp2, hv2⟩
    replace hp := hp.trans hp2
    have hS2 := seg_lt hp.row.2.1 off (b.length + 1)
    have hA := seg_nonneg hlb off (b.length + 1)
    obtain ⟨hg1, hF1, hF2⟩ := step_less hv hS HX.out hv2 hS2 hc0 hc1 hA (hvp.out)
    have HF1 := hide hF1; have HF2 := hide hF2
    clear hv hv2 hS hS2 hA hF1 hF2
    go_wp2
    go_ret
    exact ⟨G - 1, xs, rfl, by omega, by omega, hp, HF1.out, HF2.out⟩

end Go.Proofs.Ytcnllfnikajddaa

/- Groups of nine decimal digits. -/
namespace Go.Proofs.Ytcnllfnikajddaa
open Go.RowKit Limbs

def gv : List Int → Int
 | [] => 0
 | x :: xs => x + 1000000000 * gv xs

def gp : Nat → Int
 | 0 => 1
 | n + 1 => 1000000000 * gp n

theorem gp_pos (n : Nat) : 0 < gp n := by
 induction n with
 | zero => simp [gp]
 | succ n ih => simp only [gp]; omega

theorem gp_mono {m n : Nat} (h : m ≤ n) : gp m ≤ gp n := by
 induction n with
 | zero => rw [Nat.le_zero.1 h]; exact Int.le_refl _
 | succ n ih =>
  by_cases e : m = n + 1
  ·rw [e]; exact Int.le_refl _
  ·have := ih (by omega); have := gp_pos n; simp only [gp]; omega

theorem gv_append (xs : List Int) (r : Int) : gv (xs ++ [r]) = gv xs + gp xs.length * r := by
 induction xs with
 | nil => simp [gv, gp]
 | cons x xs ih => simp only [List.cons_append, gv, ih, List.length_cons, gp]; rw [Int.mul_add, Int.mul_assoc]; omega

theorem bp_le_gp (n : Nat) : bp n ≤ gp (2 * n) := by
 induction n with
 | zero => simp [bp, gp]
 | succ n ih => rw [show 2 * (n + 1) = 2 * n + 1 + 1 by omega]; simp only [bp, gp]; have := gp_pos (2 * n); omega

theorem Row.take {w : World} {g : Nat} {zs : List Int} (h : Row w g zs) (n : Nat) : Row w g (zs.take n) := by
 obtain ⟨h1, h2, h3⟩ := h
 refine ⟨h1, LB_take h2 n, fun j hj => ?_⟩
 rw [List.length_take] at hj
 rw [getD_take zs n j (by omega)]
 exact h3 j (by omega)

theorem Row.kept {w w' : World} {g : Nat} {zs : List Int} {r : Option Nat} (h : Row w g zs) (hg : w.grownBy w' r) (hne : r ≠ some g) : Row w' g zs := by
 obtain ⟨h1, h2, h3⟩ := h
 have hb : w'.heap[g]? = w.heap[g]? := hg.block g h1 (fun e => hne e.symm)
 exact ⟨Nat.lt_of_lt_of_le h1 hg.size, h2, fun j hj => ⟨(World.cell?_of_block (a := ⟨g, j, none⟩) hb).trans (h3 j hj).1, (World.frozen?_of_block (a := ⟨g, j, none⟩) hb).trans (h3 j hj).2⟩⟩

def GrpInv (w wr : World) (zs : List Int) (v : Value) (gs ys : List Int) : Prop :=
 Row wr w.heap.size ys ∧ Nrm ys ∧ ys.length ≤ zs.length ∧ wr.ownsRow (w.heap.size + 1) 3 1 v gs.length (gs.map (Value.int .i64)) ∧ Below w.heap.size w wr ∧
  lv zs = gv gs + gp gs.length * lv ys ∧ (∀ g ∈ gs, 0 ≤ g ∧ g < 1000000000) ∧ (lv ys = 0 → gs.length = 0 ∨ gs.getD (gs.length - 1) 0 ≠ 0) ∧ lenOf v = gs.length ∧ w.heap.size < wr.heap.size ∧ 0 ≤ gv gs

theorem lenOf_owns {w : World} {base n : Nat} {e : TypeId} {v : Value} {xs : List Value} (h : w.ownsRow base e 1 v n xs) : lenOf v = n := by
 rcases h.2 with ⟨rfl, h0⟩ | ⟨g, cap, cur, rfl, _⟩
 ·simp [lenOf, h0]
 ·rfl

theorem GrpInv.few {w wr : World} {zs : List Int} {v : Value} {gs ys : List Int} (h : GrpInv w wr zs v gs ys) (hlb : LB zs) (hy : ys.length ≠ 0) : gs.length < 2 * zs.length := by
 obtain ⟨h1, h2, h3, h4, h5, h6, h7, h8, h9, h10, h11⟩ := h
 have e1 := lv_pos h1.2.1 h2 hy
 have e2 := lv_lt hlb
 have e3 := bp_le_gp zs.length
 have e4 := gp_pos gs.length
 have e5 : gp gs.length * 1 ≤ gp gs.length * lv ys := Int.mul_le_mul_of_nonneg_left (by omega) (by omega)
 by_cases hk : gs.length < 2 * zs.length
 ·exact hk
 ·have := gp_mono (m := 2 * zs.length) (n := gs.length) (by omega)
  omega

theorem GrpInv.step {w wr w1 w2 : World} {zs : List Int} {v v' : Value} {gs ys qs : List Int} {r : Int} {m : Nat} (h : GrpInv w wr zs v gs ys) (hr0 : 0 ≤ r) (hr1 : r < 1000000000)
  (hq : qs.length = ys.length) (hrow : Row w1 w.heap.size qs) (hg1 : wr.grownBy w1 (some w.heap.size)) (hlv : lv ys = 1000000000 * lv qs + r) (hpos : lv ys ≠ 0)
  (hown : w2.ownsRow (w.heap.size + 1) 3 1 v' (gs.length + 1) (gs.map (Value.int .i64) ++ [.int .i64 r])) (hg2 : (w1.alloc (.cells #[.int .i64 r] 3)).grownBy w2 v.ownBlock)
  (hm : m ≤ qs.length) (hlm : lv (qs.take m) = lv qs) (hnm : Nrm (qs.take m)) : GrpInv w w2 zs v' (gs ++ [r]) (qs.take m) := by
 obtain ⟨h1, h2, h3, h4, h5, h6, h7, h8, h9, h10, h11⟩ := h
 have hne : v.ownBlock ≠ some w.heap.size := fun e => by have := h4.lt _ e; omega
 have hbase : ∀ k, v.ownBlock = some k → w.heap.size ≤ k := fun k e => by have := h4.lt _ e; omega
 have b1 := h5.grown hg1 (by omega) (fun k hk => by simp at hk; omega)
 have b2 := b1.alloc b1.size (.cells #[.int .i64 r] 3)
 have b3 := b2.grown hg2 (by simp; have := b1.size; omega) hbase
 refine ⟨((hrow.kept (World.grownBy_alloc w1 _ none) (by simp)).kept hg2 hne).take m, hnm, by rw [List.length_take]; omega, ?_, b3, ?_, ?_, ?_, ?_, ?_, ?_⟩
 ·rw [List.length_append, List.map_append]; exact hown
 ·rw [gv_append, List.length_append, hlm, h6, hlv]
  simp only [List.length_singleton, gp]
  rw [Int.mul_add]
  have e : gp gs.length * (1000000000 * lv qs) = 1000000000 * gp gs.length * lv qs := by rw [Int.mul_left_comm, Int.mul_assoc]
  rw [e]
  omega
 ·intro g hg
  rcases List.mem_append.1 hg with hg | hg
  ·exact h7 g hg
  ·rw [List.mem_singleton.1 hg]; exact ⟨hr0, hr1⟩
 ·intro h0
  right
  rw [hlm] at h0
  rw [List.length_append, List.length_singleton, Nat.add_sub_cancel, List.getD_eq_getElem?_getD, List.getElem?_append_right (Nat.le_refl _), Nat.sub_self]
  simp
  omega
 ·rw [lenOf_owns hown]; simp
 ·have := b1.size; have := hg2.size; simp at this; have := h10; have := hg1.size; omega
 ·rw [gv_append]
  have := Int.mul_nonneg (show 0 ≤ gp gs.length from by have := gp_pos gs.length; omega) hr0
  omega

theorem trim_at (w : World) (ao : Option Addr) (cap : Nat) (zs : List Int) (n : Nat) (hn : zs.length = n) (h : Lim w (.slice ao n cap) zs) :
  Calls Try.prog 45 #[.slice ao n cap] w fun e w' => TrimPost w ao cap zs e w' := by
 subst hn; exact trim_any w ao cap zs h

def GrpPost (w : World) (zs : List Int) (e : Ending) (w' : World) : Prop :=
 ∃ v gs, e = .returned v ∧ w'.ownsRow (w.heap.size + 1) 3 1 v gs.length (gs.map (Value.int .i64)) ∧ Below w.heap.size w w' ∧ lv zs = gv gs ∧ (∀ g ∈ gs, 0 ≤ g ∧ g < 1000000000) ∧ (gs.length = 0 ∨ gs.getD (gs.length - 1) 0 ≠ 0) ∧ gs.length ≤ 2 * zs.length

end Go.Proofs.Ytcnllfnikajddaa

/- Library functions' contracts, laid at this translation: strconv.Itoa, bits.LeadingZeros32, strings.CutPrefix, the Builder's writes and its text. -/
namespace Go.Proofs
open Go.Shelf Go.RowKit Go.Sort
def Try.lays133_ren : Go.Shelf.Ren := ⟨fun | 133 => 68 | 128 => 80 | n => n, fun | 51 => 88 | 3 => 3 | 4 => 4 | 46 => 82 | 5 => 5 | 9 => 9 | n => n, fun | n => n⟩
theorem Try.lays133 : Go.Proofs.Lays.n133 Try.prog Try.lays133_ren := {
 mixed := by kernel_rfl
 f128 := Try.func80.trans (congrArg some (by kernel_rfl))
 f133 := Try.func68.trans (congrArg some (by kernel_rfl))
 t3 := Try.underlying3
 a3 := Try.isAgg3
 z3 := Try.sizeOf3
 v3 := Try.zeroValue3
 t4 := Try.underlying4
 a4 := Try.isAgg4
 z4 := Try.sizeOf4
 v4 := Try.zeroValue4
 t5 := Try.underlying5
 a5 := Try.isAgg5
 z5 := Try.sizeOf5
 v5 := Try.zeroValue5
 t9 := Try.underlying9
 a9 := Try.isAgg9
 z9 := Try.sizeOf9
 v9 := Try.zeroValue9
 t46 := Try.underlying82
 a46 := Try.isAgg82
 z46 := Try.sizeOf82
 v46 := Try.zeroValue82
 t51 := Try.underlying88
 a51 := Try.isAgg88
 z51 := Try.sizeOf88
 v51 := Try.zeroValue88 }
theorem Try.bits_LeadingZeros32 (x : Int) (w : World) (h0 : 0 ≤ x) (h1 : x ≤ 4294967295) :
  Calls Try.prog 68 #[.int .u32 x] w fun e w' => e = .returned (.int .i64 (32 - (Lib.bitLen x.toNat : Int))) ∧ w' = w := Any.bits_LeadingZeros32 Try.lays133 x w h0 h1
end Go.Proofs

/- Long division: the arithmetic. -/
namespace Go.Proofs.Ytcnllfnikajddaa
open Go.RowKit Limbs

theorem two_cast (L : Nat) : ((2 ^ L : Nat) : Int) = (2 : Int) ^ L := by norm_cast

set_option maxRecDepth 10000 in
theorem lz_any (x : Int) (h0 : 1 ≤ x) (h1 : x < 4294967296) : ∃ (s : Nat) (P Q : Int), Pow s P Q ∧ x * P < 4294967296 ∧ ∀ w, Calls Try.prog 68 #[.int .u32 x] w fun e w' => e = .returned (.int .i64 (s : Int)) ∧ w' = w := by
 obtain ⟨k, rfl⟩ := Int.eq_ofNat_of_zero_le (show 0 ≤ x by omega)
 obtain ⟨b1, -, b3⟩ := Lib.bitLenAux_bounds 64 k (by omega) (by omega)
 have b4 : Lib.bitLen k ≤ 32 := Lib.bitLen_le k 32 (by omega) (by omega)
 change 1 ≤ Lib.bitLen k at b1
 change k < 2 ^ Lib.bitLen k at b3
 have hc := fun w => Go.Proofs.Try.bits_LeadingZeros32 (k : Int) w (by omega) (by omega)
 rw [Int.toNat_natCast] at hc
 generalize Lib.bitLen k = L at *
 obtain ⟨P, Q, hP⟩ := pow_any (32 - L) (by omega)
 refine ⟨32 - L, P, Q, hP, ?_, fun w => ?_⟩
 ·have e : ((2 ^ L : Nat) : Int) * P = 4294967296 := by
   have e0 := two_cast L
   rw [← hP.eq, e0, ← Int.pow_add, show L + (32 - L) = 32 by omega]; decide
  rw [← e]
  have hk : (k : Int) < ((2 ^ L : Nat) : Int) := Int.ofNat_lt.2 b3
  exact Int.mul_lt_mul_of_pos_right hk (by have := hP.pos; omega)
 ·have := hc w
  rwa [show (32 : Int) - (L : Int) = ((32 - L : Nat) : Int) by omega] at this

theorem seg_le {zs : List Int} (h : LB zs) (off k : Nat) (hk : off + k ≤ zs.length) : seg zs off k ≤ lv (zs.drop off) := by
 have e := lv_split (zs.drop off) k (by rw [List.length_drop]; omega)
 have n0 := lv_nonneg (LB_drop (LB_drop h off) k)
 have : 0 ≤ bp k * lv ((zs.drop off).drop k) := Int.mul_nonneg (by have := bp_pos k; omega) n0
 unfold seg
 omega

theorem long_pre {zs : List Int} {at_ n : Nat} {D : Int} (hz : LB zs) (hn : at_ + n + 1 ≤ zs.length) (hlow : lv (zs.drop (at_ + 1)) < D) : seg zs at_ (n + 1) < D * 4294967296 := by
 have h1 := seg_le hz at_ (n + 1) (by omega)
 rw [drop_cons_getD zs at_ (by omega)] at h1
 simp only [lv] at h1
 have h2 := hz at_
 omega

theorem high_zero {zs : List Int} {k n : Nat} {D : Int} (hz : LB zs) (hn : k + n ≤ zs.length) (hlow : lv (zs.drop k) < D) (hD : D ≤ bp n) : lv (zs.drop (k + n)) = 0 := by
 have e := lv_split (zs.drop k) n (by rw [List.length_drop]; omega)
 rw [List.drop_drop] at e
 have n0 := lv_nonneg (LB_drop hz (k + n))
 have t0 := lv_take_nonneg (LB_drop hz k) n
 rcases Int.lt_or_le (lv (zs.drop (k + n))) 1 with h | h
 ·omega
 ·have := bp_pos n
  have : bp n * 1 ≤ bp n * lv (zs.drop (k + n)) := Int.mul_le_mul_of_nonneg_left h (by omega)
  omega

theorem long_step {zs ys qs : List Int} {k n : Nat} {D q VAL : Int} (hz : LB zs) (hn : k + n + 1 ≤ zs.length) (hq : k < qs.length)
  (hval : VAL = D * (bp (k + 1) * lv (qs.drop (k + 1))) + lv zs) (hlow : lv (zs.drop (k + 1)) < D) (hD : D ≤ bp n)
  (ho : Only zs ys k (n + 1)) (hst : seg zs k (n + 1) = q * D + seg ys k (n + 1)) (hlt : seg ys k (n + 1) < D) :
  VAL = D * (bp k * lv ((qs.set k q).drop k)) + lv ys ∧ lv (ys.drop k) < D := by
 have hZ := high_zero hz (by omega) hlow hD
 have e1 := lv_split zs k (by omega)
 have e2 := lv_split ys k (by rw [ho.len]; omega)
 have f1 := lv_split (zs.drop k) (n + 1) (by rw [List.length_drop]; omega)
 have f2 := lv_split (ys.drop k) (n + 1) (by rw [List.length_drop, ho.len]; omega)
 rw [List.drop_drop] at f1 f2
 rw [ho.high] at f2
 rw [show k + (n + 1) = k + 1 + n by omega, hZ, Int.mul_zero, Int.add_zero] at f1 f2
 rw [ho.low] at e2
 change lv (zs.drop k) = seg zs k (n + 1) at f1
 change lv (ys.drop k) = seg ys k (n + 1) at f2
 refine ⟨?_, by omega⟩
 rw [drop_cons_getD (qs.set k q) k (by rw [List.length_set]; exact hq), drop_set_lt _ _ _ _ (show k < k + 1 by omega), getD_set _ _ _ _ hq, if_pos rfl]
 simp only [lv]
 rw [f1, hst] at e1
 rw [f2] at e2
 rw [hval, e1, e2, Int.mul_add (bp k), Int.mul_add (bp k), Int.mul_add D]
 have g1 : D * (bp (k + 1) * lv (qs.drop (k + 1))) = D * (bp k * (4294967296 * lv (qs.drop (k + 1)))) := by simp only [bp]; ac_rfl
 have g2 : D * (bp k * q) = bp k * (q * D) := by ac_rfl
 rw [g1, g2]
 omega

theorem long_start {zs a b : List Int} {M : Nat} {P : Int} (hz : LB zs) (ha : LB a) (hb : LB b) (nb : Nrm b) (h0 : 0 < b.length) (hM : M + b.length = a.length + 1) (hl : zs.length = a.length + 1) (hv : lv zs = lv a * P) (hP : 1 ≤ P) : lv (zs.drop M) < lv b * P := by
 have e := lv_split zs M (by omega)
 have t0 := lv_take_nonneg hz M
 have h1 := lv_lt ha
 have h2 := nrm_low hb nb h0
 have hp := bp_pos M
 have h3 : bp (b.length - 1) * bp M = bp a.length := by rw [← bp_add]; congr 1; omega
 have h4 : bp (b.length - 1) * bp M ≤ lv b * bp M := Int.mul_le_mul_of_nonneg_right h2 (by omega)
 have h5 : lv a * P < lv b * bp M * P := Int.mul_lt_mul_of_pos_right (by omega) (by omega)
 have h6 : bp M * lv (zs.drop M) < bp M * (lv b * P) := by
  have : bp M * (lv b * P) = lv b * bp M * P := by ac_rfl
  omega
 exact Int.lt_of_mul_lt_mul_left h6 (by omega)

theorem long_end {A V q Z P : Int} (hP : 1 ≤ P) (h : A * P = V * P * q + Z) (h0 : 0 ≤ Z) (h1 : Z < V * P) : A = V * q + Z / P ∧ 0 ≤ Z / P ∧ Z / P < V := by
 have e : Z = (A - V * q) * P := by
  have : V * P * q = V * q * P := by ac_rfl
  rw [Int.sub_mul]; omega
 have d : Z / P = A - V * q := by rw [e]; exact Int.mul_ediv_cancel _ (by omega)
 refine ⟨by omega, Int.ediv_nonneg h0 (by omega), ?_⟩
 rw [Int.ediv_lt_iff_lt_mul (by omega : 0 < P)]
 exact h1

theorem div_len {d b : List Int} {P : Int} (hd : LB d) (nd : Nrm d) (hb : LB b) (nb : Nrm b) (h0 : 0 < b.length) (hP : 1 ≤ P) (hv : lv d = lv b * P) (hx : b.getD (b.length - 1) 0 * P < 4294967296) (hPP : ∃ Q, P * Q = 4294967296) :
  d.length = b.length ∧ lv d < bp b.length := by
 have h1 := nrm_low hb nb h0
 have e := lv_split b (b.length - 1) (by omega)
 rw [drop_cons_getD b (b.length - 1) (by omega), List.drop_eq_nil_of_le (by omega)] at e
 simp only [lv, Int.mul_zero, Int.add_zero] at e
 have t1 := lv_take_lt hb (b.length - 1)
 have hp := bp_pos (b.length - 1)
 obtain ⟨Q, hQ⟩ := hPP
 have hx2 : (b.getD (b.length - 1) 0 + 1) * P ≤ 4294967296 := by
  rw [← hQ, Int.mul_comm P Q] at hx ⊢
  have := Int.lt_of_mul_lt_mul_right hx (by omega)
  exact Int.mul_le_mul_of_nonneg_right (by omega) (by omega)
 have b1 : bp b.length = bp (b.length - 1) * 4294967296 := by
  conv => lhs; rw [← Nat.sub_add_cancel (show 1 ≤ b.length by omega)]
  simp only [bp]; rw [Int.mul_comm]
 have h2 : lv b * P < bp b.length := by
  have g1 : lv b * P < bp (b.length - 1) * (b.getD (b.length - 1) 0 + 1) * P := Int.mul_lt_mul_of_pos_right (by rw [Int.mul_add, Int.mul_one]; omega) (by omega)
  have g2 : bp (b.length - 1) * ((b.getD (b.length - 1) 0 + 1) * P) ≤ bp (b.length - 1) * 4294967296 := Int.mul_le_mul_of_nonneg_left hx2 (by omega)
  rw [← Int.mul_assoc] at g2
  omega
 have h3 : lv b * 1 ≤ lv b * P := Int.mul_le_mul_of_nonneg_left hP (by omega)
 refine ⟨?_, by omega⟩
 have l1 := length_le_of_lt hd nd (n := b.length) (by omega)
 rcases Nat.lt_or_ge d.length b.length with h | h
 ·have l2 := lv_lt hd
  have l3 : bp d.length ≤ bp (b.length - 1) := bp_mono (by omega)
  omega
 ·omega

end Go.Proofs.Ytcnllfnikajddaa

/- Limbs divided by limbs: where there is nothing to do, and by one limb. -/
namespace Go.Proofs.Ytcnllfnikajddaa
open Go.RowKit Limbs

def DivPost (w : World) (a b : List Int) (e : Ending) (w' : World) : Prop :=
 ∃ v1 v2 qs rs, e = .returned (.tuple #[v1, v2]) ∧ Lim w' v1 qs ∧ Lim w' v2 rs ∧ Nrm qs ∧ Nrm rs ∧ lv a = lv b * lv qs + lv rs ∧ lv rs < lv b ∧ qs.length ≤ a.length ∧ rs.length ≤ b.length ∧ Below w.heap.size w w'

theorem Lim.nil (w : World) : Lim w (.slice none 0 0) [] := ⟨none, 0, rfl, Nat.le_refl _, by simp, LB_nil, fun h => absurd h (by simp)⟩

theorem Nrm.nil : Nrm [] := .inl rfl

theorem below_grown {B : Nat} {w W W' : World} {g : Nat} (h : Below B w W) (hg : W.grownBy W' (some g)) (hB : B ≤ g) (hs : B ≤ W.heap.size) : Below B w W' where
 os := hg.os.trans h.os
 tape := hg.tape.trans h.tape
 output := hg.output.trans h.output
 size := Nat.le_trans h.size hg.size
 block := fun j hj => (hg.block j (by omega) (by simp; omega)).trans (h.block j hj)

set_option maxRecDepth 100000 in
set_option maxHeartbeats 800000 in
theorem divLimbs_less (w : World) (va vb : Value) (a b : List Int) (ha : Lim w va a) (hb : Lim w vb b) (na : Nrm a) (nb : Nrm b) (hlt : lv a < lv b) :
  Calls Try.prog 57 #[va, vb] w fun e w' => DivPost w a b e w' := by
 have HA := hide ha; have HB := hide hb
 obtain ⟨ao, acap, rfl, hacap, halen, halb, -⟩ := ha
 obtain ⟨bo, bcap, rfl, hbcap, hblen, hblb, -⟩ := hb
 have hc := cmpI_lt hlt
 have HF := hide (show lv a = lv b * lv [] + lv a by simp [lv])
 have HL := hide (show a.length ≤ b.length by
  by_cases h : b.length < a.length
  ·have := lv_lt_of_length hblb halb na h; omega
  ·omega)
 go_enter Try.func57, Try.ntmps57
 go_wp2_with fail
 refine (compareLimbs_any w _ _ a b HA.out HB.out na nb).mono ?_
 rintro e w1 ⟨rfl, hb1⟩
 rw [hc]
 go_wp2_with fail
 refine (freshLimbs_any w1 _ a (HA.out.below hb1 (Nat.le_refl _))).mono ?_
 rintro e w2 ⟨rfl, hr2, hb2⟩
 go_wp2
 go_ret2
 exact ⟨_, _, [], a, rfl, Lim.nil _, hr2.lim _ (Nat.le_refl _) halen, Nrm.nil, na, HF.out, hlt, by simp, HL.out, hb1.trans (hb2.mono hb1.size)⟩

theorem row_one (w : World) (r : Int) (hr : 0 ≤ r ∧ r < 4294967296) : Row (w.alloc (.cells #[.int .u32 r] 88)) w.heap.size [r] := by
 refine ⟨by simp, LB_cons hr LB_nil, fun j hj => ?_⟩
 obtain rfl : j = 0 := by simpa using hj
 exact ⟨by rw [World.cell?_alloc_new]; simp, World.frozen?_alloc_new _ _ _ _⟩

set_option maxRecDepth 100000 in
set_option maxHeartbeats 800000 in
theorem divLimbs_one (w : World) (va vb : Value) (a b : List Int) (ha : Lim w va a) (hb : Lim w vb b) (na : Nrm a) (nb : Nrm b) (hge : lv b ≤ lv a) (h1 : b.length = 1) :
  Calls Try.prog 57 #[va, vb] w fun e w' => DivPost w a b e w' := by
 have HA := hide ha; have HB := hide hb
 obtain ⟨ao, acap, rfl, hacap, halen, halb, -⟩ := ha
 obtain ⟨bo, bcap, rfl, hbcap, hblen, hblb, hbc⟩ := hb
 obtain ⟨bb, boff, rfl, hbb, hbc⟩ := hbc (by omega)
 obtain ⟨y, rfl⟩ : ∃ y, b = [y] := by
  match b, h1 with
  | [y], _ => exact ⟨y, rfl⟩
 have hb0 := hbc 0 (by simp)
 have hy : 0 < y ∧ y < 4294967296 := by
  have h2 := hblb 0
  have h3 : y ≠ 0 := by rcases nb with h | h <;> simp at h; exact h
  simp at h2
  omega
 simp only [List.getD_cons_zero, Nat.add_zero] at hb0
 clear hbc
 have hcm : ¬ cmpI (lv a) (lv [y]) < 0 := by
  by_cases h : lv [y] < lv a
  ·rw [cmpI_gt h]; decide
  ·rw [cmpI_eq (by omega)]; decide
 go_enter Try.func57, Try.ntmps57
 go_wp2_with fail
 refine (compareLimbs_any w _ _ a [y] HA.out HB.out na nb).mono ?_
 rintro e w1 ⟨rfl, hb1⟩
 generalize cmpI (lv a) (lv [y]) = c at *
 go_wp2_with fail
 refine (freshLimbs_any w1 _ a (HA.out.below hb1 (Nat.le_refl _))).mono ?_
 rintro e w2 ⟨rfl, hr2, hb2⟩
 have hB2 := hb1.trans (hb2.mono hb1.size)
 have hcb : w2.cell? ⟨bb, boff, none⟩ = some (.int .u32 y) := (hB2.cell (p := ⟨bb, boff, none⟩) hbb).trans hb0
 go_wp2_with fail
 refine (divByLimb_any w2 w1.heap.size a.length a y hr2 halen hy.1 hy.2).mono ?_
 rintro e w3 ⟨r, qs, rfl, hr0, hr1, hql, hrow, hgr, hval⟩
 have hB3 := below_grown hB2 hgr hb1.size hB2.size
 have HV := hide hval
 clear hval hgr hr2 hcb
 go_wp2_with fail
 refine (trim_at w3 _ _ qs a.length hql (by have := hrow.lim a.length (by omega) (by omega); rwa [hql] at this)).mono ?_
 rintro e w4 ⟨m, hm, rfl, hlm, hnm, rfl⟩
 have HLM := hide hlm
 clear hlm
 have hone := row_one w4 r ⟨hr0, by omega⟩
 go_wp2_with fail
 refine (trim_at _ _ _ [r] 1 rfl (hone.lim 1 (by simp) (by simp))).mono ?_
 rintro e w5 ⟨k, hk, rfl, hlk, hnk, rfl⟩
 have HLK := hide hlk
 clear hlk
 have hq' : Lim w4 (.slice (some ⟨w1.heap.size, 0, none⟩) m a.length) (qs.take m) := by
  have := (hrow.lim a.length (by omega) (by omega)).take m hm
  exact this
 have hr' := (hone.lim 1 (by simp) (by simp)).take k hk
 have hba := (Below.refl w4.heap.size w4).alloc (Nat.le_refl _) (.cells #[.int .u32 r] 88)
 have hA : lv a = lv [y] * lv (qs.take m) + lv ([r].take k) := by rw [HLM.out, HLK.out, HV.out]; simp [lv]
 have hR : lv ([r].take k) < lv [y] := by rw [HLK.out]; simpa [lv] using hr1
 have HF := hide (show DivPost w a [y] (.returned (.tuple #[.slice (some ⟨w1.heap.size, 0, none⟩) m a.length, .slice (some ⟨w4.heap.size, 0, none⟩) k 1])) (w4.alloc (.cells #[.int .u32 r] 88)) from
  ⟨_, _, _, _, rfl, hq'.below hba (Nat.le_refl _), hr', hnm, hnk, hA, hR, by rw [List.length_take]; omega, by rw [List.length_take]; simp; omega, hB3.trans (hba.mono hB3.size)⟩)
 clear hq' hr' hba hA hR hone hrow
 go_wp2
 go_ret2
 exact HF.out

end Go.Proofs.Ytcnllfnikajddaa
