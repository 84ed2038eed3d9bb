/- Groups of nine decimal digits. -/
import Derived.Test.YtajcdhaaldhlaaaGreatDoorShift
import Derived.Deep.AppendLies
import Derived.Shelf.Small.Bits
import Derived.Shelf.Small.Wraps
import Derived.Shelf.Strings.BuilderK
import Derived.Shelf.Strconv.Itoa3
import Derived.Test.YtajcdhaaldhlaaaGreatDoorProg
import Derived.Test.YtajcdhaaldhlaaaGreatDoorStepW

namespace Go.Proofs.YtajcdhaaldhlaaaGreatDoor
open Go.RowKit Limbs

def gv : List Int → Int
 | [] => 0
 | x :: xs => x + 1000000000 * gv xs

def gp : Nat → Int
 | 0 => 1
 | n + 1 => 1000000000 * gp n

theorem gp_pos (n : Nat) : 0 < gp n := by
 induction n with
 | zero => simp [gp]
 | succ n ih => simp only [gp]; omega

theorem gp_mono {m n : Nat} (h : m ≤ n) : gp m ≤ gp n := by
 induction n with
 | zero => rw [Nat.le_zero.1 h]; exact Int.le_refl _
 | succ n ih =>
  by_cases e : m = n + 1
  ·rw [e]; exact Int.le_refl _
  ·have := ih (by omega); have := gp_pos n; simp only [gp]; omega

theorem gv_append (xs : List Int) (r : Int) : gv (xs ++ [r]) = gv xs + gp xs.length * r := by
 induction xs with
 | nil => simp [gv, gp]
 | cons x xs ih => simp only [List.cons_append, gv, ih, List.length_cons, gp]; rw [Int.mul_add, Int.mul_assoc]; omega

theorem bp_le_gp (n : Nat) : bp n ≤ gp (2 * n) := by
 induction n with
 | zero => simp [bp, gp]
 | succ n ih => rw [show 2 * (n + 1) = 2 * n + 1 + 1 by omega]; simp only [bp, gp]; have := gp_pos (2 * n); omega

theorem Row.take {w : World} {g : Nat} {zs : List Int} (h : Row w g zs) (n : Nat) : Row w g (zs.take n) := by
 obtain ⟨h1, h2, h3⟩ := h
 refine ⟨h1, LB_take h2 n, fun j hj => ?_⟩
 rw [List.length_take] at hj
 rw [getD_take zs n j (by omega)]
 exact h3 j (by omega)

theorem Row.kept {w w' : World} {g : Nat} {zs : List Int} {r : Option Nat} (h : Row w g zs) (hg : w.grownBy w' r) (hne : r ≠ some g) : Row w' g zs := by
 obtain ⟨h1, h2, h3⟩ := h
 have hb : w'.heap[g]? = w.heap[g]? := hg.block g h1 (fun e => hne e.symm)
 exact ⟨Nat.lt_of_lt_of_le h1 hg.size, h2, fun j hj => ⟨(World.cell?_of_block (a := ⟨g, j, none⟩) hb).trans (h3 j hj).1, (World.frozen?_of_block (a := ⟨g, j, none⟩) hb).trans (h3 j hj).2⟩⟩

def GrpInv (w wr : World) (zs : List Int) (v : Value) (gs ys : List Int) : Prop :=
 Row wr w.heap.size ys ∧ Nrm ys ∧ ys.length ≤ zs.length ∧ wr.ownsRow (w.heap.size + 1) 3 1 v gs.length (gs.map (Value.int .i64)) ∧ Below w.heap.size w wr ∧
  lv zs = gv gs + gp gs.length * lv ys ∧ (∀ g ∈ gs, 0 ≤ g ∧ g < 1000000000) ∧ (lv ys = 0 → gs.length = 0 ∨ gs.getD (gs.length - 1) 0 ≠ 0) ∧ lenOf v = gs.length ∧ w.heap.size < wr.heap.size ∧ 0 ≤ gv gs

theorem lenOf_owns {w : World} {base n : Nat} {e : TypeId} {v : Value} {xs : List Value} (h : w.ownsRow base e 1 v n xs) : lenOf v = n := by
 rcases h.2 with ⟨rfl, h0⟩ | ⟨g, cap, cur, rfl, _⟩
 ·simp [lenOf, h0]
 ·rfl

theorem GrpInv.few {w wr : World} {zs : List Int} {v : Value} {gs ys : List Int} (h : GrpInv w wr zs v gs ys) (hlb : LB zs) (hy : ys.length ≠ 0) : gs.length < 2 * zs.length := by
 obtain ⟨h1, h2, h3, h4, h5, h6, h7, h8, h9, h10, h11⟩ := h
 have e1 := lv_pos h1.2.1 h2 hy
 have e2 := lv_lt hlb
 have e3 := bp_le_gp zs.length
 have e4 := gp_pos gs.length
 have e5 : gp gs.length * 1 ≤ gp gs.length * lv ys := Int.mul_le_mul_of_nonneg_left (by omega) (by omega)
 by_cases hk : gs.length < 2 * zs.length
 ·exact hk
 ·have := gp_mono (m := 2 * zs.length) (n := gs.length) (by omega)
  omega

theorem GrpInv.step {w wr w1 w2 : World} {zs : List Int} {v v' : Value} {gs ys qs : List Int} {r : Int} {m : Nat} (h : GrpInv w wr zs v gs ys) (hr0 : 0 ≤ r) (hr1 : r < 1000000000)
  (hq : qs.length = ys.length) (hrow : Row w1 w.heap.size qs) (hg1 : wr.grownBy w1 (some w.heap.size)) (hlv : lv ys = 1000000000 * lv qs + r) (hpos : lv ys ≠ 0)
  (hown : w2.ownsRow (w.heap.size + 1) 3 1 v' (gs.length + 1) (gs.map (Value.int .i64) ++ [.int .i64 r])) (hg2 : (w1.alloc (.cells #[.int .i64 r] 3)).grownBy w2 v.ownBlock)
  (hm : m ≤ qs.length) (hlm : lv (qs.take m) = lv qs) (hnm : Nrm (qs.take m)) : GrpInv w w2 zs v' (gs ++ [r]) (qs.take m) := by
 obtain ⟨h1, h2, h3, h4, h5, h6, h7, h8, h9, h10, h11⟩ := h
 have hne : v.ownBlock ≠ some w.heap.size := fun e => by have := h4.lt _ e; omega
 have hbase : ∀ k, v.ownBlock = some k → w.heap.size ≤ k := fun k e => by have := h4.lt _ e; omega
 have b1 := h5.grown hg1 (by omega) (fun k hk => by simp at hk; omega)
 have b2 := b1.alloc b1.size (.cells #[.int .i64 r] 3)
 have b3 := b2.grown hg2 (by simp; have := b1.size; omega) hbase
 refine ⟨((hrow.kept (World.grownBy_alloc w1 _ none) (by simp)).kept hg2 hne).take m, hnm, by rw [List.length_take]; omega, ?_, b3, ?_, ?_, ?_, ?_, ?_, ?_⟩
 ·rw [List.length_append, List.map_append]; exact hown
 ·rw [gv_append, List.length_append, hlm, h6, hlv]
  simp only [List.length_singleton, gp]
  rw [Int.mul_add]
  have e : gp gs.length * (1000000000 * lv qs) = 1000000000 * gp gs.length * lv qs := by rw [Int.mul_left_comm, Int.mul_assoc]
  rw [e]
  omega
 ·intro g hg
  rcases List.mem_append.1 hg with hg | hg
  ·exact h7 g hg
  ·rw [List.mem_singleton.1 hg]; exact ⟨hr0, hr1⟩
 ·intro h0
  right
  rw [hlm] at h0
  rw [List.length_append, List.length_singleton, Nat.add_sub_cancel, List.getD_eq_getElem?_getD, List.getElem?_append_right (Nat.le_refl _), Nat.sub_self]
  simp
  omega
 ·rw [lenOf_owns hown]; simp
 ·have := b1.size; have := hg2.size; simp at this; have := h10; have := hg1.size; omega
 ·rw [gv_append]
  have := Int.mul_nonneg (show 0 ≤ gp gs.length from by have := gp_pos gs.length; omega) hr0
  omega

theorem trim_at (w : World) (ao : Option Addr) (cap : Nat) (zs : List Int) (n : Nat) (hn : zs.length = n) (h : Lim w (.slice ao n cap) zs) :
  Calls Tryz.prog 68 #[.slice ao n cap] w fun e w' => TrimPost w ao cap zs e w' := by
 subst hn; exact trim_any w ao cap zs h

def GrpPost (w : World) (zs : List Int) (e : Ending) (w' : World) : Prop :=
 ∃ v gs, e = .returned v ∧ w'.ownsRow (w.heap.size + 1) 3 1 v gs.length (gs.map (Value.int .i64)) ∧ Below w.heap.size w w' ∧ lv zs = gv gs ∧ (∀ g ∈ gs, 0 ≤ g ∧ g < 1000000000) ∧ (gs.length = 0 ∨ gs.getD (gs.length - 1) 0 ≠ 0) ∧ gs.length ≤ 2 * zs.length

theorem Tryz.infoInt : (Tryz.prog.info? 3).map (fun i => (i.zero, i.size, i.bytes)) = some (some (.int .i64 0), 1, 8) := by kernel_rfl

set_option maxRecDepth 100000 in
set_option maxHeartbeats 1000000 in
theorem digitGroups_any (w : World) (v : Value) (zs : List Int) (h : Lim w v zs) (hn : Nrm zs) :
  Calls Tryz.prog 89 #[v] w fun e w' => GrpPost w zs e w' := by
 have HL := hide h
 obtain ⟨ao, cap, rfl, hcap, hlen, hlb, hc⟩ := h
 clear hc
 obtain ⟨i0, hi, hz0, hz1, hz2⟩ := info_parts Tryz.infoInt
 go_enter Tryz.func89, Tryz.ntmps89
 go_wp2_with fail
 refine (freshLimbs_any _ _ zs HL.out).mono ?_
 rintro e w1 ⟨rfl, hr1, hb1⟩
 go_wp2
 go_loopw [3, 4] (fun g t wr => ∃ gs ys : List Int, t = .slice (some ⟨w.heap.size, 0, none⟩) ys.length zs.length ∧ gs.length ≤ 2 * zs.length ∧ GrpInv w wr zs g gs ys) (fun g _ _ => 2 * zs.length - lenOf g)
 case atStart => exact ⟨[], zs, rfl, Nat.zero_le _, hr1, hn, Nat.le_refl _, World.ownsRow_nil _ _ _ _, hb1, by simp [gv, gp], by simp, fun _ => .inl rfl, rfl, hr1.1, by simp [gv]⟩
 case round =>
  obtain ⟨gs, ys, rfl, hgl, hinv⟩ := hrel
  by_cases hy : ys.length = 0
  ·have HF : Hid (GrpPost w zs (.returned u3) wr) := by
    obtain ⟨h1, h2, h3, h4, h5, h6, h7, h8, h9, h10, h11⟩ := hinv
    have e0 : ys = [] := List.eq_nil_of_length_eq_zero hy
    subst e0
    exact ⟨_, gs, rfl, h4, h5, by simpa [lv] using h6, h7, h8 rfl, hgl⟩
   clear hinv
   go_wp2
   go_ret
   exact HF.out
  ·have hfew := hinv.few hlb hy
   have hpos := lv_pos hinv.1.2.1 hinv.2.1 hy
   have hyl := hinv.2.2.1
   have hle9 := hinv.2.2.2.2.2.2.2.2.1
   have hown := hinv.2.2.2.1
   have hwz := hinv.2.2.2.2.2.2.2.2.2.1
   go_wp2_with fail
   refine (divByLimb_any wr w.heap.size zs.length ys 1000000000 hinv.1 (by omega) (by decide) (by decide)).mono ?_
   rintro e w2 ⟨r, qs, rfl, hr0, hr1', hql, hrow, hg1, hlv⟩
   have hst := fun v' w3 m hown' hg2 hm hlm hnm => hinv.step (v' := v') (w2 := w3) (m := m) hr0 hr1' hql hrow hg1 hlv (by omega) hown' hg2 hm hlm hnm
   have HS := hide hst
   have hown2 := hown.kept hg1 (.inr (fun e => by have := hown.lt _ e; omega))
   have hw2 := hg1.size
   have HR := hide hrow
   clear hst hinv hrow hg1 hown
   have HLV := hide hlv; clear hlv
   go_wp2_with (at_builtin; refine wpList_append_lies _ rfl _ _ 25 rfl (w.heap.size + 1) 3 i0 (.int .i64 0) 1 8 Tryz.underlying25 hi hz0 hz1 hz2 rfl (by decide) u3 gs.length (gs.map (Value.int .i64)) rfl (hown2.alloc _) ⟨w2.heap.size, 0, none⟩ 1 1 [.int .i64 r] rfl rfl ?c1 ?c2 (by decide) ?c3 ?c4 ?c5 (w2.heap.size + 1) (by simp) ?_)
   case c1 => exact World.news_of_block (heap_alloc_new w2 _)
   case c2 => intro u hu; simp at hu; subst hu; rfl
   case c3 => unfold maxLen; omega
   case c4 => omega
   case c5 => simp; omega
   intro g cap' w3 hown3 hgrow3 hat3 hlt3
   have hRw3 : Row w3 w.heap.size qs := (HR.out.kept (World.grownBy_alloc w2 _ none) (by simp)).kept hgrow3 (fun e => by have := hown2.lt _ e; omega)
   clear hat3
   go_wp2_with fail
   refine (trim_at w3 _ zs.length qs ys.length hql (hql ▸ hRw3.lim zs.length (by omega) (by omega))).mono ?_
   rintro e w4 ⟨m, hm, rfl, hlm, hnm, rfl⟩
   have HF := hide (HS.out _ _ m hown3 hgrow3 hm hlm hnm)
   have hml : (qs.take m).length = m := by rw [List.length_take]; omega
   have hll := lenOf_owns hown3
   clear hown3 hgrow3 hlm hnm HS hRw3 HR hown2
   go_wp2
   go_roundw
   case rel => exact ⟨gs ++ [r], qs.take m, by rw [hml], by rw [List.length_append, List.length_singleton]; omega, HF.out⟩
   case measure =>
    show 2 * zs.length - (gs.length + 1) < 2 * zs.length - lenOf u3
    omega

end Go.Proofs.YtajcdhaaldhlaaaGreatDoor

/- Library functions' contracts, laid at this translation: strconv.Itoa, bits.LeadingZeros32, strings.CutPrefix, the Builder's writes and its text. -/
namespace Go.Proofs
open Go.Shelf Go.RowKit Go.Sort
def Tryz.lays171_ren : Go.Shelf.Ren := ⟨fun | 171 => 92 | 243 => 115 | 246 => 127 | 283 => 133 | 284 => 134 | 285 => 135 | 286 => 136 | 129 => 139 | 317 => 138 | 318 => 140 | 319 => 141 | 320 => 142 | 337 => 143 | 338 => 144 | n => n, fun | 3 => 3 | 9 => 9 | 2 => 2 | 4 => 4 | 171 => 178 | 0 => 0 | 53 => 100 | 37 => 140 | 5 => 5 | 173 => 181 | 212 => 185 | 51 => 101 | 20 => 20 | 213 => 186 | 46 => 102 | 232 => 188 | 233 => 189 | n => n, fun | 17 => 2 | 18 => 3 | 19 => 4 | n => n⟩
theorem Tryz.lays171 : Go.Proofs.Lays.n171 Tryz.prog Tryz.lays171_ren := {
 mixed := by kernel_rfl
 f129 := Tryz.func139.trans (congrArg some (by kernel_rfl))
 f171 := Tryz.func92.trans (congrArg some (by kernel_rfl))
 f243 := Tryz.func115.trans (congrArg some (by kernel_rfl))
 f246 := Tryz.func127.trans (congrArg some (by kernel_rfl))
 f283 := Tryz.func133.trans (congrArg some (by kernel_rfl))
 f284 := Tryz.func134.trans (congrArg some (by kernel_rfl))
 f285 := Tryz.func135.trans (congrArg some (by kernel_rfl))
 f286 := Tryz.func136.trans (congrArg some (by kernel_rfl))
 f317 := Tryz.func138.trans (congrArg some (by kernel_rfl))
 f318 := Tryz.func140.trans (congrArg some (by kernel_rfl))
 f319 := Tryz.func141.trans (congrArg some (by kernel_rfl))
 f320 := Tryz.func142.trans (congrArg some (by kernel_rfl))
 f337 := Tryz.func143.trans (congrArg some (by kernel_rfl))
 f338 := Tryz.func144.trans (congrArg some (by kernel_rfl))
 t0 := Tryz.underlying0
 a0 := Tryz.isAgg0
 z0 := Tryz.sizeOf0
 v0 := Tryz.zeroValue0
 t2 := Tryz.underlying2
 a2 := Tryz.isAgg2
 z2 := Tryz.sizeOf2
 v2 := Tryz.zeroValue2
 t3 := Tryz.underlying3
 a3 := Tryz.isAgg3
 z3 := Tryz.sizeOf3
 v3 := Tryz.zeroValue3
 t4 := Tryz.underlying4
 a4 := Tryz.isAgg4
 z4 := Tryz.sizeOf4
 v4 := Tryz.zeroValue4
 t5 := Tryz.underlying5
 a5 := Tryz.isAgg5
 z5 := Tryz.sizeOf5
 v5 := Tryz.zeroValue5
 t9 := Tryz.underlying9
 a9 := Tryz.isAgg9
 z9 := Tryz.sizeOf9
 v9 := Tryz.zeroValue9
 t20 := Tryz.underlying20
 a20 := Tryz.isAgg20
 z20 := Tryz.sizeOf20
 v20 := Tryz.zeroValue20
 t37 := Tryz.underlying140
 a37 := Tryz.isAgg140
 z37 := Tryz.sizeOf140
 v37 := Tryz.zeroValue140
 t46 := Tryz.underlying102
 a46 := Tryz.isAgg102
 z46 := Tryz.sizeOf102
 v46 := Tryz.zeroValue102
 t51 := Tryz.underlying101
 a51 := Tryz.isAgg101
 z51 := Tryz.sizeOf101
 v51 := Tryz.zeroValue101
 t53 := Tryz.underlying100
 a53 := Tryz.isAgg100
 z53 := Tryz.sizeOf100
 v53 := Tryz.zeroValue100
 t171 := Tryz.underlying178
 a171 := Tryz.isAgg178
 z171 := Tryz.sizeOf178
 v171 := Tryz.zeroValue178
 t173 := Tryz.underlying181
 a173 := Tryz.isAgg181
 z173 := Tryz.sizeOf181
 v173 := Tryz.zeroValue181
 t212 := Tryz.underlying185
 a212 := Tryz.isAgg185
 z212 := Tryz.sizeOf185
 v212 := Tryz.zeroValue185
 t213 := Tryz.underlying186
 a213 := Tryz.isAgg186
 z213 := Tryz.sizeOf186
 t232 := Tryz.underlying188
 a232 := Tryz.isAgg188
 z232 := Tryz.sizeOf188
 v232 := Tryz.zeroValue188
 t233 := Tryz.underlying189
 a233 := Tryz.isAgg189
 z233 := Tryz.sizeOf189
 v233 := Tryz.zeroValue189
 g17 := by kernel_rfl
 g18 := by kernel_rfl
 g19 := by kernel_rfl }
open Go.RowKit Go.Sort Go.Lib in
theorem Tryz.strconv_Itoa_small (i : Nat) (hi : i < 100) (w : World) :
  Calls Tryz.prog 92 #[.int .i64 i] w fun e w' => e = .returned (.string ⟨(Lib.decDigits i).toArray⟩) ∧ w' = w := Any.strconv_Itoa_small Tryz.lays171 i hi w

def Tryz.lays133_ren : Go.Shelf.Ren := ⟨fun | 133 => 80 | 128 => 109 | n => n, fun | 51 => 101 | 3 => 3 | 4 => 4 | 46 => 102 | 5 => 5 | 9 => 9 | n => n, fun | n => n⟩
theorem Tryz.lays133 : Go.Proofs.Lays.n133 Tryz.prog Tryz.lays133_ren := {
 mixed := by kernel_rfl
 f128 := Tryz.func109.trans (congrArg some (by kernel_rfl))
 f133 := Tryz.func80.trans (congrArg some (by kernel_rfl))
 t3 := Tryz.underlying3
 a3 := Tryz.isAgg3
 z3 := Tryz.sizeOf3
 v3 := Tryz.zeroValue3
 t4 := Tryz.underlying4
 a4 := Tryz.isAgg4
 z4 := Tryz.sizeOf4
 v4 := Tryz.zeroValue4
 t5 := Tryz.underlying5
 a5 := Tryz.isAgg5
 z5 := Tryz.sizeOf5
 v5 := Tryz.zeroValue5
 t9 := Tryz.underlying9
 a9 := Tryz.isAgg9
 z9 := Tryz.sizeOf9
 v9 := Tryz.zeroValue9
 t46 := Tryz.underlying102
 a46 := Tryz.isAgg102
 z46 := Tryz.sizeOf102
 v46 := Tryz.zeroValue102
 t51 := Tryz.underlying101
 a51 := Tryz.isAgg101
 z51 := Tryz.sizeOf101
 v51 := Tryz.zeroValue101 }
theorem Tryz.bits_LeadingZeros32 (x : Int) (w : World) (h0 : 0 ≤ x) (h1 : x ≤ 4294967295) :
  Calls Tryz.prog 80 #[.int .u32 x] w fun e w' => e = .returned (.int .i64 (32 - (Lib.bitLen x.toNat : Int))) ∧ w' = w := Any.bits_LeadingZeros32 Tryz.lays133 x w h0 h1
def Tryz.lays169_ren : Go.Shelf.Ren := ⟨fun | 169 => 93 | n => n, fun | 70 => 139 | 9 => 9 | 0 => 0 | 72 => 142 | 37 => 140 | 127 => 162 | 3 => 3 | 5 => 5 | n => n, fun | n => n⟩
theorem Tryz.lays169 : Go.Proofs.Lays.n169 Tryz.prog Tryz.lays169_ren := {
 mixed := by kernel_rfl
 f169 := Tryz.func93.trans (congrArg some (by kernel_rfl))
 t0 := Tryz.underlying0
 a0 := Tryz.isAgg0
 z0 := Tryz.sizeOf0
 v0 := Tryz.zeroValue0
 t3 := Tryz.underlying3
 a3 := Tryz.isAgg3
 z3 := Tryz.sizeOf3
 v3 := Tryz.zeroValue3
 t9 := Tryz.underlying9
 a9 := Tryz.isAgg9
 z9 := Tryz.sizeOf9
 v9 := Tryz.zeroValue9
 t37 := Tryz.underlying140
 a37 := Tryz.isAgg140
 z37 := Tryz.sizeOf140
 v37 := Tryz.zeroValue140
 t70 := Tryz.underlying139
 a70 := Tryz.isAgg139
 z70 := Tryz.sizeOf139
 v70 := Tryz.zeroValue139
 t72 := Tryz.underlying142
 a72 := Tryz.isAgg142
 z72 := Tryz.sizeOf142
 v72 := Tryz.zeroValue142
 t127 := Tryz.underlying162
 a127 := Tryz.isAgg162
 z127 := Tryz.sizeOf162
 v127 := Tryz.zeroValue162 }
theorem Tryz.Builder_Extra_169 : Builder.Extra Tryz.prog Tryz.lays169_ren := {
 sizeBuilder := by kernel_rfl
 liesBuilder := by kernel_rfl
 t5 := Tryz.underlying5
 a5 := Tryz.isAgg5
 z5 := Tryz.sizeOf5
 v5 := Tryz.zeroValue5
 infoByte := by kernel_rfl
 cellsByte := by kernel_rfl
 sizeByte := by kernel_rfl
 neB5 := by decide }
open Go.RowKit in
theorem Tryz.Builder_String_any_k (B b : Nat) (l : List UInt8) (w : World) (h : Lib.IsBuilderF 142 5 B b (Lib.byteCells l) w) (hBw : B ≤ w.heap.size) :
  Calls Tryz.prog 93 #[.pointer (some ⟨b, 0, none⟩)] w fun e w' => e = .returned (.string ⟨l.toArray⟩) ∧ (Lib.IsBuilderF 142 5 B b (Lib.byteCells l) w' ∧ Below B w w' ∧ Lib.OthersKept 5 (some b) w w') := Any.Builder_String_any_k Tryz.lays169 Tryz.Builder_Extra_169 B b l w h hBw
def Tryz.lays167_ren : Go.Shelf.Ren := ⟨fun | 167 => 90 | 240 => 114 | 276 => 126 | n => n, fun | 0 => 0 | 3 => 3 | 4 => 4 | 5 => 5 | 9 => 9 | 20 => 20 | 37 => 140 | 70 => 139 | 72 => 142 | 75 => 34 | 80 => 147 | 164 => 171 | n => n, fun | n => n⟩
theorem Tryz.lays167 : Go.Proofs.Lays.n167 Tryz.prog Tryz.lays167_ren := {
 mixed := by kernel_rfl
 f167 := Tryz.func90.trans (congrArg some (by kernel_rfl))
 f240 := Tryz.func114.trans (congrArg some (by kernel_rfl))
 f276 := Tryz.func126.trans (congrArg some (by kernel_rfl))
 t0 := Tryz.underlying0
 a0 := Tryz.isAgg0
 z0 := Tryz.sizeOf0
 v0 := Tryz.zeroValue0
 t4 := Tryz.underlying4
 a4 := Tryz.isAgg4
 z4 := Tryz.sizeOf4
 v4 := Tryz.zeroValue4
 t5 := Tryz.underlying5
 a5 := Tryz.isAgg5
 z5 := Tryz.sizeOf5
 v5 := Tryz.zeroValue5
 t9 := Tryz.underlying9
 a9 := Tryz.isAgg9
 z9 := Tryz.sizeOf9
 v9 := Tryz.zeroValue9
 t20 := Tryz.underlying20
 a20 := Tryz.isAgg20
 z20 := Tryz.sizeOf20
 v20 := Tryz.zeroValue20
 t37 := Tryz.underlying140
 a37 := Tryz.isAgg140
 z37 := Tryz.sizeOf140
 v37 := Tryz.zeroValue140
 t70 := Tryz.underlying139
 a70 := Tryz.isAgg139
 z70 := Tryz.sizeOf139
 v70 := Tryz.zeroValue139
 t72 := Tryz.underlying142
 a72 := Tryz.isAgg142
 z72 := Tryz.sizeOf142
 v72 := Tryz.zeroValue142
 t75 := Tryz.underlying34
 a75 := Tryz.isAgg34
 z75 := Tryz.sizeOf34
 v75 := Tryz.zeroValue34
 t164 := Tryz.underlying171
 a164 := Tryz.isAgg171
 z164 := Tryz.sizeOf171
 v164 := Tryz.zeroValue171 }
theorem Tryz.Builder_Extra_167 : Builder.Extra Tryz.prog Tryz.lays167_ren := {
 sizeBuilder := by kernel_rfl
 liesBuilder := by kernel_rfl
 t5 := Tryz.underlying5
 a5 := Tryz.isAgg5
 z5 := Tryz.sizeOf5
 v5 := Tryz.zeroValue5
 infoByte := by kernel_rfl
 cellsByte := by kernel_rfl
 sizeByte := by kernel_rfl
 neB5 := by decide }
open Go.RowKit in
theorem Tryz.Builder_WriteByte_k (B b : Nat) (bs : List Value) (c : Int) (w : World) (h : Lib.IsBuilderF 142 5 B b bs w) (hlen : bs.length + 1 ≤ 140737488355328) (hBw : B ≤ w.heap.size) :
  Calls Tryz.prog 90 #[.pointer (some ⟨b, 0, none⟩), .int .u8 c] w fun e w' => e = .returned .nilIface ∧ (Lib.BuilderAtF 142 5 B b (.pointer (some ⟨b, 0, none⟩)) (bs ++ [.int .u8 c]) w' ∧ Below B w w' ∧ Lib.OthersKept 5 (some b) w w') := Any.Builder_WriteByte_k Tryz.lays167 Tryz.Builder_Extra_167 B b bs c w h hlen hBw
def Tryz.lays166_ren : Go.Shelf.Ren := ⟨fun | 166 => 91 | 240 => 114 | 276 => 126 | n => n, fun | 0 => 0 | 3 => 3 | 4 => 4 | 5 => 5 | 9 => 9 | 20 => 20 | 37 => 140 | 70 => 139 | 72 => 142 | 75 => 34 | 80 => 147 | 164 => 171 | n => n, fun | n => n⟩
theorem Tryz.lays166 : Go.Proofs.Lays.n166 Tryz.prog Tryz.lays166_ren := {
 mixed := by kernel_rfl
 f166 := Tryz.func91.trans (congrArg some (by kernel_rfl))
 f240 := Tryz.func114.trans (congrArg some (by kernel_rfl))
 f276 := Tryz.func126.trans (congrArg some (by kernel_rfl))
 t0 := Tryz.underlying0
 a0 := Tryz.isAgg0
 z0 := Tryz.sizeOf0
 v0 := Tryz.zeroValue0
 t3 := Tryz.underlying3
 a3 := Tryz.isAgg3
 z3 := Tryz.sizeOf3
 v3 := Tryz.zeroValue3
 t4 := Tryz.underlying4
 a4 := Tryz.isAgg4
 z4 := Tryz.sizeOf4
 v4 := Tryz.zeroValue4
 t9 := Tryz.underlying9
 a9 := Tryz.isAgg9
 z9 := Tryz.sizeOf9
 v9 := Tryz.zeroValue9
 t20 := Tryz.underlying20
 a20 := Tryz.isAgg20
 z20 := Tryz.sizeOf20
 v20 := Tryz.zeroValue20
 t37 := Tryz.underlying140
 a37 := Tryz.isAgg140
 z37 := Tryz.sizeOf140
 v37 := Tryz.zeroValue140
 t70 := Tryz.underlying139
 a70 := Tryz.isAgg139
 z70 := Tryz.sizeOf139
 v70 := Tryz.zeroValue139
 t72 := Tryz.underlying142
 a72 := Tryz.isAgg142
 z72 := Tryz.sizeOf142
 v72 := Tryz.zeroValue142
 t75 := Tryz.underlying34
 a75 := Tryz.isAgg34
 z75 := Tryz.sizeOf34
 v75 := Tryz.zeroValue34
 t164 := Tryz.underlying171
 a164 := Tryz.isAgg171
 z164 := Tryz.sizeOf171
 v164 := Tryz.zeroValue171 }
theorem Tryz.Builder_Extra_166 : Builder.Extra Tryz.prog Tryz.lays166_ren := {
 sizeBuilder := by kernel_rfl
 liesBuilder := by kernel_rfl
 t5 := Tryz.underlying5
 a5 := Tryz.isAgg5
 z5 := Tryz.sizeOf5
 v5 := Tryz.zeroValue5
 infoByte := by kernel_rfl
 cellsByte := by kernel_rfl
 sizeByte := by kernel_rfl
 neB5 := by decide }
open Go.RowKit in
theorem Tryz.Builder_WriteString_k (B b : Nat) (bs : List Value) (s : ByteArray) (w : World) (h : Lib.IsBuilderF 142 5 B b bs w) (hlen : bs.length + s.size ≤ 140737488355328) (hBw : B ≤ w.heap.size) :
  Calls Tryz.prog 91 #[.pointer (some ⟨b, 0, none⟩), .string s] w fun e w' => e = .returned (.tuple #[.int .i64 s.size, .nilIface]) ∧ (Lib.BuilderAtF 142 5 B b (.pointer (some ⟨b, 0, none⟩)) (bs ++ Lib.strCells s) w' ∧ Below B w w' ∧ Lib.OthersKept 5 (some b) w w') := Any.Builder_WriteString_k Tryz.lays166 Tryz.Builder_Extra_166 B b bs s w h hlen hBw
end Go.Proofs

/- Long division: the arithmetic. -/
namespace Go.Proofs.YtajcdhaaldhlaaaGreatDoor
open Go.RowKit Limbs

theorem two_cast (L : Nat) : ((2 ^ L : Nat) : Int) = (2 : Int) ^ L := by norm_cast

set_option maxRecDepth 10000 in
theorem lz_any (x : Int) (h0 : 1 ≤ x) (h1 : x < 4294967296) : ∃ (s : Nat) (P Q : Int), Pow s P Q ∧ x * P < 4294967296 ∧ ∀ w, Calls Tryz.prog 80 #[.int .u32 x] w fun e w' => e = .returned (.int .i64 (s : Int)) ∧ w' = w := by
 obtain ⟨k, rfl⟩ := Int.eq_ofNat_of_zero_le (show 0 ≤ x by omega)
 obtain ⟨b1, -, b3⟩ := Lib.bitLenAux_bounds 64 k (by omega) (by omega)
 have b4 : Lib.bitLen k ≤ 32 := Lib.bitLen_le k 32 (by omega) (by omega)
 change 1 ≤ Lib.bitLen k at b1
 change k < 2 ^ Lib.bitLen k at b3
 have hc := fun w => Go.Proofs.Tryz.bits_LeadingZeros32 (k : Int) w (by omega) (by omega)
 rw [Int.toNat_natCast] at hc
 generalize Lib.bitLen k = L at *
 obtain ⟨P, Q, hP⟩ := pow_any (32 - L) (by omega)
 refine ⟨32 - L, P, Q, hP, ?_, fun w => ?_⟩
 ·have e : ((2 ^ L : Nat) : Int) * P = 4294967296 := by
   have e0 := two_cast L
   rw [← hP.eq, e0, ← Int.pow_add, show L + (32 - L) = 32 by omega]; decide
  rw [← e]
  have hk : (k : Int) < ((2 ^ L : Nat) : Int) := Int.ofNat_lt.2 b3
  exact Int.mul_lt_mul_of_pos_right hk (by have := hP.pos; omega)
 ·have := hc w
  rwa [show (32 : Int) - (L : Int) = ((32 - L : Nat) : Int) by omega] at this

theorem seg_le {zs : List Int} (h : LB zs) (off k : Nat) (hk : off + k ≤ zs.length) : seg zs off k ≤ lv (zs.drop off) := by
 have e := lv_split (zs.drop off) k (by rw [List.length_drop]; omega)
 have n0 := lv_nonneg (LB_drop (LB_drop h off) k)
 have : 0 ≤ bp k * lv ((zs.drop off).drop k) := Int.mul_nonneg (by have := bp_pos k; omega) n0
 unfold seg
 omega

theorem long_pre {zs : List Int} {at_ n : Nat} {D : Int} (hz : LB zs) (hn : at_ + n + 1 ≤ zs.length) (hlow : lv (zs.drop (at_ + 1)) < D) : seg zs at_ (n + 1) < D * 4294967296 := by
 have h1 := seg_le hz at_ (n + 1) (by omega)
 rw [drop_cons_getD zs at_ (by omega)] at h1
 simp only [lv] at h1
 have h2 := hz at_
 omega

theorem high_zero {zs : List Int} {k n : Nat} {D : Int} (hz : LB zs) (hn : k + n ≤ zs.length) (hlow : lv (zs.drop k) < D) (hD : D ≤ bp n) : lv (zs.drop (k + n)) = 0 := by
 have e := lv_split (zs.drop k) n (by rw [List.length_drop]; omega)
 rw [List.drop_drop] at e
 have n0 := lv_nonneg (LB_drop hz (k + n))
 have t0 := lv_take_nonneg (LB_drop hz k) n
 rcases Int.lt_or_le (lv (zs.drop (k + n))) 1 with h | h
 ·omega
 ·have := bp_pos n
  have : bp n * 1 ≤ bp n * lv (zs.drop (k + n)) := Int.mul_le_mul_of_nonneg_left h (by omega)
  omega

theorem long_step {zs ys qs : List Int} {k n : Nat} {D q VAL : Int} (hz : LB zs) (hn : k + n + 1 ≤ zs.length) (hq : k < qs.length)
  (hval : VAL = D * (bp (k + 1) * lv (qs.drop (k + 1))) + lv zs) (hlow : lv (zs.drop (k + 1)) < D) (hD : D ≤ bp n)
  (ho : Only zs ys k (n + 1)) (hst : seg zs k (n + 1) = q * D + seg ys k (n + 1)) (hlt : seg ys k (n + 1) < D) :
  VAL = D * (bp k * lv ((qs.set k q).drop k)) + lv ys ∧ lv (ys.drop k) < D := by
 have hZ := high_zero hz (by omega) hlow hD
 have e1 := lv_split zs k (by omega)
 have e2 := lv_split ys k (by rw [ho.len]; omega)
 have f1 := lv_split (zs.drop k) (n + 1) (by rw [List.length_drop]; omega)
 have f2 := lv_split (ys.drop k) (n + 1) (by rw [List.length_drop, ho.len]; omega)
 rw [List.drop_drop] at f1 f2
 rw [ho.high] at f2
 rw [show k + (n + 1) = k + 1 + n by omega, hZ, Int.mul_zero, Int.add_zero] at f1 f2
 rw [ho.low] at e2
 change lv (zs.drop k) = seg zs k (n + 1) at f1
 change lv (ys.drop k) = seg ys k (n + 1) at f2
 refine ⟨?_, by omega⟩
 rw [drop_cons_getD (qs.set k q) k (by rw [List.length_set]; exact hq), drop_set_lt _ _ _ _ (show k < k + 1 by omega), getD_set _ _ _ _ hq, if_pos rfl]
 simp only [lv]
 rw [f1, hst] at e1
 rw [f2] at e2
 rw [hval, e1, e2, Int.mul_add (bp k), Int.mul_add (bp k), Int.mul_add D]
 have g1 : D * (bp (k + 1) * lv (qs.drop (k + 1))) = D * (bp k * (4294967296 * lv (qs.drop (k + 1)))) := by simp only [bp]; ac_rfl
 have g2 : D * (bp k * q) = bp k * (q * D) := by ac_rfl
 rw [g1, g2]
 omega

theorem long_start {zs a b : List Int} {M : Nat} {P : Int} (hz : LB zs) (ha : LB a) (hb : LB b) (nb : Nrm b) (h0 : 0 < b.length) (hM : M + b.length = a.length + 1) (hl : zs.length = a.length + 1) (hv : lv zs = lv a * P) (hP : 1 ≤ P) : lv (zs.drop M) < lv b * P := by
 have e := lv_split zs M (by omega)
 have t0 := lv_take_nonneg hz M
 have h1 := lv_lt ha
 have h2 := nrm_low hb nb h0
 have hp := bp_pos M
 have h3 : bp (b.length - 1) * bp M = bp a.length := by rw [← bp_add]; congr 1; omega
 have h4 : bp (b.length - 1) * bp M ≤ lv b * bp M := Int.mul_le_mul_of_nonneg_right h2 (by omega)
 have h5 : lv a * P < lv b * bp M * P := Int.mul_lt_mul_of_pos_right (by omega) (by omega)
 have h6 : bp M * lv (zs.drop M) < bp M * (lv b * P) := by
  have : bp M * (lv b * P) = lv b * bp M * P := by ac_rfl
  omega
 exact Int.lt_of_mul_lt_mul_left h6 (by omega)

theorem long_end {A V q Z P : Int} (hP : 1 ≤ P) (h : A * P = V * P * q + Z) (h0 : 0 ≤ Z) (h1 : Z < V * P) : A = V * q + Z / P ∧ 0 ≤ Z / P ∧ Z / P < V := by
 have e : Z = (A - V * q) * P := by
  have : V * P * q = V * q * P := by ac_rfl
  rw [Int.sub_mul]; omega
 have d : Z / P = A - V * q := by rw [e]; exact Int.mul_ediv_cancel _ (by omega)
 refine ⟨by omega, Int.ediv_nonneg h0 (by omega), ?_⟩
 rw [Int.ediv_lt_iff_lt_mul (by omega : 0 < P)]
 exact h1

theorem div_len {d b : List Int} {P : Int} (hd : LB d) (nd : Nrm d) (hb : LB b) (nb : Nrm b) (h0 : 0 < b.length) (hP : 1 ≤ P) (hv : lv d = lv b * P) (hx : b.getD (b.length - 1) 0 * P < 4294967296) (hPP : ∃ Q, P * Q = 4294967296) :
  d.length = b.length ∧ lv d < bp b.length := by
 have h1 := nrm_low hb nb h0
 have e := lv_split b (b.length - 1) (by omega)
 rw [drop_cons_getD b (b.length - 1) (by omega), List.drop_eq_nil_of_le (by omega)] at e
 simp only [lv, Int.mul_zero, Int.add_zero] at e
 have t1 := lv_take_lt hb (b.length - 1)
 have hp := bp_pos (b.length - 1)
 obtain ⟨Q, hQ⟩ := hPP
 have hx2 : (b.getD (b.length - 1) 0 + 1) * P ≤ 4294967296 := by
  rw [← hQ, Int.mul_comm P Q] at hx ⊢
  have := Int.lt_of_mul_lt_mul_right hx (by omega)
  exact Int.mul_le_mul_of_nonneg_right (by omega) (by omega)
 have b1 : bp b.length = bp (b.length - 1) * 4294967296 := by
  conv => lhs; rw [← Nat.sub_add_cancel (show 1 ≤ b.length by omega)]
  simp only [bp]; rw [Int.mul_comm]
 have h2 : lv b * P < bp b.length := by
  have g1 : lv b * P < bp (b.length - 1) * (b.getD (b.length - 1) 0 + 1) * P := Int.mul_lt_mul_of_pos_right (by rw [Int.mul_add, Int.mul_one]; omega) (by omega)
  have g2 : bp (b.length - 1) * ((b.getD (b.length - 1) 0 + 1) * P) ≤ bp (b.length - 1) * 4294967296 := Int.mul_le_mul_of_nonneg_left hx2 (by omega)
  rw [← Int.mul_assoc] at g2
  omega
 have h3 : lv b * 1 ≤ lv b * P := Int.mul_le_mul_of_nonneg_left hP (by omega)
 refine ⟨?_, by omega⟩
 have l1 := length_le_of_lt hd nd (n := b.length) (by omega)
 rcases Nat.lt_or_ge d.length b.length with h | h
 ·have l2 := lv_lt hd
  have l3 : bp d.length ≤ bp (b.length - 1) := bp_mono (by omega)
  omega
 ·omega

end Go.Proofs.YtajcdhaaldhlaaaGreatDoor

/- Limbs divided by limbs: where there is nothing to do, and by one limb. -/
namespace Go.Proofs.YtajcdhaaldhlaaaGreatDoor
open Go.RowKit Limbs

def DivPost (w : World) (a b : List Int) (e : Ending) (w' : World) : Prop :=
 ∃ v1 v2 qs rs, e = .returned (.tuple #[v1, v2]) ∧ Lim w' v1 qs ∧ Lim w' v2 rs ∧ Nrm qs ∧ Nrm rs ∧ lv a = lv b * lv qs + lv rs ∧ lv rs < lv b ∧ qs.length ≤ a.length ∧ rs.length ≤ b.length ∧ Below w.heap.size w w'

theorem Lim.nil (w : World) : Lim w (.slice none 0 0) [] := ⟨none, 0, rfl, Nat.le_refl _, by simp, LB_nil, fun h => absurd h (by simp)⟩

theorem Nrm.nil : Nrm [] := .inl rfl

theorem below_grown {B : Nat} {w W W' : World} {g : Nat} (h : Below B w W) (hg : W.grownBy W' (some g)) (hB : B ≤ g) (hs : B ≤ W.heap.size) : Below B w W' where
 os := hg.os.trans h.os
 tape := hg.tape.trans h.tape
 output := hg.output.trans h.output
 size := Nat.le_trans h.size hg.size
 block := fun j hj => (hg.block j (by omega) (by simp; omega)).trans (h.block j hj)

set_option maxRecDepth 100000 in
set_option maxHeartbeats 800000 in
theorem divLimbs_less (w : World) (va vb : Value) (a b : List Int) (ha : Lim w va a) (hb : Lim w vb b) (na : Nrm a) (nb : Nrm b) (hlt : lv a < lv b) :
  Calls Tryz.prog 49 #[va, vb] w fun e w' => DivPost w a b e w' := by
 have HA := hide ha; have HB := hide hb
 obtain ⟨ao, acap, rfl, hacap, halen, halb, -⟩ := ha
 obtain ⟨bo, bcap, rfl, hbcap, hblen, hblb, -⟩ := hb
 have hc := cmpI_lt hlt
 have HF := hide (show lv a = lv b * lv [] + lv a by simp [lv])
 have HL := hide (show a.length ≤ b.length by
  by_cases h : b.length < a.length
  ·have := lv_lt_of_length hblb halb na h; omega
  ·omega)
 go_enter Tryz.func49, Tryz.ntmps49
 go_wp2_with fail
 refine (compareLimbs_any w _ _ a b HA.out HB.out na nb).mono ?_
 rintro e w1 ⟨rfl, hb1⟩
 rw [hc]
 go_wp2_with fail
 refine (freshLimbs_any w1 _ a (HA.out.below hb1 (Nat.le_refl _))).mono ?_
 rintro e w2 ⟨rfl, hr2, hb2⟩
 go_wp2
 go_ret2
 exact ⟨_, _, [], a, rfl, Lim.nil _, hr2.lim _ (Nat.le_refl _) halen, Nrm.nil, na, HF.out, hlt, by simp, HL.out, hb1.trans (hb2.mono hb1.size)⟩

theorem row_one (w : World) (r : Int) (hr : 0 ≤ r ∧ r < 4294967296) : Row (w.alloc (.cells #[.int .u32 r] 101)) w.heap.size [r] := by
 refine ⟨by simp, LB_cons hr LB_nil, fun j hj => ?_⟩
 obtain rfl : j = 0 := by simpa using hj
 exact ⟨by rw [World.cell?_alloc_new]; simp, World.frozen?_alloc_new _ _ _ _⟩

set_option maxRecDepth 100000 in
set_option maxHeartbeats 800000 in
theorem divLimbs_one (w : World) (va vb : Value) (a b : List Int) (ha : Lim w va a) (hb : Lim w vb b) (na : Nrm a) (nb : Nrm b) (hge : lv b ≤ lv a) (h1 : b.length = 1) :
  Calls Tryz.prog 49 #[va, vb] w fun e w' => DivPost w a b e w' := by
 have HA := hide ha; have HB := hide hb
 obtain ⟨ao, acap, rfl, hacap, halen, halb, -⟩ := ha
 obtain ⟨bo, bcap, rfl, hbcap, hblen, hblb, hbc⟩ := hb
 obtain ⟨bb, boff, rfl, hbb, hbc⟩ := hbc (by omega)
 obtain ⟨y, rfl⟩ : ∃ y, b = [y] := by
  match b, h1 with
  | [y], _ => exact ⟨y, rfl⟩
 have hb0 := hbc 0 (by simp)
 have hy : 0 < y ∧ y < 4294967296 := by
  have h2 := hblb 0
  have h3 : y ≠ 0 := by rcases nb with h | h <;> simp at h; exact h
  simp at h2
  omega
 simp only [List.getD_cons_zero, Nat.add_zero] at hb0
 clear hbc
 have hcm : ¬ cmpI (lv a) (lv [y]) < 0 := by
  by_cases h : lv [y] < lv a
  ·rw [cmpI_gt h]; decide
  ·rw [cmpI_eq (by omega)]; decide
 go_enter Tryz.func49, Tryz.ntmps49
 go_wp2_with fail
 refine (compareLimbs_any w _ _ a [y] HA.out HB.out na nb).mono ?_
 rintro e w1 ⟨rfl, hb1⟩
 generalize cmpI (lv a) (lv [y]) = c at *
 go_wp2_with fail
 refine (freshLimbs_any w1 _ a (HA.out.below hb1 (Nat.le_refl _))).mono ?_
 rintro e w2 ⟨rfl, hr2, hb2⟩
 have hB2 := hb1.trans (hb2.mono hb1.size)
 have hcb : w2.cell? ⟨bb, boff, none⟩ = some (.int .u32 y) := (hB2.cell (p := ⟨bb, boff, none⟩) hbb).trans hb0
 go_wp2_with fail
 refine (divByLimb_any w2 w1.heap.size a.length a y hr2 halen hy.1 hy.2).mono ?_
 rintro e w3 ⟨r, qs, rfl, hr0, hr1, hql, hrow, hgr, hval⟩
 have hB3 := below_grown hB2 hgr hb1.size hB2.size
 have HV := hide hval
 clear hval hgr hr2 hcb
 go_wp2_with fail
 refine (trim_at w3 _ _ qs a.length hql (by have := hrow.lim a.length (by omega) (by omega); rwa [hql] at this)).mono ?_
 rintro e w4 ⟨m, hm, rfl, hlm, hnm, rfl⟩
 have HLM := hide hlm
 clear hlm
 have hone := row_one w4 r ⟨hr0, by omega⟩
 go_wp2_with fail
 refine (trim_at _ _ _ [r] 1 rfl (hone.lim 1 (by simp) (by simp))).mono ?_
 rintro e w5 ⟨k, hk, rfl, hlk, hnk, rfl⟩
 have HLK := hide hlk
 clear hlk
 have hq' : Lim w4 (.slice (some ⟨w1.heap.size, 0, none⟩) m a.length) (qs.take m) := by
  have := (hrow.lim a.length (by omega) (by omega)).take m hm
  exact this
 have hr' := (hone.lim 1 (by simp) (by simp)).take k hk
 have hba := (Below.refl w4.heap.size w4).alloc (Nat.le_refl _) (.cells #[.int .u32 r] 101)
 have hA : lv a = lv [y] * lv (qs.take m) + lv ([r].take k) := by rw [HLM.out, HLK.out, HV.out]; simp [lv]
 have hR : lv ([r].take k) < lv [y] := by rw [HLK.out]; simpa [lv] using hr1
 have HF := hide (show DivPost w a [y] (.returned (.tuple #[.slice (some ⟨w1.heap.size, 0, none⟩) m a.length, .slice (some ⟨w4.heap.size, 0, none⟩) k 1])) (w4.alloc (.cells #[.int .u32 r] 101)) from
  ⟨_, _, _, _, rfl, hq'.below hba (Nat.le_refl _), hr', hnm, hnk, hA, hR, by rw [List.length_take]; omega, by rw [List.length_take]; simp; omega, hB3.trans (hba.mono hB3.size)⟩)
 clear hq' hr' hba hA hR hone hrow
 go_wp2
 go_ret2
 exact HF.out

end Go.Proofs.YtajcdhaaldhlaaaGreatDoor
