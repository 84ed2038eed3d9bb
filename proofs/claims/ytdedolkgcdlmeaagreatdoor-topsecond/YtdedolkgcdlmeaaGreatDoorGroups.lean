/- Groups of nine decimal digits. -/
import Derived.Test.YtdedolkgcdlmeaaGreatDoorDivOne
import Derived.Deep.AppendLies
namespace Go.Proofs.YtdedolkgcdlmeaaGreatDoor
open Go.RowKit Limbs

/-- what groups are, to the base of a thousand million -/
def gv : List Int → Int
  | [] => 0
  | x :: xs => x + 1000000000 * gv xs

def gp : Nat → Int
  | 0 => 1
  | n + 1 => 1000000000 * gp n

theorem gp_pos (n : Nat) : 0 < gp n := by
  induction n with
  | zero => simp [gp]
  | succ n ih => simp only [gp]; omega

theorem gp_mono {m n : Nat} (h : m ≤ n) : gp m ≤ gp n := by
  induction n with
  | zero => rw [Nat.le_zero.1 h]; exact Int.le_refl _
  | succ n ih =>
    by_cases e : m = n + 1
    · rw [e]; exact Int.le_refl _
    · have := ih (by omega); have := gp_pos n; simp only [gp]; omega

theorem gv_append (xs : List Int) (r : Int) : gv (xs ++ [r]) = gv xs + gp xs.length * r := by
  induction xs with
  | nil => simp [gv, gp]
  | cons x xs ih => simp only [List.cons_append, gv, ih, List.length_cons, gp]; rw [Int.mul_add, Int.mul_assoc]; omega

theorem bp_le_gp (n : Nat) : bp n ≤ gp (2 * n) := by
  induction n with
  | zero => simp [bp, gp]
  | succ n ih => rw [show 2 * (n + 1) = 2 * n + 1 + 1 by omega]; simp only [bp, gp]; have := gp_pos (2 * n); omega

theorem Row.take {w : World} {g : Nat} {zs : List Int} (h : Row w g zs) (n : Nat) : Row w g (zs.take n) := by
  obtain ⟨h1, h2, h3⟩ := h
  refine ⟨h1, LB_take h2 n, fun j hj => ?_⟩
  rw [List.length_take] at hj
  rw [getD_take zs n j (by omega)]
  exact h3 j (by omega)

theorem Row.kept {w w' : World} {g : Nat} {zs : List Int} {r : Option Nat} (h : Row w g zs) (hg : w.grownBy w' r) (hne : r ≠ some g) : Row w' g zs := by
  obtain ⟨h1, h2, h3⟩ := h
  have hb : w'.heap[g]? = w.heap[g]? := hg.block g h1 (fun e => hne e.symm)
  exact ⟨Nat.lt_of_lt_of_le h1 hg.size, h2, fun j hj => ⟨(World.cell?_of_block (a := ⟨g, j, none⟩) hb).trans (h3 j hj).1, (World.frozen?_of_block (a := ⟨g, j, none⟩) hb).trans (h3 j hj).2⟩⟩

/-- At the loop's head: the groups so far, and the limbs that are left. -/
def GrpInv (w wr : World) (zs : List Int) (v : Value) (gs ys : List Int) : Prop :=
  Row wr w.heap.size ys ∧ Nrm ys ∧ ys.length ≤ zs.length ∧ wr.ownsRow (w.heap.size + 1) 3 1 v gs.length (gs.map (Value.int .i64)) ∧ Below w.heap.size w wr ∧
    lv zs = gv gs + gp gs.length * lv ys ∧ (∀ g ∈ gs, 0 ≤ g ∧ g < 1000000000) ∧ (lv ys = 0 → gs.length = 0 ∨ gs.getD (gs.length - 1) 0 ≠ 0) ∧ lenOf v = gs.length ∧ w.heap.size < wr.heap.size ∧ 0 ≤ gv gs

theorem lenOf_owns {w : World} {base n : Nat} {e : TypeId} {v : Value} {xs : List Value} (h : w.ownsRow base e 1 v n xs) : lenOf v = n := by
  rcases h.2 with ⟨rfl, h0⟩ | ⟨g, cap, cur, rfl, _⟩
  · simp [lenOf, h0]
  · rfl

theorem GrpInv.few {w wr : World} {zs : List Int} {v : Value} {gs ys : List Int} (h : GrpInv w wr zs v gs ys) (hlb : LB zs) (hy : ys.length ≠ 0) : gs.length < 2 * zs.length := by
  obtain ⟨h1, h2, h3, h4, h5, h6, h7, h8, h9, h10, h11⟩ := h
  have e1 := lv_pos h1.2.1 h2 hy
  have e2 := lv_lt hlb
  have e3 := bp_le_gp zs.length
  have e4 := gp_pos gs.length
  have e5 : gp gs.length * 1 ≤ gp gs.length * lv ys := Int.mul_le_mul_of_nonneg_left (by omega) (by omega)
  by_cases hk : gs.length < 2 * zs.length
  · exact hk
  · have := gp_mono (m := 2 * zs.length) (n := gs.length) (by omega)
    omega

/-- The round, but for where the groups' row lies. -/
theorem GrpInv.step {w wr w1 w2 : World} {zs : List Int} {v v' : Value} {gs ys qs : List Int} {r : Int} {m : Nat} (h : GrpInv w wr zs v gs ys) (hr0 : 0 ≤ r) (hr1 : r < 1000000000)
    (hq : qs.length = ys.length) (hrow : Row w1 w.heap.size qs) (hg1 : wr.grownBy w1 (some w.heap.size)) (hlv : lv ys = 1000000000 * lv qs + r) (hpos : lv ys ≠ 0)
    (hown : w2.ownsRow (w.heap.size + 1) 3 1 v' (gs.length + 1) (gs.map (Value.int .i64) ++ [.int .i64 r])) (hg2 : (w1.alloc (.cells #[.int .i64 r] 3)).grownBy w2 v.ownBlock)
    (hm : m ≤ qs.length) (hlm : lv (qs.take m) = lv qs) (hnm : Nrm (qs.take m)) : GrpInv w w2 zs v' (gs ++ [r]) (qs.take m) := by
  obtain ⟨h1, h2, h3, h4, h5, h6, h7, h8, h9, h10, h11⟩ := h
  have hne : v.ownBlock ≠ some w.heap.size := fun e => by have := h4.lt _ e; omega
  have hbase : ∀ k, v.ownBlock = some k → w.heap.size ≤ k := fun k e => by have := h4.lt _ e; omega
  have b1 := h5.grown hg1 (by omega) (fun k hk => by simp at hk; omega)
  have b2 := b1.alloc b1.size (.cells #[.int .i64 r] 3)
  have b3 := b2.grown hg2 (by simp; have := b1.size; omega) hbase
  refine ⟨((hrow.kept (World.grownBy_alloc w1 _ none) (by simp)).kept hg2 hne).take m, hnm, by rw [List.length_take]; omega, ?_, b3, ?_, ?_, ?_, ?_, ?_, ?_⟩
  · rw [List.length_append, List.map_append]; exact hown
  · rw [gv_append, List.length_append, hlm, h6, hlv]
    simp only [List.length_singleton, gp]
    rw [Int.mul_add]
    have e : gp gs.length * (1000000000 * lv qs) = 1000000000 * gp gs.length * lv qs := by rw [Int.mul_left_comm, Int.mul_assoc]
    rw [e]
    omega
  · intro g hg
    rcases List.mem_append.1 hg with hg | hg
    · exact h7 g hg
    · rw [List.mem_singleton.1 hg]; exact ⟨hr0, hr1⟩
  · intro h0
    right
    rw [hlm] at h0
    rw [List.length_append, List.length_singleton, Nat.add_sub_cancel, List.getD_eq_getElem?_getD, List.getElem?_append_right (Nat.le_refl _), Nat.sub_self]
    simp
    omega
  · rw [lenOf_owns hown]; simp
  · have := b1.size; have := hg2.size; simp at this; have := h10; have := hg1.size; omega
  · rw [gv_append]
    have := Int.mul_nonneg (show 0 ≤ gp gs.length from by have := gp_pos gs.length; omega) hr0
    omega

theorem trim_at (w : World) (ao : Option Addr) (cap : Nat) (zs : List Int) (n : Nat) (hn : zs.length = n) (h : Lim w (.slice ao n cap) zs) :
    Calls Tryz.prog 124 #[.slice ao n cap] w fun e w' => TrimPost w ao cap zs e w' := by
  subst hn; exact trim_any w ao cap zs h

/-- The groups, in new memory. -/
def GrpPost (w : World) (zs : List Int) (e : Ending) (w' : World) : Prop :=
  ∃ v gs, e = .returned v ∧ w'.ownsRow (w.heap.size + 1) 3 1 v gs.length (gs.map (Value.int .i64)) ∧ Below w.heap.size w w' ∧ lv zs = gv gs ∧ (∀ g ∈ gs, 0 ≤ g ∧ g < 1000000000) ∧ (gs.length = 0 ∨ gs.getD (gs.length - 1) 0 ≠ 0) ∧ gs.length ≤ 2 * zs.length

theorem Tryz.infoInt : (Tryz.prog.info? 3).map (fun i => (i.zero, i.size, i.bytes)) = some (some (.int .i64 0), 1, 8) := by kernel_rfl

set_option maxRecDepth 100000 in
set_option maxHeartbeats 1000000 in
theorem digitGroups_any (w : World) (v : Value) (zs : List Int) (h : Lim w v zs) (hn : Nrm zs) :
    Calls Tryz.prog 117 #[v] w fun e w' => GrpPost w zs e w' := by
  have HL := hide h
  obtain ⟨ao, cap, rfl, hcap, hlen, hlb, hc⟩ := h
  clear hc
  obtain ⟨i0, hi, hz0, hz1, hz2⟩ := info_parts Tryz.infoInt
  go_enter Tryz.func117, Tryz.ntmps117
  go_wp2_with fail
  refine (freshLimbs_any _ _ zs HL.out).mono ?_
  rintro e w1 ⟨rfl, hr1, hb1⟩
  go_wp2
  go_loopw [3, 4] (fun g t wr => ∃ gs ys : List Int, t = .slice (some ⟨w.heap.size, 0, none⟩) ys.length zs.length ∧ gs.length ≤ 2 * zs.length ∧ GrpInv w wr zs g gs ys) (fun g _ _ => 2 * zs.length - lenOf g)
  case atStart => exact ⟨[], zs, rfl, Nat.zero_le _, hr1, hn, Nat.le_refl _, World.ownsRow_nil _ _ _ _, hb1, by simp [gv, gp], by simp, fun _ => .inl rfl, rfl, hr1.1, by simp [gv]⟩
  case round =>
    obtain ⟨gs, ys, rfl, hgl, hinv⟩ := hrel
    by_cases hy : ys.length = 0
    · have HF : Hid (GrpPost w zs (.returned u3) wr) := by
        obtain ⟨h1, h2, h3, h4, h5, h6, h7, h8, h9, h10, h11⟩ := hinv
        have e0 : ys = [] := List.eq_nil_of_length_eq_zero hy
        subst e0
        exact ⟨_, gs, rfl, h4, h5, by simpa [lv] using h6, h7, h8 rfl, hgl⟩
      clear hinv
      go_wp2
      go_ret
      exact HF.out
    · have hfew := hinv.few hlb hy
      have hpos := lv_pos hinv.1.2.1 hinv.2.1 hy
      have hyl := hinv.2.2.1
      have hle9 := hinv.2.2.2.2.2.2.2.2.1
      have hown := hinv.2.2.2.1
      have hwz := hinv.2.2.2.2.2.2.2.2.2.1
      go_wp2_with fail
      refine (divByLimb_any wr w.heap.size zs.length ys 1000000000 hinv.1 (by omega) (by decide) (by decide)).mono ?_
      rintro e w2 ⟨r, qs, rfl, hr0, hr1', hql, hrow, hg1, hlv⟩
      have hst := fun v' w3 m hown' hg2 hm hlm hnm => hinv.step (v' := v') (w2 := w3) (m := m) hr0 hr1' hql hrow hg1 hlv (by omega) hown' hg2 hm hlm hnm
      have HS := hide hst
      have hown2 := hown.kept hg1 (.inr (fun e => by have := hown.lt _ e; omega))
      have hw2 := hg1.size
      have HR := hide hrow
      clear hst hinv hrow hg1 hown
      have HLV := hide hlv; clear hlv
      go_wp2_with (at_builtin; refine wpList_append_lies _ rfl _ _ 38 rfl (w.heap.size + 1) 3 i0 (.int .i64 0) 1 8 Tryz.underlying38 hi hz0 hz1 hz2 rfl (by decide) u3 gs.length (gs.map (Value.int .i64)) rfl (hown2.alloc _) ⟨w2.heap.size, 0, none⟩ 1 1 [.int .i64 r] rfl rfl ?c1 ?c2 (by decide) ?c3 ?c4 ?c5 (w2.heap.size + 1) (by simp) ?_)
      case c1 => exact World.news_of_block (heap_alloc_new w2 _)
      case c2 => intro u hu; simp at hu; subst hu; rfl
      case c3 => unfold maxLen; omega
      case c4 => omega
      case c5 => simp; omega
      intro g cap' w3 hown3 hgrow3 hat3 hlt3
      have hRw3 : Row w3 w.heap.size qs := (HR.out.kept (World.grownBy_alloc w2 _ none) (by simp)).kept hgrow3 (fun e => by have := hown2.lt _ e; omega)
      clear hat3
      go_wp2_with fail
      refine (trim_at w3 _ zs.length qs ys.length hql (hql ▸ hRw3.lim zs.length (by omega) (by omega))).mono ?_
      rintro e w4 ⟨m, hm, rfl, hlm, hnm, rfl⟩
      have HF := hide (HS.out _ _ m hown3 hgrow3 hm hlm hnm)
      have hml : (qs.take m).length = m := by rw [List.length_take]; omega
      have hll := lenOf_owns hown3
      clear hown3 hgrow3 hlm hnm HS hRw3 HR hown2
      go_wp2
      go_roundw
      case rel => exact ⟨gs ++ [r], qs.take m, by rw [hml], by rw [List.length_append, List.length_singleton]; omega, HF.out⟩
      case measure =>
        show 2 * zs.length - (gs.length + 1) < 2 * zs.length - lenOf u3
        omega

end Go.Proofs.YtdedolkgcdlmeaaGreatDoor
