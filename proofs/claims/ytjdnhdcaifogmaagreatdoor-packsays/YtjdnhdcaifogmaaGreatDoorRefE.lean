/- The reference: digits put together. -/
import Derived.Test.YtjdnhdcaifogmaaGreatDoorRefB
import Derived.Test.YtjdnhdcaifogmaaGreatDoorDivOne

namespace Go.Proofs.YtjdnhdcaifogmaaGreatDoor
open Go.RowKit Limbs Digs

def DigPost (w : World) (z : Int) (n : Nat) (e : Ending) (w' : World) : Prop :=
 ∃ v ds, e = .returned v ∧ Dig w' v ds ∧ dv ds = z ∧ ds.length ≤ n ∧ Below w.heap.size w w'

def AInv (w wr : World) (a b : List Int) (k : Nat) (c : Int) (d : Value) (ds : List Int) : Prop :=
 wr.ownsRow w.heap.size 3 1 d ds.length (ds.map (Value.int .i64)) ∧ Below w.heap.size w wr ∧ DB ds ∧ ds.length = k ∧ dv ds + dp k * c = dv (a.take k) + dv (b.take k) ∧ 0 ≤ c ∧ c ≤ 1

theorem AInv.step {w wr w3 : World} {a b : List Int} {k : Nat} {c t : Int} {d d' : Value} {ds : List Int} (ha : DB a) (hb : DB b) (h : AInv w wr a b k c d ds) (ht : t = c + a.getD k 0 + b.getD k 0)
  (hown : w3.ownsRow w.heap.size 3 1 d' (k + 1) (ds.map (Value.int .i64) ++ [.int .i64 (t % 10000)])) (hg : (wr.alloc (.cells #[.int .i64 (t % 10000)] 3)).grownBy w3 d.ownBlock) : AInv w w3 a b (k + 1) (t / 10000) d' (ds ++ [t % 10000]) := by
 obtain ⟨h1, h2, h3, h4, h5, h6, h7⟩ := h
 have hx := ha k
 have hy := hb k
 have hbl := below_app h1 h2.size hg
 refine ⟨by rw [List.length_append, List.map_append, h4]; exact hown, h2.trans hbl, DB_append h3 (by omega), by simp [h4], ?_, by omega, by omega⟩
 rw [dv_snoc, dv_take_succ, dv_take_succ, h4]
 simp only [dp]
 have e1 : 10000 * dp k * (t / 10000) = dp k * (10000 * (t / 10000)) := by rw [Int.mul_comm 10000, Int.mul_assoc]
 have e2 : dp k * (t % 10000) + dp k * (10000 * (t / 10000)) = dp k * t := by rw [← Int.mul_add]; congr 1; omega
 have e3 : dp k * t = dp k * c + dp k * a.getD k 0 + dp k * b.getD k 0 := by rw [ht, Int.mul_add, Int.mul_add]
 rw [e1]
 omega

set_option maxRecDepth 100000 in
set_option maxHeartbeats 1600000 in
theorem addDigits_any (w : World) (va vb : Value) (a b : List Int) (n : Nat) (ha : Dig w va a) (hb : Dig w vb b) (hla : a.length ≤ n) (hlb : b.length ≤ n) (hn : n < 1000000000000) :
  Calls Tryz.prog 90 #[va, vb] w fun e w' => DigPost w (dv a + dv b) (n + 1) e w' := by
 have HA := hide ha; have HB := hide hb
 obtain ⟨ao, acap, rfl, hacap, halen, hadb, -⟩ := ha
 obtain ⟨bo, bcap, rfl, hbcap, hblen, hbdb, -⟩ := hb
 obtain ⟨i0, hi, hz0, hz1, hz2⟩ := info_parts Tryz.infoInt
 go_enter Tryz.func90, Tryz.ntmps90
 go_wp2
 go_loopw [5, 6, 7] (fun d cc i wr => ∃ (k : Nat) (c : Int) (ds : List Int), k ≤ n + 1 ∧ (n < k → c = 0) ∧ i = .int .i64 k ∧ cc = .int .i64 c ∧ AInv w wr a b k c d ds) (fun _ _ i _ => n + 1 - (intOf i).toNat)
 case atStart => exact ⟨0, 0, [], by omega, fun _ => rfl, rfl, rfl, World.ownsRow_nil _ _ _ _, Below.refl _ _, DB_nil, rfl, by simp [dv, dp], Int.le_refl _, by decide⟩
 case round =>
  obtain ⟨k, c, ds, hk, hkc, rfl, rfl, hinv⟩ := hrel
  have hc0 := hinv.2.2.2.2.2.1
  have hc1 := hinv.2.2.2.2.2.2
  have hdl := hinv.2.2.2.1
  have HBL := hide hinv.2.1
  by_cases hend : a.length ≤ k ∧ b.length ≤ k ∧ c = 0
  ·obtain ⟨he1, he2, rfl⟩ := hend
   have HF : Hid (DigPost w (dv a + dv b) (n + 1) (.returned u5) wr) := by
    obtain ⟨h1, h2, h3, h4, h5, h6, h7⟩ := hinv
    refine ⟨_, ds, rfl, Dig.owns h1 h3 (by omega), ?_, by omega, h2⟩
    rw [dv_take_ge a he1, dv_take_ge b he2] at h5
    omega
   clear hinv
   go_wp2
   go_ret
   exact HF.out
  ·have hx := hadb k
   have hy := hbdb k
   have hown := hinv.1
   have HST := hide (fun d' w3 t ht ho hg => hinv.step (d' := d') (w3 := w3) (t := t) hadb hbdb ht ho hg)
   have HA' := hide (by obtain ⟨_, _, e, -, -, -, hc⟩ := HA.out.below HBL.out (Nat.le_refl _); simp only [Value.slice.injEq, true_and] at e; obtain ⟨rfl, rfl⟩ := e; exact hc)
   have HB' := hide (by obtain ⟨_, _, e, -, -, -, hc⟩ := HB.out.below HBL.out (Nat.le_refl _); simp only [Value.slice.injEq, true_and] at e; obtain ⟨rfl, rfl⟩ := e; exact hc)
   have HX0 := hide (fun h => getD_ge a k h)
   have HY0 := hide (fun h => getD_ge b k h)
   clear hinv
   generalize hxe : a.getD k 0 = x at *
   generalize hye : b.getD k 0 = y at *
   have HXE := hide hxe; clear hxe
   have HYE := hide hye; clear hye
   have hkl : k ≤ n := by
    rcases Nat.lt_or_ge n k with h | h
    ·exact absurd ⟨by omega, by omega, hkc h⟩ hend
    ·exact h
   by_cases ha1 : k < a.length
   ·by_cases hb1 : k < b.length
    ·clear hend
     obtain ⟨ab, aoff, acur, afz, rfl, -, hac⟩ := HA'.out (by omega)
     have hca := hac k ha1
     rw [HXE.out] at hca
     clear hac
     obtain ⟨bb, boff, bcur, bfz, rfl, -, hbc⟩ := HB'.out (by omega)
     have hcb := hbc k hb1
     rw [HYE.out] at hcb
     clear hbc
     have HS := hide (fun d' w3 ho hg => HST.out d' w3 (c + x + y) (by omega) ho hg)
     clear HST HA' HB' HX0 HY0 HXE HYE
     have hm0 : 0 ≤ (c + x + y) % 10000 := by omega
     have hm1 : (c + x + y) % 10000 ≤ 9999 := by omega
     go_wp2_with (at_builtin; refine wpList_append_lies _ rfl _ _ 44 rfl w.heap.size 3 i0 (.int .i64 0) 1 8 Tryz.underlying44 hi hz0 hz1 hz2 rfl (by decide) u5 ds.length (ds.map (Value.int .i64)) rfl (hown.alloc _) ⟨wr.heap.size, 0, none⟩ 1 1 [.int .i64 ((c + x + y) % 10000)] rfl rfl (World.news_of_block (heap_alloc_new wr _)) (fun u hu => by rw [List.mem_singleton] at hu; rw [hu]; rfl) (by decide) (by unfold maxLen; omega) (by omega) (by simp; have := HBL.out.size; omega) (wr.heap.size + 1) (by simp) ?_)
     intro g cap' w3 hown3 hgrow3 hat3 hlt3
     have HF := hide (HS.out _ _ hown3 hgrow3)
     clear hown3 hgrow3 hat3 hown HS
     go_wp2
     go_roundw
     case rel => exact ⟨k + 1, (c + x + y) / 10000, _, by omega, by omega, by go_num, rfl, HF.out⟩
     case measure => simp [intOf]; omega
    ·clear hend
     obtain ⟨ab, aoff, acur, afz, rfl, -, hac⟩ := HA'.out (by omega)
     have hca := hac k ha1
     rw [HXE.out] at hca
     clear hac
     obtain rfl : y = 0 := HY0.out (by omega)
     have HS := hide (fun d' w3 ho hg => HST.out d' w3 (c + x) (by omega) ho hg)
     clear HST HA' HB' HX0 HY0 HXE HYE
     have hm0 : 0 ≤ (c + x) % 10000 := by omega
     have hm1 : (c + x) % 10000 ≤ 9999 := by omega
     go_wp2_with (at_builtin; refine wpList_append_lies _ rfl _ _ 44 rfl w.heap.size 3 i0 (.int .i64 0) 1 8 Tryz.underlying44 hi hz0 hz1 hz2 rfl (by decide) u5 ds.length (ds.map (Value.int .i64)) rfl (hown.alloc _) ⟨wr.heap.size, 0, none⟩ 1 1 [.int .i64 ((c + x) % 10000)] rfl rfl (World.news_of_block (heap_alloc_new wr _)) (fun u hu => by rw [List.mem_singleton] at hu; rw [hu]; rfl) (by decide) (by unfold maxLen; omega) (by omega) (by simp; have := HBL.out.size; omega) (wr.heap.size + 1) (by simp) ?_)
     intro g cap' w3 hown3 hgrow3 hat3 hlt3
     have HF := hide (HS.out _ _ hown3 hgrow3)
     clear hown3 hgrow3 hat3 hown HS
     go_wp2
     go_roundw
     case rel => exact ⟨k + 1, (c + x) / 10000, _, by omega, by omega, by go_num, rfl, HF.out⟩
     case measure => simp [intOf]; omega
   ·by_cases hb1 : k < b.length
    ·clear hend
     obtain ⟨bb, boff, bcur, bfz, rfl, -, hbc⟩ := HB'.out (by omega)
     have hcb := hbc k hb1
     rw [HYE.out] at hcb
     clear hbc
     obtain rfl : x = 0 := HX0.out (by omega)
     have HS := hide (fun d' w3 ho hg => HST.out d' w3 (c + y) (by omega) ho hg)
     clear HST HA' HB' HX0 HY0 HXE HYE
     have hm0 : 0 ≤ (c + y) % 10000 := by omega
     have hm1 : (c + y) % 10000 ≤ 9999 := by omega
     go_wp2_with (at_builtin; refine wpList_append_lies _ rfl _ _ 44 rfl w.heap.size 3 i0 (.int .i64 0) 1 8 Tryz.underlying44 hi hz0 hz1 hz2 rfl (by decide) u5 ds.length (ds.map (Value.int .i64)) rfl (hown.alloc _) ⟨wr.heap.size, 0, none⟩ 1 1 [.int .i64 ((c + y) % 10000)] rfl rfl (World.news_of_block (heap_alloc_new wr _)) (fun u hu => by rw [List.mem_singleton] at hu; rw [hu]; rfl) (by decide) (by unfold maxLen; omega) (by omega) (by simp; have := HBL.out.size; omega) (wr.heap.size + 1) (by simp) ?_)
     intro g cap' w3 hown3 hgrow3 hat3 hlt3
     have HF := hide (HS.out _ _ hown3 hgrow3)
     clear hown3 hgrow3 hat3 hown HS
     go_wp2
     go_roundw
     case rel => exact ⟨k + 1, (c + y) / 10000, _, by omega, by omega, by go_num, rfl, HF.out⟩
     case measure => simp [intOf]; omega
    ·have hcp : 0 < c := by omega
     clear hend
     obtain rfl : x = 0 := HX0.out (by omega)
     obtain rfl : y = 0 := HY0.out (by omega)
     have HS := hide (fun d' w3 ho hg => HST.out d' w3 (c) (by omega) ho hg)
     clear HST HA' HB' HX0 HY0 HXE HYE
     have hm0 : 0 ≤ (c) % 10000 := by omega
     have hm1 : (c) % 10000 ≤ 9999 := by omega
     have hcd : decide (0 < c) = true := decide_eq_true (by omega)
     go_wp2_with (at_builtin; refine wpList_append_lies _ rfl _ _ 44 rfl w.heap.size 3 i0 (.int .i64 0) 1 8 Tryz.underlying44 hi hz0 hz1 hz2 rfl (by decide) u5 ds.length (ds.map (Value.int .i64)) rfl (hown.alloc _) ⟨wr.heap.size, 0, none⟩ 1 1 [.int .i64 ((c) % 10000)] rfl rfl (World.news_of_block (heap_alloc_new wr _)) (fun u hu => by rw [List.mem_singleton] at hu; rw [hu]; rfl) (by decide) (by unfold maxLen; omega) (by omega) (by simp; have := HBL.out.size; omega) (wr.heap.size + 1) (by simp) ?_)
     intro g cap' w3 hown3 hgrow3 hat3 hlt3
     have HF := hide (HS.out _ _ hown3 hgrow3)
     clear hown3 hgrow3 hat3 hown HS
     go_wp2
     go_roundw
     case rel => exact ⟨k + 1, (c) / 10000, _, by omega, by omega, by go_num, rfl, HF.out⟩
     case measure => simp [intOf]; omega

end Go.Proofs.YtjdnhdcaifogmaaGreatDoor

/- The reference: digits taken from digits; their order. -/
namespace Go.Proofs.YtjdnhdcaifogmaaGreatDoor
open Go.RowKit Limbs Digs

def SInv (w wr : World) (a b : List Int) (k : Nat) (c : Int) (d : Value) (ds : List Int) : Prop :=
 wr.ownsRow w.heap.size 3 1 d ds.length (ds.map (Value.int .i64)) ∧ Below w.heap.size w wr ∧ DB ds ∧ ds.length = k ∧ dv ds = dv (a.take k) - dv (b.take k) + dp k * c ∧ 0 ≤ c ∧ c ≤ 1

theorem SInv.step {w wr w3 : World} {a b : List Int} {k : Nat} {c t c' : Int} {d d' : Value} {ds : List Int} (h : SInv w wr a b k c d ds) (ht : t = a.getD k 0 - c - b.getD k 0 + 10000 * c') (ht0 : 0 ≤ t ∧ t < 10000) (hc' : 0 ≤ c' ∧ c' ≤ 1)
  (hown : w3.ownsRow w.heap.size 3 1 d' (k + 1) (ds.map (Value.int .i64) ++ [.int .i64 t])) (hg : (wr.alloc (.cells #[.int .i64 t] 3)).grownBy w3 d.ownBlock) : SInv w w3 a b (k + 1) c' d' (ds ++ [t]) := by
 obtain ⟨h1, h2, h3, h4, h5, h6, h7⟩ := h
 have hbl := below_app h1 h2.size hg
 refine ⟨by rw [List.length_append, List.map_append, h4]; exact hown, h2.trans hbl, DB_append h3 ht0, by simp [h4], ?_, hc'.1, hc'.2⟩
 rw [dv_snoc, dv_take_succ, dv_take_succ, h4, h5]
 simp only [dp]
 have e1 : 10000 * dp k * c' = dp k * (10000 * c') := by rw [Int.mul_comm 10000, Int.mul_assoc]
 have e3 : dp k * t = dp k * a.getD k 0 - dp k * c - dp k * b.getD k 0 + dp k * (10000 * c') := by rw [ht, Int.mul_add, Int.mul_sub, Int.mul_sub]
 rw [e1]
 omega

set_option maxRecDepth 100000 in
set_option maxHeartbeats 1600000 in
theorem subDigits_any (w : World) (va vb : Value) (a b : List Int) (ha : Dig w va a) (hb : Dig w vb b) (hl : b.length ≤ a.length) (hle : dv b ≤ dv a) :
  Calls Tryz.prog 92 #[va, vb] w fun e w' => DigPost w (dv a - dv b) a.length e w' := by
 have HA := hide ha; have HB := hide hb
 obtain ⟨ao, acap, rfl, hacap, halen, hadb, -⟩ := ha
 obtain ⟨bo, bcap, rfl, hbcap, hblen, hbdb, -⟩ := hb
 have HLE := hide hle; clear hle
 obtain ⟨i0, hi, hz0, hz1, hz2⟩ := info_parts Tryz.infoInt
 go_enter Tryz.func92, Tryz.ntmps92
 go_wp2
 go_loopw [5, 6, 7] (fun d cc i wr => ∃ (k : Nat) (c : Int) (ds : List Int), k ≤ a.length ∧ i = .int .i64 k ∧ cc = .int .i64 c ∧ SInv w wr a b k c d ds) (fun _ _ i _ => a.length - (intOf i).toNat)
 case atStart => exact ⟨0, 0, [], by omega, rfl, rfl, World.ownsRow_nil _ _ _ _, Below.refl _ _, DB_nil, rfl, by simp [dv, dp], Int.le_refl _, by decide⟩
 case round =>
  obtain ⟨k, c, ds, hk, rfl, rfl, hinv⟩ := hrel
  have hc0 := hinv.2.2.2.2.2.1
  have hc1 := hinv.2.2.2.2.2.2
  have hdl := hinv.2.2.2.1
  have HBL := hide hinv.2.1
  by_cases hend : a.length ≤ k
  ·obtain rfl : k = a.length := by omega
   have HF : Hid (DigPost w (dv a - dv b) a.length (.returned u5) wr) := by
    obtain ⟨h1, h2, h3, h4, h5, h6, h7⟩ := hinv
    refine ⟨_, ds, rfl, Dig.owns h1 h3 (by omega), ?_, by omega, h2⟩
    rw [dv_take_ge a (Nat.le_refl _), dv_take_ge b hl] at h5
    have hlt := dv_lt h3
    rw [h4] at hlt
    have hle := HLE.out
    rcases (by omega : c = 0 ∨ c = 1) with e | e <;> subst e
    ·rw [h5]; omega
    ·omega
   clear hinv
   go_wp2
   go_ret
   exact HF.out
  ·have hx := hadb k
   have hy := hbdb k
   have hown := hinv.1
   have HST := hide (fun d' w3 t c' ht ht0 hc' ho hg => hinv.step (d' := d') (w3 := w3) (t := t) (c' := c') ht ht0 hc' ho hg)
   have HB' := hide (by obtain ⟨_, _, e, -, -, -, hc⟩ := HB.out.below HBL.out (Nat.le_refl _); simp only [Value.slice.injEq, true_and] at e; obtain ⟨rfl, rfl⟩ := e; exact hc)
   have HA' := hide (by obtain ⟨_, _, e, -, -, -, hc⟩ := HA.out.below HBL.out (Nat.le_refl _); simp only [Value.slice.injEq, true_and] at e; obtain ⟨rfl, rfl⟩ := e; exact hc)
   have HY0 := hide (fun h => getD_ge b k h)
   obtain ⟨ab, aoff, acur, afz, rfl, -, hac⟩ := HA'.out (by omega)
   have hca := hac k (by omega)
   clear hinv hac HA'
   generalize hxe : a.getD k 0 = x at *
   generalize hye : b.getD k 0 = y at *
   have HXE := hide hxe; clear hxe
   have HYE := hide hye; clear hye
   by_cases hb1 : k < b.length
   ·by_cases ho : x - c - y < 0
    ·have ho1 := ho
     obtain ⟨bb, boff, bcur, bfz, rfl, -, hbc⟩ := HB'.out (by omega)
     have hcb := hbc k hb1
     rw [HYE.out] at hcb
     clear hbc
     have HS := hide (fun d' w3 ho hg => HST.out d' w3 (x - c - y + 10000) 1 (by omega) (by omega) (by decide) ho hg)
     clear HST HB' HY0 HXE HYE
     have hdd : decide (x - c - y < 0) = true := decide_eq_true (by omega)
     have hde : decide (x - c < y) = true := decide_eq_true (by omega)
     go_wp2_with (at_builtin; refine wpList_append_lies _ rfl _ _ 44 rfl w.heap.size 3 i0 (.int .i64 0) 1 8 Tryz.underlying44 hi hz0 hz1 hz2 rfl (by decide) u5 ds.length (ds.map (Value.int .i64)) rfl (hown.alloc _) ⟨wr.heap.size, 0, none⟩ 1 1 [.int .i64 (x - c - y + 10000)] rfl rfl (World.news_of_block (heap_alloc_new wr _)) (fun u hu => by rw [List.mem_singleton] at hu; rw [hu]; rfl) (by decide) (by unfold maxLen; omega) (by omega) (by simp; have := HBL.out.size; omega) (wr.heap.size + 1) (by simp) ?_)
     intro g cap' w3 hown3 hgrow3 hat3 hlt3
     have HF := hide (HS.out _ _ hown3 hgrow3)
     clear hown3 hgrow3 hat3 hown HS
     go_wp2
     go_roundw
     case rel => exact ⟨k + 1, 1, _, by omega, by go_num, rfl, HF.out⟩
     case measure => simp [intOf]; omega
    ·have ho1 := ho
     obtain ⟨bb, boff, bcur, bfz, rfl, -, hbc⟩ := HB'.out (by omega)
     have hcb := hbc k hb1
     rw [HYE.out] at hcb
     clear hbc
     have HS := hide (fun d' w3 ho hg => HST.out d' w3 (x - c - y) 0 (by omega) (by omega) (by decide) ho hg)
     clear HST HB' HY0 HXE HYE
     have hdd : decide (x - c - y < 0) = false := decide_eq_false (by omega)
     have hde : decide (x - c < y) = false := decide_eq_false (by omega)
     go_wp2_with (at_builtin; refine wpList_append_lies _ rfl _ _ 44 rfl w.heap.size 3 i0 (.int .i64 0) 1 8 Tryz.underlying44 hi hz0 hz1 hz2 rfl (by decide) u5 ds.length (ds.map (Value.int .i64)) rfl (hown.alloc _) ⟨wr.heap.size, 0, none⟩ 1 1 [.int .i64 (x - c - y)] rfl rfl (World.news_of_block (heap_alloc_new wr _)) (fun u hu => by rw [List.mem_singleton] at hu; rw [hu]; rfl) (by decide) (by unfold maxLen; omega) (by omega) (by simp; have := HBL.out.size; omega) (wr.heap.size + 1) (by simp) ?_)
     intro g cap' w3 hown3 hgrow3 hat3 hlt3
     have HF := hide (HS.out _ _ hown3 hgrow3)
     clear hown3 hgrow3 hat3 hown HS
     go_wp2
     go_roundw
     case rel => exact ⟨k + 1, 0, _, by omega, by go_num, rfl, HF.out⟩
     case measure => simp [intOf]; omega
   ·by_cases ho : x - c < 0
    ·have ho1 := ho
     obtain rfl : y = 0 := HY0.out (by omega)
     have HS := hide (fun d' w3 ho hg => HST.out d' w3 (x - c + 10000) 1 (by omega) (by omega) (by decide) ho hg)
     clear HST HB' HY0 HXE HYE
     have hdd : decide (x - c < 0) = true := decide_eq_true (by omega)
     have hde : decide (x < c) = true := decide_eq_true (by omega)
     go_wp2_with (at_builtin; refine wpList_append_lies _ rfl _ _ 44 rfl w.heap.size 3 i0 (.int .i64 0) 1 8 Tryz.underlying44 hi hz0 hz1 hz2 rfl (by decide) u5 ds.length (ds.map (Value.int .i64)) rfl (hown.alloc _) ⟨wr.heap.size, 0, none⟩ 1 1 [.int .i64 (x - c + 10000)] rfl rfl (World.news_of_block (heap_alloc_new wr _)) (fun u hu => by rw [List.mem_singleton] at hu; rw [hu]; rfl) (by decide) (by unfold maxLen; omega) (by omega) (by simp; have := HBL.out.size; omega) (wr.heap.size + 1) (by simp) ?_)
     intro g cap' w3 hown3 hgrow3 hat3 hlt3
     have HF := hide (HS.out _ _ hown3 hgrow3)
     clear hown3 hgrow3 hat3 hown HS
     go_wp2
     go_roundw
     case rel => exact ⟨k + 1, 1, _, by omega, by go_num, rfl, HF.out⟩
     case measure => simp [intOf]; omega
    ·have ho1 := ho
     obtain rfl : y = 0 := HY0.out (by omega)
     have HS := hide (fun d' w3 ho hg => HST.out d' w3 (x - c) 0 (by omega) (by omega) (by decide) ho hg)
     clear HST HB' HY0 HXE HYE
     have hdd : decide (x - c < 0) = false := decide_eq_false (by omega)
     have hde : decide (x < c) = false := decide_eq_false (by omega)
     go_wp2_with (at_builtin; refine wpList_append_lies _ rfl _ _ 44 rfl w.heap.size 3 i0 (.int .i64 0) 1 8 Tryz.underlying44 hi hz0 hz1 hz2 rfl (by decide) u5 ds.length (ds.map (Value.int .i64)) rfl (hown.alloc _) ⟨wr.heap.size, 0, none⟩ 1 1 [.int .i64 (x - c)] rfl rfl (World.news_of_block (heap_alloc_new wr _)) (fun u hu => by rw [List.mem_singleton] at hu; rw [hu]; rfl) (by decide) (by unfold maxLen; omega) (by omega) (by simp; have := HBL.out.size; omega) (wr.heap.size + 1) (by simp) ?_)
     intro g cap' w3 hown3 hgrow3 hat3 hlt3
     have HF := hide (HS.out _ _ hown3 hgrow3)
     clear hown3 hgrow3 hat3 hown HS
     go_wp2
     go_roundw
     case rel => exact ⟨k + 1, 0, _, by omega, by go_num, rfl, HF.out⟩
     case measure => simp [intOf]; omega

theorem dcmp_lengths {a b : List Int} (ha : DB a) (hb : DB b) (na : Nrm a) (nb : Nrm b) (h : a.length ≠ b.length) : (if a.length < b.length then (-1 : Int) else 1) = cmpI (dv a) (dv b) := by
 by_cases h1 : a.length < b.length
 ·rw [if_pos h1, cmpI_lt (dv_lt_of_length ha hb nb h1)]
 ·rw [if_neg h1, cmpI_gt (dv_lt_of_length hb ha na (by omega))]

theorem dcmp_place {a b : List Int} (ha : DB a) (hb : DB b) (hl : a.length = b.length) {k : Nat} (hk : k < a.length) (hd : a.drop (k + 1) = b.drop (k + 1)) (hx : a.getD k 0 ≠ b.getD k 0) : cmpI (a.getD k 0) (b.getD k 0) = cmpI (dv a) (dv b) := by
 by_cases h1 : a.getD k 0 < b.getD k 0
 ·rw [cmpI_lt h1, cmpI_lt (dv_lt_of_place ha hb hl hk hd h1)]
 ·have h2 : b.getD k 0 < a.getD k 0 := by omega
  rw [cmpI_gt h2, cmpI_gt (dv_lt_of_place hb ha hl.symm (by omega) hd.symm h2)]

set_option maxRecDepth 100000 in
set_option maxHeartbeats 1600000 in
theorem cmpDigits_any (w : World) (va vb : Value) (a b : List Int) (ha : Dig w va a) (hb : Dig w vb b) (na : Nrm a) (nb : Nrm b) :
  Calls Tryz.prog 91 #[va, vb] w fun e w' => CmpPost w (cmpI (dv a) (dv b)) e w' := by
 obtain ⟨ao, acap, rfl, hacap, halen, hadb, hac⟩ := ha
 obtain ⟨bo, bcap, rfl, hbcap, hblen, hbdb, hbc⟩ := hb
 by_cases hl : a.length = b.length
 ·have hne : ((a.length : Int) != (b.length : Int)) = false := by rw [bne_eq_false_iff_eq]; omega
  have HLL : Hid (a.length = b.length) := hl
  clear hl
  go_enter Tryz.func91, Tryz.ntmps91
  go_wp2
  go_loopw [5] (fun i wr => ∃ p nq : Nat, p ≤ a.length ∧ i = .int .i64 ((p : Int) - 1) ∧ wr = w.drewN nq ∧ Hid (a.drop p = b.drop p)) (fun i _ => (intOf i + 1).toNat)
  case atStart => exact ⟨a.length, 0, Nat.le_refl _, by go_num, by simp [World.drewN_zero], by show _ = _; rw [List.drop_length, HLL.out, List.drop_length]⟩
  case round =>
   obtain ⟨p, nq, hp, rfl, rfl, HD⟩ := hrel
   by_cases h0 : p = 0
   ·subst h0
    have HK : Hid (cmpI (dv a) (dv b) = 0) := by
     have hd := HD.out
     rw [List.drop_zero, List.drop_zero] at hd
     show _ = _
     rw [hd]; exact cmpI_eq rfl
    go_wp2
    go_ret
    exact ⟨ret_i64 HK.out.symm, below_drewN (Below.refl _ _) _⟩
   ·obtain ⟨k, rfl⟩ : ∃ k, p = k + 1 := ⟨p - 1, by omega⟩
    obtain ⟨ab, aoff, acur, afz, rfl, hab, hac⟩ := hac (by omega)
    obtain ⟨bb, boff, bcur, bfz, rfl, hbb, hbc⟩ := hbc (by have := HLL.out; omega)
    have hkb : k < b.length := by have := HLL.out; omega
    have hka : k < a.length := by omega
    have hca := hac k hka
    have hcb := hbc k hkb
    clear hac hbc hab hbb
    have HE : Hid (∀ h : a.getD k 0 = b.getD k 0, a.drop k = b.drop k) := fun h => drop_step HLL.out hka HD.out h
    have HN : Hid (∀ h : a.getD k 0 ≠ b.getD k 0, cmpI (a.getD k 0) (b.getD k 0) = cmpI (dv a) (dv b)) := fun h => dcmp_place hadb hbdb HLL.out hka HD.out h
    clear HD
    generalize a.getD k 0 = x at *
    generalize b.getD k 0 = y at *
    have hki : ((k + 1 : Nat) : Int) - 1 = (k : Int) := by omega
    rw [hki]
    by_cases hxy : x = y
    ·subst hxy
     have HE' : Hid (a.drop k = b.drop k) := HE.out rfl
     clear HE HN
     go_wp2
     go_quiet (fail)
     go_wp2
     go_quiet (fail)
     go_wp2
     go_roundw
     case rel => exact ⟨k, _, by omega, by go_num, rfl, HE'⟩
     case measure => simp [intOf]
    ·have HC := hide (HN.out hxy)
     clear HN HE
     by_cases hlt : x < y
     ·have HR := hide (HC.out.symm.trans (cmpI_lt hlt))
      have hdx : decide (x < y) = true := decide_eq_true hlt
      clear HC hxy
      go_wp2
      go_quiet (fail)
      go_wp2
      go_ret
      exact ⟨ret_i64 HR.out.symm, below_drewN (below_drewN (Below.refl _ _) _) _⟩
     ·have HR := hide (HC.out.symm.trans (cmpI_gt (show y < x by omega)))
      have hdx : decide (x < y) = false := decide_eq_false hlt
      have hdy : decide (y < x) = true := decide_eq_true (by omega)
      clear HC hxy
      go_wp2
      go_quiet (fail)
      go_wp2
      go_quiet (fail)
      go_wp2
      go_ret
      exact ⟨ret_i64 HR.out.symm, below_drewN (below_drewN (below_drewN (Below.refl _ _) _) _) _⟩
 ·have HC : Hid _ := dcmp_lengths hadb hbdb na nb hl
  have hne : ((a.length : Int) != (b.length : Int)) = true := by rw [bne_iff_ne]; omega
  clear hac hbc
  by_cases hlt : a.length < b.length
  ·rw [if_pos hlt] at HC
   have hd : decide ((a.length : Int) < (b.length : Int)) = true := decide_eq_true (by omega)
   go_enter Tryz.func91, Tryz.ntmps91
   go_wp2
   go_ret
   exact ⟨ret_i64 HC.out, Below.refl _ _⟩
  ·rw [if_neg hlt] at HC
   have hd : decide ((a.length : Int) < (b.length : Int)) = false := decide_eq_false (by omega)
   go_enter Tryz.func91, Tryz.ntmps91
   go_wp2
   go_ret
   exact ⟨ret_i64 HC.out, Below.refl _ _⟩

end Go.Proofs.YtjdnhdcaifogmaaGreatDoor

/- The reference: sums. -/
namespace Go.Proofs.YtjdnhdcaifogmaaGreatDoor
open Go.RowKit Limbs Digs

structure ThreeR (w W : World) (a0 a1 b0 b1 r0 r1 : Value) : Prop where
 fst : BoxR W w.heap.size a0 a1
 snd : BoxR W (w.heap.size + 1) b0 b1
 res : BoxR W (w.heap.size + 1 + 1) r0 r1
 below : Below w.heap.size w W
 size : w.heap.size + 1 + 1 < W.heap.size

theorem threeR (w : World) (a0 a1 b0 b1 r0 r1 : Value) : ThreeR w (((w.alloc (.cells #[a0, a1] 95)).alloc (.cells #[b0, b1] 95)).alloc (.cells #[r0, r1] 95)) a0 a1 b0 b1 r0 r1 where
 fst := (boxR_new w _ _ _ rfl).later (((Below.refl _ _).alloc (by simp) _).alloc (by simp) _ : Below (w.heap.size + 1) _ _) (by omega)
 snd := (boxR_new (w.alloc _) _ _ _ (by simp)).later ((Below.refl _ _).alloc (by simp) _ : Below (w.heap.size + 1 + 1) _ _) (by omega)
 res := boxR_new _ _ _ _ (by simp)
 below := (((Below.refl _ _).alloc (Nat.le_refl _) _).alloc (by simp) _).alloc (by simp; omega) _
 size := by simp

theorem ThreeR.later {w W W' : World} {a0 a1 b0 b1 r0 r1 : Value} (h : ThreeR w W a0 a1 b0 b1 r0 r1) (hb : Below W.heap.size W W') : ThreeR w W' a0 a1 b0 b1 r0 r1 where
 fst := h.fst.later hb h.fst.lt
 snd := h.snd.later hb h.snd.lt
 res := h.res.later hb h.res.lt
 below := h.below.trans (hb.mono h.below.size)
 size := Nat.lt_of_lt_of_le h.size hb.size

theorem ThreeR.drew {w W : World} {a0 a1 b0 b1 r0 r1 : Value} (h : ThreeR w W a0 a1 b0 b1 r0 r1) : ThreeR w W.drew a0 a1 b0 b1 r0 r1 := ⟨h.fst, h.snd, h.res, h.below.drew, h.size⟩

set_option maxRecDepth 100000 in
set_option maxHeartbeats 1600000 in
theorem plus_any (w : World) (va vb : Value) (x y : Int) (n : Nat) (ha : NumR w va x n) (hb : NumR w vb y n) (hn : n < 1000000000000) :
  Calls Tryz.prog 72 #[va, vb] w fun e w' => RefPost w (x + y) (n + 1) e w' := by
 have HNA := hide ha; have HNB := hide hb
 obtain ⟨sa, la, a, rfl, hla, nra, hx, hsa, hna⟩ := ha
 obtain ⟨sb, lb, b, rfl, hlb, nrb, hy, hsb, hnb⟩ := hb
 have HA := hide hla
 have HB := hide hlb
 obtain ⟨ao, acap, rfl, -, -, hadb, -⟩ := hla
 obtain ⟨bo, bcap, rfl, -, -, hbdb, -⟩ := hlb
 have HX := hide hx; clear hx
 have HY := hide hy; clear hy
 have HNR := hide (And.intro nra nrb); clear nra nrb
 have HDD := hide (And.intro hadb hbdb); clear hadb hbdb
 have hn2 : ¬ (w.heap.size + 1 + 1 = w.heap.size) := by omega
 have hn3 : ¬ (w.heap.size = w.heap.size + 1 + 1) := by omega
 by_cases hsa0 : sa = 0
 ·subst hsa0
  have HF : Hid (RefPost w (x + y) (n + 1) (.returned (.agg #[.int .i64 sb, .slice bo b.length bcap])) (((w.alloc (.cells #[.int .i64 0, .slice ao a.length acap] 95)).alloc (.cells #[.int .i64 sb, .slice bo b.length bcap] 95)).alloc (.cells #[.int .i64 sb, .slice bo b.length bcap] 95))) :=
   ⟨_, rfl, by rw [show x + y = y by rw [HX.out, Int.zero_mul, Int.zero_add]]; exact (HNB.out.below (threeR w _ _ _ _ _ _).below (Nat.le_refl _)).mono (by omega), (threeR w _ _ _ _ _ _).below⟩
  clear HNA HNB HX HY
  go_enter Tryz.func72, Tryz.ntmps72
  go_wp2
  exact bodyPost_ret (v := .agg #[.int .i64 sb, .slice bo b.length bcap]) (by simp [results, Tryz.results72, go_sem]) rfl HF.out
 have hda : (sa == 0) = false := by simp [hsa0]
 by_cases hsb0 : sb = 0
 ·subst hsb0
  have HF : Hid (RefPost w (x + y) (n + 1) (.returned (.agg #[.int .i64 sa, .slice ao a.length acap])) (((w.alloc (.cells #[.int .i64 sa, .slice ao a.length acap] 95)).alloc (.cells #[.int .i64 0, .slice bo b.length bcap] 95)).alloc (.cells #[.int .i64 sa, .slice ao a.length acap] 95))) :=
   ⟨_, rfl, by rw [show x + y = x by rw [HY.out, Int.zero_mul, Int.add_zero]]; exact (HNA.out.below (threeR w _ _ _ _ _ _).below (Nat.le_refl _)).mono (by omega), (threeR w _ _ _ _ _ _).below⟩
  clear HNA HNB HX HY
  go_enter Tryz.func72, Tryz.ntmps72
  go_wp2
  exact bodyPost_ret (v := .agg #[.int .i64 sa, .slice ao a.length acap]) (by simp [results, Tryz.results72, go_sem]) rfl HF.out
 have hdb : (sb == 0) = false := by simp [hsb0]
 clear HNA HNB
 have hsa1 : sa = 1 ∨ sa = -1 := by omega
 have hsb1 : sb = 1 ∨ sb = -1 := by omega
 clear hsa hsb
 by_cases hss : sa = sb
 ·have hds : (sa == sb) = true := by simp [hss]
  have HE := hide (show sa * (dv a + dv b) = x + y by rw [HX.out, HY.out, hss, Int.mul_add])
  clear HX HY HNR HDD hss
  go_enter Tryz.func72, Tryz.ntmps72
  go_wp2_with fail
  have hT := hide (threeR w (.int .i64 sa) (.slice ao a.length acap) (.int .i64 sb) (.slice bo b.length bcap) (.int .i64 0) (.slice none 0 0))
  generalize ((w.alloc (.cells #[.int .i64 sa, .slice ao a.length acap] 95)).alloc (.cells #[.int .i64 sb, .slice bo b.length bcap] 95)).alloc (.cells #[.int .i64 0, .slice none 0 0] 95) = W at *
  obtain ⟨k0, k1, -, -⟩ := hT.out.fst.box
  obtain ⟨l0, l1, -, -⟩ := hT.out.snd.box
  have hn2 : ¬ (w.heap.size + 1 + 1 = w.heap.size) := by omega
  have hn3 : ¬ (w.heap.size = w.heap.size + 1 + 1) := by omega
  go_region_held3 (fun w' => w'.cell? ⟨w.heap.size, 0, none⟩ = some (.int .i64 sa) ∧ w'.cell? ⟨w.heap.size, 1, none⟩ = some (.slice ao a.length acap) ∧ w'.cell? ⟨w.heap.size + 1, 0, none⟩ = some (.int .i64 sb) ∧ w'.cell? ⟨w.heap.size + 1, 1, none⟩ = some (.slice bo b.length bcap)) (go_keep)
    (first
     | (go_at_call 90; refine (addDigits_any _ _ _ a b n (HA.out.below hT.out.drew.below (Nat.le_refl _)) (HB.out.below hT.out.drew.below (Nat.le_refl _)) (by omega) (by omega) hn).mono ?_; rintro e w1 ⟨v1, ds, rfl, hd1, hv1, hl1, hb1⟩; have HD1 := hide hd1; have HV := hide hv1; have hT1 := hide (hT.out.drew.later hb1); clear hd1 hv1 hb1; obtain ⟨p0, p1, -, -⟩ := hT1.out.fst.box; obtain ⟨q0, q1, -, -⟩ := hT1.out.snd.box)
     | (go_at_call 67; refine (cutNum_any _ sa _ ds HD1.out (by omega)).mono ?_; rintro e w2 ⟨r, rfl, hr, hb2⟩; have hT2 := hide (hT1.out.later hb2); clear hb2; obtain ⟨p0', p1', -, -⟩ := hT2.out.fst.box; obtain ⟨q0', q1', -, -⟩ := hT2.out.snd.box; obtain ⟨c0, c1, f0, f1⟩ := hT2.out.res.box; rw [HV.out, HE.out] at hr; replace hr := hr.mono (show ds.length ≤ n + 1 by omega); have HR := hide hr; obtain ⟨sr, o, l, c, rfl, -⟩ := hr.form; clear hr))
  have HF := hide (boxedR (w := w) HR.out hT2.out.res hT2.out.below (by omega))
  clear hT1 hT2 HR HD1 HV HE
  go_wp2
  exact bodyPost_ret (v := .agg #[.int .i64 sr, .slice o l c]) (by simp [results, Tryz.results72, go_sem, c0, c1]) rfl HF.out
 have hds : (sa == sb) = false := by simp [hss]
 have HSN := hide (show sb = -sa by omega)
 by_cases hge : dv b ≤ dv a
 ·have hll : b.length ≤ a.length := by
   by_cases h : b.length ≤ a.length
   ·exact h
   ·have := dv_lt_of_length HDD.out.1 HDD.out.2 HNR.out.2 (by omega); omega
  have HE := hide (show sa * (dv a - dv b) = x + y by rw [HX.out, HY.out, HSN.out, Int.mul_sub, Int.neg_mul]; omega)
  have HL := hide hge
  have hc : decide (0 ≤ cmpI (dv a) (dv b)) = true := decide_eq_true (by unfold cmpI; repeat' split; all_goals omega)
  clear HX HY HDD hge
  go_enter Tryz.func72, Tryz.ntmps72
  go_wp2_with fail
  have hT := hide (threeR w (.int .i64 sa) (.slice ao a.length acap) (.int .i64 sb) (.slice bo b.length bcap) (.int .i64 0) (.slice none 0 0))
  generalize ((w.alloc (.cells #[.int .i64 sa, .slice ao a.length acap] 95)).alloc (.cells #[.int .i64 sb, .slice bo b.length bcap] 95)).alloc (.cells #[.int .i64 0, .slice none 0 0] 95) = W at *
  obtain ⟨k0, k1, -, -⟩ := hT.out.fst.box
  obtain ⟨l0, l1, -, -⟩ := hT.out.snd.box
  have hn2 : ¬ (w.heap.size + 1 + 1 = w.heap.size) := by omega
  have hn3 : ¬ (w.heap.size = w.heap.size + 1 + 1) := by omega
  refine (cmpDigits_any _ _ _ a b (HA.out.below hT.out.below (Nat.le_refl _)) (HB.out.below hT.out.below (Nat.le_refl _)) HNR.out.1 HNR.out.2).mono ?_
  rintro e w0 ⟨rfl, hb0⟩
  replace hT := hide (hT.out.later hb0)
  clear hb0 k0 k1 l0 l1
  obtain ⟨k0, k1, -, -⟩ := hT.out.fst.box
  obtain ⟨l0, l1, -, -⟩ := hT.out.snd.box
  clear HNR
  go_wp2_with fail
  go_region_held3 (fun w' => w'.cell? ⟨w.heap.size, 0, none⟩ = some (.int .i64 sa) ∧ w'.cell? ⟨w.heap.size, 1, none⟩ = some (.slice ao a.length acap) ∧ w'.cell? ⟨w.heap.size + 1, 0, none⟩ = some (.int .i64 sb) ∧ w'.cell? ⟨w.heap.size + 1, 1, none⟩ = some (.slice bo b.length bcap)) (go_keep)
    (first
     | (go_at_call 92; refine (subDigits_any _ _ _ a b (HA.out.below hT.out.drew.below (Nat.le_refl _)) (HB.out.below hT.out.drew.below (Nat.le_refl _)) hll HL.out).mono ?_; rintro e w1 ⟨v1, ds, rfl, hd1, hv1, hl1, hb1⟩; have HD1 := hide hd1; have HV := hide hv1; have hT1 := hide (hT.out.drew.later hb1); clear hd1 hv1 hb1; obtain ⟨p0, p1, -, -⟩ := hT1.out.fst.box; obtain ⟨q0, q1, -, -⟩ := hT1.out.snd.box)
     | (go_at_call 67; refine (cutNum_any _ sa _ ds HD1.out (by omega)).mono ?_; rintro e w2 ⟨r, rfl, hr, hb2⟩; have hT2 := hide (hT1.out.later hb2); clear hb2; obtain ⟨p0', p1', -, -⟩ := hT2.out.fst.box; obtain ⟨q0', q1', -, -⟩ := hT2.out.snd.box; obtain ⟨c0, c1, f0, f1⟩ := hT2.out.res.box; rw [HV.out, HE.out] at hr; replace hr := hr.mono (show ds.length ≤ n + 1 by omega); have HR := hide hr; obtain ⟨sr, o, l, c, rfl, -⟩ := hr.form; clear hr))
  have HF := hide (boxedR (w := w) HR.out hT2.out.res hT2.out.below (by omega))
  clear hT1 hT2 HR HD1 HV HE
  go_wp2
  exact bodyPost_ret (v := .agg #[.int .i64 sr, .slice o l c]) (by simp [results, Tryz.results72, go_sem, c0, c1]) rfl HF.out
 ·have hll : a.length ≤ b.length := by
   by_cases h : a.length ≤ b.length
   ·exact h
   ·have := dv_lt_of_length HDD.out.2 HDD.out.1 HNR.out.1 (by omega); omega
  have HE := hide (show sb * (dv b - dv a) = x + y by rw [HX.out, HY.out, HSN.out, Int.mul_sub, Int.neg_mul, Int.neg_mul]; omega)
  have HL := hide (show dv a ≤ dv b by omega)
  have hc : decide (0 ≤ cmpI (dv a) (dv b)) = false := decide_eq_false (by unfold cmpI; repeat' split; all_goals omega)
  clear HX HY HDD hge
  go_enter Tryz.func72, Tryz.ntmps72
  go_wp2_with fail
  have hT := hide (threeR w (.int .i64 sa) (.slice ao a.length acap) (.int .i64 sb) (.slice bo b.length bcap) (.int .i64 0) (.slice none 0 0))
  generalize ((w.alloc (.cells #[.int .i64 sa, .slice ao a.length acap] 95)).alloc (.cells #[.int .i64 sb, .slice bo b.length bcap] 95)).alloc (.cells #[.int .i64 0, .slice none 0 0] 95) = W at *
  obtain ⟨k0, k1, -, -⟩ := hT.out.fst.box
  obtain ⟨l0, l1, -, -⟩ := hT.out.snd.box
  have hn2 : ¬ (w.heap.size + 1 + 1 = w.heap.size) := by omega
  have hn3 : ¬ (w.heap.size = w.heap.size + 1 + 1) := by omega
  refine (cmpDigits_any _ _ _ a b (HA.out.below hT.out.below (Nat.le_refl _)) (HB.out.below hT.out.below (Nat.le_refl _)) HNR.out.1 HNR.out.2).mono ?_
  rintro e w0 ⟨rfl, hb0⟩
  replace hT := hide (hT.out.later hb0)
  clear hb0 k0 k1 l0 l1
  obtain ⟨k0, k1, -, -⟩ := hT.out.fst.box
  obtain ⟨l0, l1, -, -⟩ := hT.out.snd.box
  clear HNR
  go_wp2_with fail
  go_region_held3 (fun w' => w'.cell? ⟨w.heap.size, 0, none⟩ = some (.int .i64 sa) ∧ w'.cell? ⟨w.heap.size, 1, none⟩ = some (.slice ao a.length acap) ∧ w'.cell? ⟨w.heap.size + 1, 0, none⟩ = some (.int .i64 sb) ∧ w'.cell? ⟨w.heap.size + 1, 1, none⟩ = some (.slice bo b.length bcap)) (go_keep)
    (first
     | (go_at_call 92; refine (subDigits_any _ _ _ b a (HB.out.below hT.out.drew.below (Nat.le_refl _)) (HA.out.below hT.out.drew.below (Nat.le_refl _)) hll HL.out).mono ?_; rintro e w1 ⟨v1, ds, rfl, hd1, hv1, hl1, hb1⟩; have HD1 := hide hd1; have HV := hide hv1; have hT1 := hide (hT.out.drew.later hb1); clear hd1 hv1 hb1; obtain ⟨p0, p1, -, -⟩ := hT1.out.fst.box; obtain ⟨q0, q1, -, -⟩ := hT1.out.snd.box)
     | (go_at_call 67; refine (cutNum_any _ sb _ ds HD1.out (by omega)).mono ?_; rintro e w2 ⟨r, rfl, hr, hb2⟩; have hT2 := hide (hT1.out.later hb2); clear hb2; obtain ⟨p0', p1', -, -⟩ := hT2.out.fst.box; obtain ⟨q0', q1', -, -⟩ := hT2.out.snd.box; obtain ⟨c0, c1, f0, f1⟩ := hT2.out.res.box; rw [HV.out, HE.out] at hr; replace hr := hr.mono (show ds.length ≤ n + 1 by omega); have HR := hide hr; obtain ⟨sr, o, l, c, rfl, -⟩ := hr.form; clear hr))
  have HF := hide (boxedR (w := w) HR.out hT2.out.res hT2.out.below (by omega))
  clear hT1 hT2 HR HD1 HV HE
  go_wp2
  exact bodyPost_ret (v := .agg #[.int .i64 sr, .slice o l c]) (by simp [results, Tryz.results72, go_sem, c0, c1]) rfl HF.out

set_option maxRecDepth 100000 in
set_option maxHeartbeats 1600000 in
theorem minus_any (w : World) (va : Value) (x : Int) (n : Nat) (ha : NumR w va x n) :
  Calls Tryz.prog 74 #[va] w fun e w' => RefPost w (-x) n e w' := by
 have HNA := hide ha
 obtain ⟨sa, la, a, rfl, hla, nra, hx, hsa, hna⟩ := ha
 have HA := hide hla
 obtain ⟨ao, acap, rfl, -⟩ := hla
 have hsa' : (a.length = 0 ∧ -sa = 0 ∧ Value.slice ao a.length acap = .slice none 0 0) ∨ (0 < a.length ∧ (-sa = 1 ∨ -sa = -1)) := by
  rcases hsa with ⟨h1, h2, h3⟩ | ⟨h1, h2⟩
  ·exact .inl ⟨h1, by omega, h3⟩
  ·exact .inr ⟨h1, by omega⟩
 have HB : Hid (Below w.heap.size w ((w.alloc (.cells #[.int .i64 sa, .slice ao a.length acap] 95)).alloc (.cells #[.int .i64 (-sa), .slice ao a.length acap] 95))) := ((Below.refl _ _).alloc (Nat.le_refl _) _).alloc (by simp) _
 have HF : Hid (RefPost w (-x) n (.returned (.agg #[.int .i64 (-sa), .slice ao a.length acap])) ((w.alloc (.cells #[.int .i64 sa, .slice ao a.length acap] 95)).alloc (.cells #[.int .i64 (-sa), .slice ao a.length acap] 95))) :=
  ⟨_, rfl, ⟨-sa, _, a, rfl, HA.out.below HB.out (Nat.le_refl _), nra, by rw [hx, Int.neg_mul], hsa', hna⟩, HB.out⟩
 clear HA HNA HB
 have hsr : sa = 0 ∨ sa = 1 ∨ sa = -1 := by rcases hsa with ⟨h1, h2, h3⟩ | ⟨h1, h2⟩ <;> omega
 clear hsa hsa'
 have hneg : IntKind.i64.wrap (-sa) = -sa := by rcases hsr with h | h | h <;> subst h <;> decide
 go_enter Tryz.func74, Tryz.ntmps74
 go_wp2
 exact bodyPost_ret (v := .agg #[.int .i64 (-sa), .slice ao a.length acap]) (by simp [results, Tryz.results74, go_sem]) rfl HF.out

end Go.Proofs.YtjdnhdcaifogmaaGreatDoor
