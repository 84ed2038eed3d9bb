/- The reference: digits put together. -/
import Derived.Test.YtdedolkgcdlmeaaGreatDoorRefB
namespace Go.Proofs.YtdedolkgcdlmeaaGreatDoor
open Go.RowKit Limbs Digs

/-- Digits come back, in new memory. -/
def DigPost (w : World) (z : Int) (n : Nat) (e : Ending) (w' : World) : Prop :=
  ∃ v ds, e = .returned v ∧ Dig w' v ds ∧ dv ds = z ∧ ds.length ≤ n ∧ Below w.heap.size w w'

/-- So many places are put together. -/
def AInv (w wr : World) (a b : List Int) (k : Nat) (c : Int) (d : Value) (ds : List Int) : Prop :=
  wr.ownsRow w.heap.size 3 1 d ds.length (ds.map (Value.int .i64)) ∧ Below w.heap.size w wr ∧ DB ds ∧ ds.length = k ∧ dv ds + dp k * c = dv (a.take k) + dv (b.take k) ∧ 0 ≤ c ∧ c ≤ 1

theorem AInv.step {w wr w3 : World} {a b : List Int} {k : Nat} {c t : Int} {d d' : Value} {ds : List Int} (ha : DB a) (hb : DB b) (h : AInv w wr a b k c d ds) (ht : t = c + a.getD k 0 + b.getD k 0)
    (hown : w3.ownsRow w.heap.size 3 1 d' (k + 1) (ds.map (Value.int .i64) ++ [.int .i64 (t % 10000)])) (hg : (wr.alloc (.cells #[.int .i64 (t % 10000)] 3)).grownBy w3 d.ownBlock) : AInv w w3 a b (k + 1) (t / 10000) d' (ds ++ [t % 10000]) := by
  obtain ⟨h1, h2, h3, h4, h5, h6, h7⟩ := h
  have hx := ha k
  have hy := hb k
  have hbl := below_app h1 h2.size hg
  refine ⟨by rw [List.length_append, List.map_append, h4]; exact hown, h2.trans hbl, DB_append h3 (by omega), by simp [h4], ?_, by omega, by omega⟩
  rw [dv_snoc, dv_take_succ, dv_take_succ, h4]
  simp only [dp]
  have e1 : 10000 * dp k * (t / 10000) = dp k * (10000 * (t / 10000)) := by rw [Int.mul_comm 10000, Int.mul_assoc]
  have e2 : dp k * (t % 10000) + dp k * (10000 * (t / 10000)) = dp k * t := by rw [← Int.mul_add]; congr 1; omega
  have e3 : dp k * t = dp k * c + dp k * a.getD k 0 + dp k * b.getD k 0 := by rw [ht, Int.mul_add, Int.mul_add]
  rw [e1]
  omega

set_option maxRecDepth 100000 in
set_option maxHeartbeats 1600000 in
theorem addDigits_any (w : World) (va vb : Value) (a b : List Int) (n : Nat) (ha : Dig w va a) (hb : Dig w vb b) (hla : a.length ≤ n) (hlb : b.length ≤ n) (hn : n < 1000000000000) :
    Calls Tryz.prog 101 #[va, vb] w fun e w' => DigPost w (dv a + dv b) (n + 1) e w' := by
  have HA := hide ha; have HB := hide hb
  obtain ⟨ao, acap, rfl, hacap, halen, hadb, -⟩ := ha
  obtain ⟨bo, bcap, rfl, hbcap, hblen, hbdb, -⟩ := hb
  obtain ⟨i0, hi, hz0, hz1, hz2⟩ := info_parts Tryz.infoInt
  go_enter Tryz.func101, Tryz.ntmps101
  go_wp2
  go_loopw [5, 6, 7] (fun d cc i wr => ∃ (k : Nat) (c : Int) (ds : List Int), k ≤ n + 1 ∧ (n < k → c = 0) ∧ i = .int .i64 k ∧ cc = .int .i64 c ∧ AInv w wr a b k c d ds) (fun _ _ i _ => n + 1 - (intOf i).toNat)
  case atStart => exact ⟨0, 0, [], by omega, fun _ => rfl, rfl, rfl, World.ownsRow_nil _ _ _ _, Below.refl _ _, DB_nil, rfl, by simp [dv, dp], Int.le_refl _, by decide⟩
  case round =>
    obtain ⟨k, c, ds, hk, hkc, rfl, rfl, hinv⟩ := hrel
    have hc0 := hinv.2.2.2.2.2.1
    have hc1 := hinv.2.2.2.2.2.2
    have hdl := hinv.2.2.2.1
    have HBL := hide hinv.2.1
    by_cases hend : a.length ≤ k ∧ b.length ≤ k ∧ c = 0
    · obtain ⟨he1, he2, rfl⟩ := hend
      have HF : Hid (DigPost w (dv a + dv b) (n + 1) (.returned u5) wr) := by
        obtain ⟨h1, h2, h3, h4, h5, h6, h7⟩ := hinv
        refine ⟨_, ds, rfl, Dig.owns h1 h3 (by omega), ?_, by omega, h2⟩
        rw [dv_take_ge a he1, dv_take_ge b he2] at h5
        omega
      clear hinv
      go_wp2
      go_ret
      exact HF.out
    · have hx := hadb k
      have hy := hbdb k
      have hown := hinv.1
      have HST := hide (fun d' w3 t ht ho hg => hinv.step (d' := d') (w3 := w3) (t := t) hadb hbdb ht ho hg)
      have HA' := hide (by obtain ⟨_, _, e, -, -, -, hc⟩ := HA.out.below HBL.out (Nat.le_refl _); simp only [Value.slice.injEq, true_and] at e; obtain ⟨rfl, rfl⟩ := e; exact hc)
      have HB' := hide (by obtain ⟨_, _, e, -, -, -, hc⟩ := HB.out.below HBL.out (Nat.le_refl _); simp only [Value.slice.injEq, true_and] at e; obtain ⟨rfl, rfl⟩ := e; exact hc)
      have HX0 := hide (fun h => getD_ge a k h)
      have HY0 := hide (fun h => getD_ge b k h)
      clear hinv
      generalize hxe : a.getD k 0 = x at *
      generalize hye : b.getD k 0 = y at *
      have HXE := hide hxe; clear hxe
      have HYE := hide hye; clear hye
      have hkl : k ≤ n := by
        rcases Nat.lt_or_ge n k with h | h
        · exact absurd ⟨by omega, by omega, hkc h⟩ hend
        · exact h
      by_cases ha1 : k < a.length
      · by_cases hb1 : k < b.length
        · clear hend
          obtain ⟨ab, aoff, acur, afz, rfl, -, hac⟩ := HA'.out (by omega)
          have hca := hac k ha1
          rw [HXE.out] at hca
          clear hac
          obtain ⟨bb, boff, bcur, bfz, rfl, -, hbc⟩ := HB'.out (by omega)
          have hcb := hbc k hb1
          rw [HYE.out] at hcb
          clear hbc
          have HS := hide (fun d' w3 ho hg => HST.out d' w3 (c + x + y) (by omega) ho hg)
          clear HST HA' HB' HX0 HY0 HXE HYE
          have hm0 : 0 ≤ (c + x + y) % 10000 := by omega
          have hm1 : (c + x + y) % 10000 ≤ 9999 := by omega
          go_wp2_with (at_builtin; refine wpList_append_lies _ rfl _ _ 38 rfl w.heap.size 3 i0 (.int .i64 0) 1 8 Tryz.underlying38 hi hz0 hz1 hz2 rfl (by decide) u5 ds.length (ds.map (Value.int .i64)) rfl (hown.alloc _) ⟨wr.heap.size, 0, none⟩ 1 1 [.int .i64 ((c + x + y) % 10000)] rfl rfl (World.news_of_block (heap_alloc_new wr _)) (fun u hu => by rw [List.mem_singleton] at hu; rw [hu]; rfl) (by decide) (by unfold maxLen; omega) (by omega) (by simp; have := HBL.out.size; omega) (wr.heap.size + 1) (by simp) ?_)
          intro g cap' w3 hown3 hgrow3 hat3 hlt3
          have HF := hide (HS.out _ _ hown3 hgrow3)
          clear hown3 hgrow3 hat3 hown HS
          go_wp2
          go_roundw
          case rel => exact ⟨k + 1, (c + x + y) / 10000, _, by omega, by omega, by go_num, rfl, HF.out⟩
          case measure => simp [intOf]; omega
        · clear hend
          obtain ⟨ab, aoff, acur, afz, rfl, -, hac⟩ := HA'.out (by omega)
          have hca := hac k ha1
          rw [HXE.out] at hca
          clear hac
          obtain rfl : y = 0 := HY0.out (by omega)
          have HS := hide (fun d' w3 ho hg => HST.out d' w3 (c + x) (by omega) ho hg)
          clear HST HA' HB' HX0 HY0 HXE HYE
          have hm0 : 0 ≤ (c + x) % 10000 := by omega
          have hm1 : (c + x) % 10000 ≤ 9999 := by omega
          go_wp2_with (at_builtin; refine wpList_append_lies _ rfl _ _ 38 rfl w.heap.size 3 i0 (.int .i64 0) 1 8 Tryz.underlying38 hi hz0 hz1 hz2 rfl (by decide) u5 ds.length (ds.map (Value.int .i64)) rfl (hown.alloc _) ⟨wr.heap.size, 0, none⟩ 1 1 [.int .i64 ((c + x) % 10000)] rfl rfl (World.news_of_block (heap_alloc_new wr _)) (fun u hu => by rw [List.mem_singleton] at hu; rw [hu]; rfl) (by decide) (by unfold maxLen; omega) (by omega) (by simp; have := HBL.out.size; omega) (wr.heap.size + 1) (by simp) ?_)
          intro g cap' w3 hown3 hgrow3 hat3 hlt3
          have HF := hide (HS.out _ _ hown3 hgrow3)
          clear hown3 hgrow3 hat3 hown HS
          go_wp2
          go_roundw
          case rel => exact ⟨k + 1, (c + x) / 10000, _, by omega, by omega, by go_num, rfl, HF.out⟩
          case measure => simp [intOf]; omega
      · by_cases hb1 : k < b.length
        · clear hend
          obtain ⟨bb, boff, bcur, bfz, rfl, -, hbc⟩ := HB'.out (by omega)
          have hcb := hbc k hb1
          rw [HYE.out] at hcb
          clear hbc
          obtain rfl : x = 0 := HX0.out (by omega)
          have HS := hide (fun d' w3 ho hg => HST.out d' w3 (c + y) (by omega) ho hg)
          clear HST HA' HB' HX0 HY0 HXE HYE
          have hm0 : 0 ≤ (c + y) % 10000 := by omega
          have hm1 : (c + y) % 10000 ≤ 9999 := by omega
          go_wp2_with (at_builtin; refine wpList_append_lies _ rfl _ _ 38 rfl w.heap.size 3 i0 (.int .i64 0) 1 8 Tryz.underlying38 hi hz0 hz1 hz2 rfl (by decide) u5 ds.length (ds.map (Value.int .i64)) rfl (hown.alloc _) ⟨wr.heap.size, 0, none⟩ 1 1 [.int .i64 ((c + y) % 10000)] rfl rfl (World.news_of_block (heap_alloc_new wr _)) (fun u hu => by rw [List.mem_singleton] at hu; rw [hu]; rfl) (by decide) (by unfold maxLen; omega) (by omega) (by simp; have := HBL.out.size; omega) (wr.heap.size + 1) (by simp) ?_)
          intro g cap' w3 hown3 hgrow3 hat3 hlt3
          have HF := hide (HS.out _ _ hown3 hgrow3)
          clear hown3 hgrow3 hat3 hown HS
          go_wp2
          go_roundw
          case rel => exact ⟨k + 1, (c + y) / 10000, _, by omega, by omega, by go_num, rfl, HF.out⟩
          case measure => simp [intOf]; omega
        · have hcp : 0 < c := by omega
          clear hend
          obtain rfl : x = 0 := HX0.out (by omega)
          obtain rfl : y = 0 := HY0.out (by omega)
          have HS := hide (fun d' w3 ho hg => HST.out d' w3 (c) (by omega) ho hg)
          clear HST HA' HB' HX0 HY0 HXE HYE
          have hm0 : 0 ≤ (c) % 10000 := by omega
          have hm1 : (c) % 10000 ≤ 9999 := by omega
          have hcd : decide (0 < c) = true := decide_eq_true (by omega)
          go_wp2_with (at_builtin; refine wpList_append_lies _ rfl _ _ 38 rfl w.heap.size 3 i0 (.int .i64 0) 1 8 Tryz.underlying38 hi hz0 hz1 hz2 rfl (by decide) u5 ds.length (ds.map (Value.int .i64)) rfl (hown.alloc _) ⟨wr.heap.size, 0, none⟩ 1 1 [.int .i64 ((c) % 10000)] rfl rfl (World.news_of_block (heap_alloc_new wr _)) (fun u hu => by rw [List.mem_singleton] at hu; rw [hu]; rfl) (by decide) (by unfold maxLen; omega) (by omega) (by simp; have := HBL.out.size; omega) (wr.heap.size + 1) (by simp) ?_)
          intro g cap' w3 hown3 hgrow3 hat3 hlt3
          have HF := hide (HS.out _ _ hown3 hgrow3)
          clear hown3 hgrow3 hat3 hown HS
          go_wp2
          go_roundw
          case rel => exact ⟨k + 1, (c) / 10000, _, by omega, by omega, by go_num, rfl, HF.out⟩
          case measure => simp [intOf]; omega

end Go.Proofs.YtdedolkgcdlmeaaGreatDoor
