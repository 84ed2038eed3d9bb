/- A disk: a new one. -/
import Derived.Test.YtjgodhfnnifchaaDkE
import Derived.Deep.AppendLies
namespace Go.Proofs.Ytjgodhfnnifchaa
open Go.RowKit

def sec0 : Sec := ⟨List.replicate 64 0, []⟩
def secZ : List Value := scells sec0 (.slice none 0 0)
def newD (n : Nat) : Dsk := ⟨List.replicate n sec0, 0, -1, false⟩

theorem Try.infoSec : (Try.prog.info? 78).map (fun i => (i.zero, i.size, i.bytes)) = some (some (.agg secZ.toArray), 65, 88) := by kernel_rfl

theorem secZ_len : secZ.length = 65 := by simp [secZ, scells, sec0]

theorem sec0_ok : sec0.ok := ⟨by simp [sec0], fun _ h => by cases h⟩

theorem dcells_snoc : ∀ (ss : List Sec) (vs : List Value) (s : Sec) (v : Value), ss.length = vs.length → dcells (ss ++ [s]) (vs ++ [v]) = dcells ss vs ++ scells s v
  | [], [], s, v, _ => by simp [dcells]
  | [], _ :: _, _, _, h => by simp at h
  | _ :: _, [], _, _, h => by simp at h
  | s0 :: ss, v0 :: vs, s, v, h => by
    rw [List.cons_append, List.cons_append, dcells, dcells, dcells_snoc ss vs s v (by simpa using h), List.append_assoc]

def cells0 (j : Nat) : List Value := dcells (List.replicate j sec0) (List.replicate j (.slice none 0 0))

theorem cells0_succ (j : Nat) : cells0 j ++ secZ = cells0 (j + 1) := by
  unfold cells0 secZ
  rw [List.replicate_succ', List.replicate_succ', dcells_snoc _ _ _ _ (by simp)]

/-- While sectors are put to a new disk. -/
structure NewI (w W : World) (j : Nat) (sv : Value) : Prop where
  head : W.heap[w.heap.size]? = some (.cells #[sv, .int .i64 0, .int .i64 (-1), .bool false] 74 (0, 0))
  own : W.ownsRow w.heap.size 78 65 sv j (cells0 j)
  below : Below w.heap.size w W

theorem NewI.disk {w W : World} {j : Nat} {sv : Value} (h : NewI w W j sv) : DiskO W w.heap.size w.heap.size (newD j) := by
  refine ⟨sv, List.replicate j (.slice none 0 0), Nat.le_refl _, h.head, by simp [newD], ?_, fun i s v hs hv => ?_, fun i k v v' g _ hv _ hg => ?_, fun s hs => ?_, by simp [newD], by simp [newD]⟩
  · simp only [newD, List.length_replicate]
    exact h.own
  · have hij : i < j := by
      have := (List.getElem?_eq_some_iff.1 hs).1
      simpa [newD] using this
    simp only [newD, List.getElem?_replicate, if_pos hij] at hs hv
    have e1 := Option.some.inj hs
    have e2 := Option.some.inj hv
    subst e1 e2
    exact World.ownsRow_nil _ _ _ _
  · rw [List.getElem?_replicate] at hv
    split at hv
    · have e := Option.some.inj hv
      subst e
      cases hg
    · cases hv
  · rw [(List.mem_replicate.1 hs).2]
    exact sec0_ok

theorem NewI.away {w W : World} {j : Nat} {sv : Value} (h : NewI w W j sv) : some w.heap.size ≠ sv.ownBlock := fun e => by
  rcases h.own.2 with ⟨rfl, -⟩ | ⟨g, cap, cur, rfl, -, hh, -⟩
  · cases e
  · simp only [Value.ownBlock, Option.some.injEq] at e
    subst e
    rw [h.head] at hh
    simp only [Option.some.injEq, Obj.cells.injEq] at hh
    exact absurd hh.2.1 (by decide)

theorem run_zero_sector (w : World) : (Instr.build 78 #[]).run Try.prog w = .ok (.agg secZ.toArray) w := by kernel_rfl

set_option linter.unusedSimpArgs false in
set_option maxRecDepth 100000 in
set_option maxHeartbeats 1600000 in
theorem new_ok (w : World) (n : Nat) (h1 : 1 ≤ n) (h2 : n ≤ 200) :
    Calls Try.prog 9 #[.int .i64 (n : Int)] w fun e w' => e = .returned (.tuple #[.pointer (some ⟨w.heap.size, 0, none⟩), .nilIface]) ∧ DiskO w' w.heap.size w.heap.size (newD n) ∧ Below w.heap.size w w' := by
  obtain ⟨i0, hi, hz0, hz1, hz2⟩ := info_parts Try.infoSec
  have g1 : decide ((n : Int) < 1) = false := decide_eq_false (by omega)
  have g2 : decide (200 < (n : Int)) = false := decide_eq_false (by omega)
  have HS : Hid (NewI w (w.alloc (.cells #[.slice none 0 0, .int .i64 0, .int .i64 (-1), .bool false] 74)) 0 (.slice none 0 0)) := ⟨heap_alloc_new w _, World.ownsRow_nil _ _ _ _, (Below.refl _ _).alloc (Nat.le_refl _) _⟩
  go_enter Try.func9, Try.ntmps9
  go_wp2
  clear g1 g2
  go_loopw [15] (fun x wr => ∃ (j : Nat) (sv : Value), j ≤ n ∧ x = .int .i64 j ∧ Hid (NewI w wr j sv)) (fun x _ => n - (intOf x).toNat)
  case atStart => exact ⟨0, _, Nat.zero_le _, rfl, HS⟩
  case round =>
    clear HS
    obtain ⟨j, sv, hj, rfl, HI⟩ := hrel
    by_cases hjl : j < n
    · have c0 : wr.cell? ⟨w.heap.size, 0, none⟩ = some sv := by rw [cell_of_row wr _ 0 _ _ _ HI.out.head]; rfl
      have hlt : w.heap.size < wr.heap.size := heap_lt HI.out.head
      have HBS := hide (run_buildSliceA (P := Try.prog) wr 72 78 i0 (.agg secZ.toArray) secZ (by kernel_rfl) hi hz0 (by rw [hz1, secZ_len]) (by simp [Value.cells]) (by rw [secZ_len]; decide) (by rw [secZ_len]; decide))
      have HOW := hide (HI.out.own.alloc (.cells secZ.toArray 78))
      have HNEW : Hid (∀ k u, secZ[k]? = some u → (wr.alloc (.cells secZ.toArray 78)).cell? ((⟨wr.heap.size, 0, none⟩ : Addr).add k) = some u) := World.news_of_block (heap_alloc_new wr _)
      have HONE : Hid (∀ u ∈ secZ, u.oneCell' = true) := fun u hu => by
        simp only [secZ, scells, sec0, List.mem_append, List.mem_map, List.mem_singleton] at hu
        rcases hu with ⟨b, -, rfl⟩ | rfl <;> rfl
      go_wp2_with (show wpList _ _ _ ({ dst := some 22, op := _, type := _, pos := _, after := _, guard := _ } :: _) _ _; refine wpList_buildA rfl 22 rfl 78 #[] rfl #[] (by simp) _ (run_zero_sector wr) ?_; refine wpList_buildSliceA rfl 23 rfl 72 (.tmp 22) rfl _ _ _ rfl HBS.out ?_; refine wpList_append_lies _ rfl (.tmp 21) (.tmp 23) 72 rfl w.heap.size 78 i0 (.agg secZ.toArray) 65 88 (by kernel_rfl) hi hz0 hz1 hz2 (by simp [Value.cells, secZ_len]) (by decide) sv j (cells0 j) rfl HOW.out ⟨wr.heap.size, 0, none⟩ 1 1 secZ rfl (by rw [secZ_len]) HNEW.out HONE.out (by decide) (by unfold maxLen; omega) (by omega) (by simp; omega) (wr.heap.size + 1) (by simp) ?_; intro g cap w5 hown5 hgrow5 hat5 hlt5; have HO5 := hide hown5; have HG5 := hide hgrow5; clear hown5 hgrow5 hat5 hlt5; have hb5 := (HG5.out.block w.heap.size (by simp; omega) HI.out.away).trans ((((Below.refl wr.heap.size wr).alloc (Nat.le_refl _) (.cells secZ.toArray 78)).block w.heap.size hlt).trans HI.out.head); have d0 : w5.cell? ⟨w.heap.size, 0, none⟩ = some sv := (by rw [cell_of_row w5 _ 0 _ _ _ hb5]; rfl); have df : w5.frozen? ⟨w.heap.size, 0, none⟩ = false := (by simp [World.frozen?, hb5]); have H5 := hide hb5; clear hb5)
      have HN : Hid (NewI w (w5.setCell ⟨w.heap.size, 0, none⟩ (.slice (some ⟨g, 0, none⟩) (j + 1) cap)) (j + 1) (.slice (some ⟨g, 0, none⟩) (j + 1) cap)) := by
        refine hide ⟨?_, ?_, ?_⟩
        · rw [heap_setCell_same w5 _ 0 _ _ _ H5.out]; rfl
        · have := HO5.out
          rw [cells0_succ] at this
          exact ownsOther this H5.out (by decide) _ _
        · exact (((HI.out.below.alloc HI.out.below.size _).grown HG5.out (by simp; omega) (fun k hk => (HI.out.own.lt k hk).1))).setCell (p := ⟨w.heap.size, 0, none⟩) (Nat.le_refl _) _
      clear HO5 HG5 H5 HI HBS HOW HNEW HONE
      go_wp2
      go_roundw
      case rel => exact ⟨j + 1, _, by omega, by go_num, HN⟩
      case measure => simp [intOf]; omega
    · obtain rfl : j = n := by omega
      have HD := hide HI.out.disk
      have HB := hide HI.out.below
      clear HI
      go_wp2
      exact bodyPost_ret (v := .tuple #[.pointer (some ⟨w.heap.size, 0, none⟩), .nilIface]) (by simp [results, Try.results9, go_sem]) rfl ⟨rfl, HD.out, HB.out⟩

end Go.Proofs.Ytjgodhfnnifchaa
