/- A disk: all settles; Flush, Restart. -/
import Derived.Test.YtnhbfehfipafoaaGreatDoorDkF
import Derived.Deep.AppendLies
import Derived.Test.YtnhbfehfipafoaaGreatDoorDkQ
import Derived.Test.YtnhbfehfipafoaaGreatDoorDkS
import Derived.Laws.BitsLemmas

namespace Go.Proofs.YtnhbfehfipafoaaGreatDoor
open Go.RowKit

def Dsk.settled (keep : Int) (D : Dsk) : Dsk := { D with secs := D.secs.map (Sec.settled keep), number := 0 }

def upToS (keep : Int) (ss : List Sec) (j : Nat) : List Sec := (ss.take j).map (Sec.settled keep) ++ ss.drop j

theorem upToS_len (keep : Int) (ss : List Sec) (j : Nat) (hj : j ≤ ss.length) : (upToS keep ss j).length = ss.length := by
 unfold upToS
 rw [List.length_append, List.length_map, List.length_take, List.length_drop]; omega

theorem upToS_at (keep : Int) (ss : List Sec) (j : Nat) (hj : j < ss.length) : (upToS keep ss j)[j]? = some ss[j] := by
 unfold upToS
 rw [List.getElem?_append_right (by rw [List.length_map, List.length_take]; omega), List.length_map, List.length_take, Nat.min_eq_left (by omega), Nat.sub_self, List.getElem?_drop, Nat.add_zero, List.getElem?_eq_getElem hj]

theorem upToS_step (keep : Int) (ss : List Sec) (j : Nat) (hj : j < ss.length) : (upToS keep ss j).set j (ss[j].settled keep) = upToS keep ss (j + 1) := by
 unfold upToS
 have hl : ((ss.take j).map (Sec.settled keep)).length = j := by rw [List.length_map, List.length_take]; omega
 rw [List.set_append_right _ _ (by omega), hl, Nat.sub_self, List.drop_eq_getElem_cons hj, List.set_cons_zero, List.take_succ_eq_append_getElem hj, List.map_append, List.append_assoc]
 rfl

set_option linter.unusedSimpArgs false in
set_option maxRecDepth 100000 in
set_option maxHeartbeats 1600000 in
theorem settle_any (w : World) (base : Own) (B : Nat) (D : Dsk) (keep : Int) (h : DiskO w base B D) (h2 : D.secs.length ≤ 200) :
  Calls Tryz.prog 59 #[.pointer (some ⟨B, 0, none⟩), .int .u64 keep] w fun e w' => e = .returned (.tuple #[]) ∧ DiskO w' base B (D.settled keep) ∧ Kept base w w' := by
 obtain ⟨sv, ls, h⟩ := h
 have HM := hide h
 obtain ⟨so, cap, rfl⟩ := h.shape
 obtain ⟨c0, -⟩ := h.cells
 clear h
 go_enter Tryz.func59, Tryz.ntmps59
 go_wp2
 clear c0
 go_loopw [10] (fun x wr => ∃ j : Nat, j ≤ D.secs.length ∧ x = .int .i64 j ∧ Hid (∃ ls, DiskM wr base B { D with secs := upToS keep D.secs j } (.slice so D.secs.length cap) ls) ∧ Hid (Kept base w wr)) (fun x _ => D.secs.length - (intOf x).toNat)
 case atStart => exact ⟨0, Nat.zero_le _, rfl, hide ⟨ls, HM.out⟩, hide (Kept.refl _ _)⟩
 case round =>
  clear HM
  obtain ⟨j, hj, rfl, HMR, HKR⟩ := hrel
  obtain ⟨ls', hmr⟩ := HMR.out
  have HM := hide hmr
  obtain ⟨c0, c1, -, -, hf⟩ := hmr.cells
  have hf1 := hf 1
  clear hf HMR
  by_cases hjl : j < D.secs.length
  ·obtain ⟨g, cap', e, -, -, hcap⟩ := hmr.list (by show 0 < (upToS keep D.secs j).length; rw [upToS_len _ _ _ hj]; omega)
   simp only [Value.slice.injEq] at e
   obtain ⟨rfl, -, rfl⟩ := e
   have HAT := hide (upToS_at keep D.secs j hjl)
   have HST := hide (upToS_step keep D.secs j hjl)
   generalize D.secs[j] = s at *
   clear hmr c1 hcap
   go_wp2_with fail
   refine (settleS_any wr base B { D with secs := upToS keep D.secs j } g D.secs.length cap ls' j keep s HM.out HAT.out).mono ?_
   rintro e w1 ⟨rfl, hm1, hk1⟩
   have HM1 : Hid (∃ ls, DiskM w1 base B { D with secs := upToS keep D.secs (j + 1) } (.slice (some ⟨g, 0, none⟩) D.secs.length cap) ls) := by
    simp only [HST.out] at hm1
    exact ⟨_, hm1⟩
   have HK1 := hide (HKR.out.trans hk1)
   clear hm1 hk1 HM HKR c0
   go_wp2
   go_roundw
   case rel => exact ⟨j + 1, by omega, by go_num, HM1, HK1⟩
   case measure => simp [intOf]; omega
  ·obtain rfl : j = D.secs.length := by omega
   have HD : Hid (DiskO (wr.setCell ⟨B, 1, none⟩ (.int .i64 0)) base B (D.settled keep)) := by
    refine ⟨_, _, hmr.field (D' := D.settled keep) 1 (.int .i64 0) ?_ (by show 0 < 64; omega) hmr.left rfl⟩
    show D.secs.map _ = upToS keep D.secs D.secs.length
    unfold upToS
    rw [List.take_length, List.drop_length, List.append_nil]
   have HK := hide (HKR.out.trans (Kept.set hmr.low hmr.head (.inl rfl) 1 (.int .i64 0)))
   clear hmr HM HKR
   go_wp2
   exact bodyPost_end (results_none rfl _ _ _) rfl ⟨rfl, HD.out, HK.out⟩

theorem stepped_secs (D : Dsk) : D.stepped.secs = D.secs := by
 unfold Dsk.stepped
 split
 ·rfl
 ·split <;> rfl

set_option maxRecDepth 100000 in
set_option maxHeartbeats 1600000 in
theorem flush_ok (w : World) (base : Own) (B : Nat) (D : Dsk) (h : DiskO w base B D) (h2 : D.secs.length ≤ 200) (hs : D.steps = true) :
  Calls Tryz.prog 94 #[.pointer (some ⟨B, 0, none⟩)] w fun e w' => e = .returned .nilIface ∧ DiskO w' base B (D.stepped.settled 18446744073709551615) ∧ Kept base w w' := by
 have H := hide h
 clear h
 go_enter Tryz.func94, Tryz.ntmps94
 go_wp2_with fail
 refine (step_any w base B D H.out).mono ?_
 rintro e w1 ⟨rfl, hd1, hk1⟩
 have HD := hide hd1; have HK := hide hk1
 have e : stepErr D = .nilIface := by unfold stepErr; rw [if_pos hs]
 rw [e]
 clear hd1 hk1 e
 go_wp2_with fail
 refine (settle_any w1 base B D.stepped 18446744073709551615 HD.out (by rw [stepped_secs]; exact h2)).mono ?_
 rintro e w2 ⟨rfl, hd2, hk2⟩
 have HD2 := hide hd2; have HK2 := hide (HK.out.trans hk2)
 clear hd2 hk2 HD HK
 go_wp2
 go_ret
 exact ⟨rfl, HD2.out, HK2.out⟩

end Go.Proofs.YtnhbfehfipafoaaGreatDoor

/- A disk: a new one. -/
namespace Go.Proofs.YtnhbfehfipafoaaGreatDoor
open Go.RowKit

def sec0 : Sec := ⟨List.replicate 64 0, []⟩
def secZ : List Value := scells sec0 (.slice none 0 0)
def newD (n : Nat) : Dsk := ⟨List.replicate n sec0, 0, -1, false⟩

theorem Tryz.infoSec : (Tryz.prog.info? 87).map (fun i => (i.zero, i.size, i.bytes)) = some (some (.agg secZ.toArray), 65, 88) := by kernel_rfl

theorem secZ_len : secZ.length = 65 := by simp [secZ, scells, sec0]

theorem sec0_ok : sec0.ok := ⟨by simp [sec0], fun _ h => by cases h⟩

theorem dcells_snoc : ∀ (ss : List Sec) (vs : List Value) (s : Sec) (v : Value), ss.length = vs.length → dcells (ss ++ [s]) (vs ++ [v]) = dcells ss vs ++ scells s v
 | [], [], s, v, _ => by simp [dcells]
 | [], _ :: _, _, _, h => by simp at h
 | _ :: _, [], _, _, h => by simp at h
 | s0 :: ss, v0 :: vs, s, v, h => by
  rw [List.cons_append, List.cons_append, dcells, dcells, dcells_snoc ss vs s v (by simpa using h), List.append_assoc]

def cells0 (j : Nat) : List Value := dcells (List.replicate j sec0) (List.replicate j (.slice none 0 0))

theorem cells0_succ (j : Nat) : cells0 j ++ secZ = cells0 (j + 1) := by
 unfold cells0 secZ
 rw [List.replicate_succ', List.replicate_succ', dcells_snoc _ _ _ _ (by simp)]

structure NewI (w W : World) (j : Nat) (sv : Value) : Prop where
 head : W.heap[w.heap.size]? = some (.cells #[sv, .int .i64 0, .int .i64 (-1), .bool false] 83 (0, 0))
 own : W.ownsRow w.heap.size 87 65 sv j (cells0 j)
 below : Below w.heap.size w W

theorem NewI.disk {w W : World} {j : Nat} {sv : Value} (h : NewI w W j sv) : DiskO W (one w.heap.size) w.heap.size (newD j) := by
 refine ⟨sv, List.replicate j (.slice none 0 0), .inl (Nat.le_refl _), h.head, by simp [newD], ?_, fun i s v hs hv => ?_, fun i k v v' g _ hv _ hg => ?_, fun s hs => ?_, by simp [newD], by simp [newD], fun b hb => .inl (h.own.lt b hb).1, fun v hv b hb => by rw [(List.mem_replicate.1 hv).2] at hb; cases hb⟩
 ·simp only [newD, List.length_replicate]
  exact ownsZero h.own
 ·have hij : i < j := by
   have := (List.getElem?_eq_some_iff.1 hs).1
   simpa [newD] using this
  simp only [newD, List.getElem?_replicate, if_pos hij] at hs hv
  have e1 := Option.some.inj hs
  have e2 := Option.some.inj hv
  subst e1 e2
  exact World.ownsRow_nil _ _ _ _
 ·rw [List.getElem?_replicate] at hv
  split at hv
  ·have e := Option.some.inj hv
   subst e
   cases hg
  ·cases hv
 ·rw [(List.mem_replicate.1 hs).2]
  exact sec0_ok

theorem NewI.away {w W : World} {j : Nat} {sv : Value} (h : NewI w W j sv) : some w.heap.size ≠ sv.ownBlock := fun e => by
 rcases h.own.2 with ⟨rfl, -⟩ | ⟨g, cap, cur, rfl, -, hh, -⟩
 ·cases e
 ·simp only [Value.ownBlock, Option.some.injEq] at e
  subst e
  rw [h.head] at hh
  simp only [Option.some.injEq, Obj.cells.injEq] at hh
  exact absurd hh.2.1 (by decide)

theorem run_zero_sector (w : World) : (Instr.build 87 #[]).run Tryz.prog w = .ok (.agg secZ.toArray) w := by kernel_rfl

set_option linter.unusedSimpArgs false in
set_option maxRecDepth 100000 in
set_option maxHeartbeats 1600000 in
theorem new_ok (w : World) (n : Nat) (h1 : 1 ≤ n) (h2 : n ≤ 200) :
  Calls Tryz.prog 11 #[.int .i64 (n : Int)] w fun e w' => e = .returned (.tuple #[.pointer (some ⟨w.heap.size, 0, none⟩), .nilIface]) ∧ DiskO w' (one w.heap.size) w.heap.size (newD n) ∧ Below w.heap.size w w' := by
 obtain ⟨i0, hi, hz0, hz1, hz2⟩ := info_parts Tryz.infoSec
 have g1 : decide ((n : Int) < 1) = false := decide_eq_false (by omega)
 have g2 : decide (200 < (n : Int)) = false := decide_eq_false (by omega)
 have HS : Hid (NewI w (w.alloc (.cells #[.slice none 0 0, .int .i64 0, .int .i64 (-1), .bool false] 83)) 0 (.slice none 0 0)) := ⟨heap_alloc_new w _, World.ownsRow_nil _ _ _ _, (Below.refl _ _).alloc (Nat.le_refl _) _⟩
 go_enter Tryz.func11, Tryz.ntmps11
 go_wp2
 clear g1 g2
 go_loopw [15] (fun x wr => ∃ (j : Nat) (sv : Value), j ≤ n ∧ x = .int .i64 j ∧ Hid (NewI w wr j sv)) (fun x _ => n - (intOf x).toNat)
 case atStart => exact ⟨0, _, Nat.zero_le _, rfl, HS⟩
 case round =>
  clear HS
  obtain ⟨j, sv, hj, rfl, HI⟩ := hrel
  by_cases hjl : j < n
  ·have c0 : wr.cell? ⟨w.heap.size, 0, none⟩ = some sv := by rw [cell_of_row wr _ 0 _ _ _ HI.out.head]; rfl
   have hlt : w.heap.size < wr.heap.size := heap_lt HI.out.head
   have HBS := hide (run_buildSliceA (P := Tryz.prog) wr 81 87 i0 (.agg secZ.toArray) secZ (by kernel_rfl) hi hz0 (by rw [hz1, secZ_len]) (by simp [Value.cells]) (by rw [secZ_len]; decide) (by rw [secZ_len]; decide))
   have HOW := hide (HI.out.own.alloc (.cells secZ.toArray 87))
   have HNEW : Hid (∀ k u, secZ[k]? = some u → (wr.alloc (.cells secZ.toArray 87)).cell? ((⟨wr.heap.size, 0, none⟩ : Addr).add k) = some u) := World.news_of_block (heap_alloc_new wr _)
   have HONE : Hid (∀ u ∈ secZ, u.oneCell' = true) := fun u hu => by
    simp only [secZ, scells, sec0, List.mem_append, List.mem_map, List.mem_singleton] at hu
    rcases hu with ⟨b, -, rfl⟩ | rfl <;> rfl
   go_wp2_with (show wpList _ _ _ ({ dst := some 22, op := _, type := _, pos := _, after := _, guard := _ } :: _) _ _; refine wpList_buildA rfl 22 rfl 87 #[] rfl #[] (by simp) _ (run_zero_sector wr) ?_; refine wpList_buildSliceA rfl 23 rfl 81 (.tmp 22) rfl _ _ _ rfl HBS.out ?_; refine wpList_append_lies _ rfl (.tmp 21) (.tmp 23) 81 rfl w.heap.size 87 i0 (.agg secZ.toArray) 65 88 (by kernel_rfl) hi hz0 hz1 hz2 (by simp [Value.cells, secZ_len]) (by decide) sv j (cells0 j) rfl HOW.out ⟨wr.heap.size, 0, none⟩ 1 1 secZ rfl (by rw [secZ_len]) HNEW.out HONE.out (by decide) (by unfold maxLen; omega) (by omega) (by simp; omega) (wr.heap.size + 1) (by simp) ?_; intro g cap w5 hown5 hgrow5 hat5 hlt5; have HO5 := hide hown5; have HG5 := hide hgrow5; clear hown5 hgrow5 hat5 hlt5; have hb5 := (HG5.out.block w.heap.size (by simp; omega) HI.out.away).trans ((((Below.refl wr.heap.size wr).alloc (Nat.le_refl _) (.cells secZ.toArray 87)).block w.heap.size hlt).trans HI.out.head); have d0 : w5.cell? ⟨w.heap.size, 0, none⟩ = some sv := (by rw [cell_of_row w5 _ 0 _ _ _ hb5]; rfl); have df : w5.frozen? ⟨w.heap.size, 0, none⟩ = false := (by simp [World.frozen?, hb5]); have H5 := hide hb5; clear hb5)
   have HN : Hid (NewI w (w5.setCell ⟨w.heap.size, 0, none⟩ (.slice (some ⟨g, 0, none⟩) (j + 1) cap)) (j + 1) (.slice (some ⟨g, 0, none⟩) (j + 1) cap)) := by
    refine hide ⟨?_, ?_, ?_⟩
    ·rw [heap_setCell_same w5 _ 0 _ _ _ H5.out]; rfl
    ·have := HO5.out
     rw [cells0_succ] at this
     exact ownsOther this H5.out (by decide) _ _
    ·exact (((HI.out.below.alloc HI.out.below.size _).grown HG5.out (by simp; omega) (fun k hk => (HI.out.own.lt k hk).1))).setCell (p := ⟨w.heap.size, 0, none⟩) (Nat.le_refl _) _
   clear HO5 HG5 H5 HI HBS HOW HNEW HONE
   go_wp2
   go_roundw
   case rel => exact ⟨j + 1, _, by omega, by go_num, HN⟩
   case measure => simp [intOf]; omega
  ·obtain rfl : j = n := by omega
   have HD := hide HI.out.disk
   have HB := hide HI.out.below
   clear HI
   go_wp2
   exact bodyPost_ret (v := .tuple #[.pointer (some ⟨w.heap.size, 0, none⟩), .nilIface]) (by simp [results, Tryz.results11, go_sem]) rfl ⟨rfl, HD.out, HB.out⟩

end Go.Proofs.YtnhbfehfipafoaaGreatDoor

/- A disk: a sector is written. -/
namespace Go.Proofs.YtnhbfehfipafoaaGreatDoor
open Go.RowKit

def Dsk.wrote (D : Dsk) (i : Nat) (s : Sec) (l : List UInt8) : Dsk := { D with secs := D.secs.set i { s with loose := s.loose ++ [(((2 ^ D.number : Nat) : Int), padded l)] }, number := (D.number + 1) % 64 }

set_option maxRecDepth 100000 in
set_option maxHeartbeats 1600000 in
theorem write_bound (w : World) (base : Own) (B : Nat) (D : Dsk) (at' : Int) (t : ByteArray) (h : DiskO w base B D) (hb : ¬ (0 ≤ at' ∧ at' < D.secs.length)) :
  Calls Tryz.prog 93 #[.pointer (some ⟨B, 0, none⟩), .int .i64 at', .string t] w fun e w' => e = .returned (errno 1) ∧ Below w.heap.size w w' := by
 have H := hide h
 clear h
 go_enter Tryz.func93, Tryz.ntmps93
 go_wp2_with fail
 refine (has_any w base B D at' H.out).mono ?_
 rintro e w1 ⟨rfl, hb1⟩
 rw [decide_eq_false hb]
 have HB := hide hb1
 clear hb1 hb H
 go_wp2
 go_ret
 exact ⟨rfl, HB.out⟩

set_option maxRecDepth 100000 in
set_option maxHeartbeats 1600000 in
theorem write_size (w : World) (base : Own) (B : Nat) (D : Dsk) (at' : Int) (t : ByteArray) (h : DiskO w base B D) (hb : 0 ≤ at' ∧ at' < D.secs.length) (ht : 64 < t.size) (ht2 : t.size ≤ 1000000) :
  Calls Tryz.prog 93 #[.pointer (some ⟨B, 0, none⟩), .int .i64 at', .string t] w fun e w' => e = .returned (errno 6) ∧ Below w.heap.size w w' := by
 have H := hide h
 clear h
 go_enter Tryz.func93, Tryz.ntmps93
 go_wp2_with fail
 refine (has_any w base B D at' H.out).mono ?_
 rintro e w1 ⟨rfl, hb1⟩
 rw [decide_eq_true hb]
 have HB := hide hb1
 clear hb1 hb H
 have g1 : decide (64 < (t.size : Int)) = true := decide_eq_true (by omega)
 go_wp2
 go_ret
 exact ⟨rfl, HB.out⟩

theorem bit_val (n : Nat) (h : n < 64) : IntKind.u64.wrap ((2 : Int) ^ n) = ((2 ^ n : Nat) : Int) := (by decide : ∀ n : Nat, n < 64 → IntKind.u64.wrap ((2 : Int) ^ n) = ((2 ^ n : Nat) : Int)) n h

theorem bit_lt (n : Nat) (h : n < 64) : ((2 ^ n : Nat) : Int) < 18446744073709551616 := (by decide : ∀ n : Nat, n < 64 → ((2 ^ n : Nat) : Int) < 18446744073709551616) n h

end Go.Proofs.YtnhbfehfipafoaaGreatDoor

/- A disk that isn't armed: writes, one behind the other. -/
namespace Go.Proofs.YtnhbfehfipafoaaGreatDoor
open Go.RowKit

structure Quiet (D : Dsk) (m k : Nat) : Prop where
 len : D.secs.length = m
 left : D.left = -1
 down : D.down = false
 num : D.number ≤ k
 few : ∀ s ∈ D.secs, s.loose.length ≤ k
 bits : ∀ s ∈ D.secs, ∀ p ∈ s.loose, ∃ j, j < D.number ∧ p.1 = ((2 ^ j : Nat) : Int)

theorem Quiet.mono {D : Dsk} {m k l : Nat} (h : Quiet D m k) (hl : k ≤ l) : Quiet D m l :=
 ⟨h.len, h.left, h.down, Nat.le_trans h.num hl, fun s hs => Nat.le_trans (h.few s hs) hl, h.bits⟩

theorem Quiet.steps {D : Dsk} {m k : Nat} (h : Quiet D m k) : D.steps = true := by
 unfold Dsk.steps
 rw [h.down, h.left]; decide

theorem Quiet.stepped {D : Dsk} {m k : Nat} (h : Quiet D m k) : D.stepped = D := by
 unfold Dsk.stepped
 rw [if_neg (by rw [h.left]; decide), if_neg (by rw [h.left]; exact fun h => absurd h.2 (by decide))]

def writeErr (D : Dsk) (at' : Int) (t : ByteArray) : Value := if 0 ≤ at' ∧ at' < D.secs.length then (if t.size ≤ 64 then .nilIface else errno 6) else errno 1

def writeD (D : Dsk) (at' : Int) (t : ByteArray) : Dsk := if (0 ≤ at' ∧ at' < D.secs.length) ∧ t.size ≤ 64 then D.wrote at'.toNat (D.secs.getD at'.toNat sec0) t.data.toList else D

theorem Quiet.write {D : Dsk} {m k : Nat} (h : Quiet D m k) (hk : k < 63) (at' : Int) (t : ByteArray) : Quiet (writeD D at' t) m (k + 1) := by
 unfold writeD
 split
 ·rename_i hc
  obtain ⟨⟨h0, h1⟩, ht⟩ := hc
  have hlt : at'.toNat < D.secs.length := by omega
  have hg : D.secs.getD at'.toNat sec0 = D.secs[at'.toNat] := by rw [List.getD_eq_getElem?_getD, List.getElem?_eq_getElem hlt]; rfl
  have hnum : (D.number + 1) % 64 = D.number + 1 := Nat.mod_eq_of_lt (by have := h.num; omega)
  refine ⟨by simp [Dsk.wrote, h.len], h.left, h.down, ?_, fun s hs => ?_, fun s hs p hp => ?_⟩
  ·show (D.number + 1) % 64 ≤ k + 1
   rw [hnum]; have := h.num; omega
  ·rcases List.mem_or_eq_of_mem_set hs with hm | rfl
   ·have := h.few s hm; omega
   ·rw [hg]
    have := h.few _ (List.getElem_mem hlt)
    simp only [List.length_append, List.length_singleton]
    omega
  ·show ∃ j, j < (D.number + 1) % 64 ∧ _
   rw [hnum]
   rcases List.mem_or_eq_of_mem_set hs with hm | rfl
   ·obtain ⟨j, hj, e⟩ := h.bits s hm p hp
    exact ⟨j, by omega, e⟩
   ·rw [hg] at hp
    rcases List.mem_append.1 hp with hp | hp
    ·obtain ⟨j, hj, e⟩ := h.bits _ (List.getElem_mem hlt) p hp
     exact ⟨j, by omega, e⟩
    ·rw [List.mem_singleton] at hp
     rw [hp]
     exact ⟨D.number, by omega, rfl⟩
 ·exact h.mono (by omega)

theorem sec0_settled (keep : Int) : sec0.settled keep = sec0 := rfl

theorem settled_clean (D : Dsk) (keep : Int) : ∀ s ∈ (D.settled keep).secs, s.loose = [] := fun s hs => by
 obtain ⟨s0, -, rfl⟩ := List.mem_map.1 hs
 rfl

def wantL (keep : Int) (s : Sec) : List UInt8 := s.loose.foldl (keepOne keep) s.kept

end Go.Proofs.YtnhbfehfipafoaaGreatDoor

/- A disk that is armed, or down: what is refused. -/
namespace Go.Proofs.YtnhbfehfipafoaaGreatDoor
open Go.RowKit

set_option maxRecDepth 100000 in
set_option maxHeartbeats 1600000 in
theorem flush_down (w : World) (base : Own) (B : Nat) (D : Dsk) (h : DiskO w base B D) (hs : D.steps = false) :
  Calls Tryz.prog 94 #[.pointer (some ⟨B, 0, none⟩)] w fun e w' => e = .returned (errno 9) ∧ DiskO w' base B D.stepped ∧ Kept base w w' := by
 have H := hide h
 clear h
 go_enter Tryz.func94, Tryz.ntmps94
 go_wp2_with fail
 refine (step_any w base B D H.out).mono ?_
 rintro e w1 ⟨rfl, hd1, hk1⟩
 have HD := hide hd1; have HK := hide hk1
 have e : stepErr D = errno 9 := by unfold stepErr; rw [hs]; rfl
 rw [e]
 clear hd1 hk1 e H
 go_wp2
 go_ret
 exact ⟨rfl, HD.out, HK.out⟩

set_option maxRecDepth 100000 in
set_option maxHeartbeats 1600000 in
theorem write_down (w : World) (base : Own) (B : Nat) (D : Dsk) (at' : Int) (t : ByteArray) (h : DiskO w base B D) (hb : 0 ≤ at' ∧ at' < D.secs.length) (ht : t.size ≤ 64) (hs : D.steps = false) :
  Calls Tryz.prog 93 #[.pointer (some ⟨B, 0, none⟩), .int .i64 at', .string t] w fun e w' => e = .returned (errno 9) ∧ DiskO w' base B D.stepped ∧ Kept base w w' := by
 have H := hide h
 clear h
 go_enter Tryz.func93, Tryz.ntmps93
 go_wp2_with fail
 refine (has_any w base B D at' H.out).mono ?_
 rintro e w1 ⟨rfl, hb1⟩
 rw [decide_eq_true hb]
 have HB := hide hb1
 have H1 : Hid (DiskO w1 base B D) := by obtain ⟨sv, ls, h⟩ := H.out; exact ⟨sv, ls, h.later hb1⟩
 clear hb1 hb H
 have g1 : decide (64 < (t.size : Int)) = false := decide_eq_false (by omega)
 go_wp2_with fail
 refine (step_any w1 base B D H1.out).mono ?_
 rintro e w2 ⟨rfl, hd2, hk2⟩
 have e : stepErr D = errno 9 := by unfold stepErr; rw [hs]; rfl
 rw [e]
 have HD := hide hd2; have HK := hide ((Kept.of_below (base := base) HB.out).trans hk2)
 clear hd2 hk2 e HB H1
 go_wp2
 go_ret
 exact ⟨rfl, HD.out, HK.out⟩

set_option maxRecDepth 100000 in
set_option maxHeartbeats 1600000 in
theorem read_down (w : World) (base : Own) (B : Nat) (D : Dsk) (at' : Int) (h : DiskO w base B D) (hd : D.down = true) :
  Calls Tryz.prog 60 #[.pointer (some ⟨B, 0, none⟩), .int .i64 at'] w fun e w' => e = .returned (.tuple #[.string ⟨#[]⟩, errno 9]) ∧ Below w.heap.size w w' := by
 obtain ⟨sv, ls, h⟩ := h
 obtain ⟨-, -, -, c3, -⟩ := h.cells
 rw [hd] at c3
 clear h
 go_enter Tryz.func60, Tryz.ntmps60
 go_wp2
 exact bodyPost_ret (v := .tuple #[.string ⟨#[]⟩, errno 9]) (by simp [results, Tryz.results60, go_sem]) rfl ⟨rfl, Below.refl _ _⟩

set_option maxRecDepth 100000 in
set_option maxHeartbeats 1600000 in
theorem read_bound (w : World) (base : Own) (B : Nat) (D : Dsk) (at' : Int) (h : DiskO w base B D) (hd : D.down = false) (hb : ¬ (0 ≤ at' ∧ at' < D.secs.length)) :
  Calls Tryz.prog 60 #[.pointer (some ⟨B, 0, none⟩), .int .i64 at'] w fun e w' => e = .returned (.tuple #[.string ⟨#[]⟩, errno 1]) ∧ Below w.heap.size w w' := by
 have H := hide h
 obtain ⟨sv, ls, h⟩ := h
 obtain ⟨-, -, -, c3, -⟩ := h.cells
 rw [hd] at c3
 clear h
 go_enter Tryz.func60, Tryz.ntmps60
 go_wp2_with fail
 refine (has_any w base B D at' H.out).mono ?_
 rintro e w1 ⟨rfl, hb1⟩
 rw [decide_eq_false hb]
 have HB := hide hb1
 clear hb1 hb H c3
 go_wp2
 exact bodyPost_ret (v := .tuple #[.string ⟨#[]⟩, errno 1]) (by simp [results, Tryz.results60, go_sem]) rfl ⟨rfl, HB.out⟩

end Go.Proofs.YtnhbfehfipafoaaGreatDoor

/- A disk: a write, whatever was written before. -/
namespace Go.Proofs.YtnhbfehfipafoaaGreatDoor
open Go.RowKit

def Dsk.over (D : Dsk) (i : Nat) (s : Sec) (l : List UInt8) : Dsk := { D with secs := D.secs.set i { s with loose := without ((2 ^ D.number : Nat) : Int) s.loose ++ [(((2 ^ D.number : Nat) : Int), padded l)] }, number := (D.number + 1) % 64 }

set_option linter.unusedSimpArgs false in
set_option maxRecDepth 100000 in
set_option maxHeartbeats 1600000 in
theorem write_all (w : World) (base : Own) (B : Nat) (D : Dsk) (i : Nat) (s : Sec) (t : ByteArray) (h : DiskO w base B D) (hs : D.secs[i]? = some s) (h2 : D.secs.length ≤ 200) (ht : t.size ≤ 64) (hst : D.steps = true) (hno : s.loose.Pairwise fun p q => p.1 ≠ q.1) (hsm : s.loose.length ≤ 1000000) (hbase : base.h ≤ w.heap.size) :
  Calls Tryz.prog 93 #[.pointer (some ⟨B, 0, none⟩), .int .i64 (i : Int), .string t] w fun e w' => e = .returned .nilIface ∧ DiskO w' base B (D.stepped.over i s t.data.toList) ∧ Kept base w w' := by
 have H := hide h; have HS := hide hs; have HNO := hide hno
 have hi := (List.getElem?_eq_some_iff.1 hs).1
 clear h hs hno
 have hh : decide (0 ≤ (i : Int) ∧ (i : Int) < D.secs.length) = true := decide_eq_true ⟨by omega, by omega⟩
 go_enter Tryz.func93, Tryz.ntmps93
 go_wp2_with fail
 refine (has_any w base B D i H.out).mono ?_
 rintro e w1 ⟨rfl, hb1⟩
 rw [hh]
 have HB := hide hb1
 have H1 : Hid (DiskO w1 base B D) := by obtain ⟨sv, ls, h⟩ := H.out; exact ⟨sv, ls, h.later hb1⟩
 clear hb1 hh H
 have g1 : decide (64 < (t.size : Int)) = false := decide_eq_false (by omega)
 go_wp2_with fail
 refine (step_any w1 base B D H1.out).mono ?_
 rintro e w2 ⟨rfl, hd2, hk2⟩
 have e : stepErr D = .nilIface := by unfold stepErr; rw [if_pos hst]
 rw [e]
 have HK := hide ((Kept.of_below (base := base) HB.out).trans hk2)
 obtain ⟨sv, ls, hm⟩ := hd2
 have HM := hide hm
 have hlen : D.stepped.secs.length = D.secs.length := by rw [stepped_secs]
 obtain ⟨g, cap, rfl, -, -, hcap⟩ := hm.list (by omega)
 obtain ⟨c0, c1, -, -, hf⟩ := hm.cells
 have hnum : D.stepped.number = D.number := by unfold Dsk.stepped; split; rfl; split <;> rfl
 have hn64 := hm.num
 have hbs : base.h ≤ w2.heap.size := Nat.le_trans hbase HK.out.size
 rw [hlen] at c0 hcap
 clear hk2 hm HB H1 e
 go_wp2_with fail
 refine upto_start (S := (fun w' => w'.cell? ⟨B, 0, none⟩ = some (.slice (some ⟨g, 0, none⟩) D.secs.length cap) ∧ w'.cell? ⟨B, 1, none⟩ = some (.int .i64 (D.stepped.number : Int)))) (k := 12) (by kernel_rfl) (by exact ⟨c0, c1⟩) (fun hHeld => ?_)
 refine upto_run (v := ?_) 0 22 [1, 2, 3, 5, 12] rfl rfl (by kernel_rfl) (by kernel_rfl) (by kernel_rfl) (by kernel_rfl) (by kernel_rfl) (fun _ _ _ h => h) (by rfl) ?_ (by assumption) ?_
 rotate_left
 ·(intro w hSw; (try dsimp only at hSw); obtain ⟨hS1, hS2⟩ := hSw; go_simp; with_reducible rfl)
 simp only [Act.put, List.setIfInBounds_toArray, List.set_cons_zero, List.set_cons_succ]
 refine upto_run (v := ?_) 1 23 [2, 3, 5, 12] rfl rfl (by kernel_rfl) (by kernel_rfl) (by kernel_rfl) (by kernel_rfl) (by kernel_rfl) (fun _ _ _ h => h) (by rfl) ?_ (by assumption) ?_
 rotate_left
 ·(intro w hSw; (try dsimp only at hSw); obtain ⟨hS1, hS2⟩ := hSw; go_simp; with_reducible rfl)
 simp only [Act.put, List.setIfInBounds_toArray, List.set_cons_zero, List.set_cons_succ]
 refine upto_run (v := ?_) 2 24 [3, 5, 12] rfl rfl (by kernel_rfl) (by kernel_rfl) (by kernel_rfl) (by kernel_rfl) (by kernel_rfl) (fun _ _ _ h => h) (by rfl) ?_ (by assumption) ?_
 rotate_left
 ·(intro w hSw; (try dsimp only at hSw); obtain ⟨hS1, hS2⟩ := hSw; go_simp; with_reducible rfl)
 simp only [Act.put, List.setIfInBounds_toArray, List.set_cons_zero, List.set_cons_succ]
 refine upto_run (v := ?_) 3 25 [5, 12] rfl rfl (by kernel_rfl) (by kernel_rfl) (by kernel_rfl) (by kernel_rfl) (by kernel_rfl) (fun _ _ _ h => h) (by rfl) ?_ (by assumption) ?_
 rotate_left
 ·(intro w hSw; (try dsimp only at hSw); obtain ⟨hS1, hS2⟩ := hSw; go_simp; with_reducible rfl)
 simp only [Act.put, List.setIfInBounds_toArray, List.set_cons_zero, List.set_cons_succ]
 refine upto_run (v := ?_) 4 26 [5, 12] rfl rfl (by kernel_rfl) (by kernel_rfl) (by kernel_rfl) (by kernel_rfl) (by kernel_rfl) (fun _ _ _ h => h) (by rfl) ?_ (by assumption) ?_
 rotate_left
 ·(intro w hSw; (try dsimp only at hSw); obtain ⟨hS1, hS2⟩ := hSw; go_simp; with_reducible rfl)
 simp only [Act.put, List.setIfInBounds_toArray, List.set_cons_zero, List.set_cons_succ]
 refine upto_run (v := ?_) 5 27 [12] rfl rfl (by kernel_rfl) (by kernel_rfl) (by kernel_rfl) (by kernel_rfl) (by kernel_rfl) (fun _ _ _ h => h) (by rfl) ?_ (by assumption) ?_
 rotate_left
 ·(intro w hSw; (try dsimp only at hSw); obtain ⟨hS1, hS2⟩ := hSw; go_simp; with_reducible rfl)
 simp only [Act.put, List.setIfInBounds_toArray, List.set_cons_zero, List.set_cons_succ]
 refine upto_run (v := ?_) 6 28 [7, 8, 9, 10, 12] rfl rfl (by kernel_rfl) (by kernel_rfl) (by kernel_rfl) (by kernel_rfl) (by kernel_rfl) (fun _ _ _ h => h) (by rfl) ?_ (by assumption) ?_
 rotate_left
 ·(intro w hSw; (try dsimp only at hSw); obtain ⟨hS1, hS2⟩ := hSw; go_simp; with_reducible rfl)
 simp only [Act.put, List.setIfInBounds_toArray, List.set_cons_zero, List.set_cons_succ]
 refine upto_run (v := ?_) 7 29 [8, 9, 10, 12] rfl rfl (by kernel_rfl) (by kernel_rfl) (by kernel_rfl) (by kernel_rfl) (by kernel_rfl) (fun _ _ _ h => h) (by rfl) ?_ (by assumption) ?_
 rotate_left
 ·(intro w hSw; (try dsimp only at hSw); obtain ⟨hS1, hS2⟩ := hSw; go_simp; with_reducible rfl)
 simp only [Act.put, List.setIfInBounds_toArray, List.set_cons_zero, List.set_cons_succ]
 refine upto_run (v := ?_) 8 30 [9, 10, 12] rfl rfl (by kernel_rfl) (by kernel_rfl) (by kernel_rfl) (by kernel_rfl) (by kernel_rfl) (fun _ _ _ h => h) (by rfl) ?_ (by assumption) ?_
 rotate_left
 ·(intro w hSw; (try dsimp only at hSw); obtain ⟨hS1, hS2⟩ := hSw; go_simp; with_reducible rfl)
 simp only [Act.put, List.setIfInBounds_toArray, List.set_cons_zero, List.set_cons_succ]
 refine upto_run (v := ?_) 9 31 [10, 12] rfl rfl (by kernel_rfl) (by kernel_rfl) (by kernel_rfl) (by kernel_rfl) (by kernel_rfl) (fun _ _ _ h => h) (by rfl) ?_ (by assumption) ?_
 rotate_left
 ·(intro w hSw; (try dsimp only at hSw); obtain ⟨hS1, hS2⟩ := hSw; go_simp; with_reducible rfl)
 simp only [Act.put, List.setIfInBounds_toArray, List.set_cons_zero, List.set_cons_succ]
 refine upto_run (v := ?_) 10 32 [12] rfl rfl (by kernel_rfl) (by kernel_rfl) (by kernel_rfl) (by kernel_rfl) (by kernel_rfl) (fun _ _ _ h => h) (by rfl) ?_ (by assumption) ?_
 rotate_left
 ·(intro w hSw; (try dsimp only at hSw); obtain ⟨hS1, hS2⟩ := hSw; go_simp; with_reducible rfl)
 simp only [Act.put, List.setIfInBounds_toArray, List.set_cons_zero, List.set_cons_succ]
 refine upto_run (v := ?_) 11 33 [12] rfl rfl (by kernel_rfl) (by kernel_rfl) (by kernel_rfl) (by kernel_rfl) (by kernel_rfl) (fun _ _ _ h => h) (by rfl) ?_ (by assumption) ?_
 rotate_left
 ·(intro w hSw; (try dsimp only at hSw); obtain ⟨hS1, hS2⟩ := hSw; go_simp; with_reducible rfl)
 simp only [Act.put, List.setIfInBounds_toArray, List.set_cons_zero, List.set_cons_succ]
 refine upto_one 12 (by kernel_rfl) rfl (fun K hK => ?_)
 go_simp
 rw [bit_val D.number (by omega)]
 refine (add_any w2.drew base B D.stepped g D.secs.length cap ls i ((2 ^ D.number : Nat) : Int) t s (by have := HM.out; rw [hlen] at this; exact this.later (Below.refl _ _).drew) (by rw [stepped_secs]; exact HS.out) ht (Int.natCast_nonneg _) (bit_lt D.number (by omega)) HNO.out hsm hbs).mono ?_
 rintro e w3 ⟨rfl, ⟨sv3, ls3, hm3⟩, hk3⟩
 have HM3 := hide hm3
 have HK3 := hide (HK.out.trans ((Kept.of_below (Below.refl _ _).drew).trans hk3))
 go_wp2_with fail
 refine hK.out _ _ (fun h => absurd h (by decide)) ?_
 clear hK K
 try simp only [Act.put, List.setIfInBounds_toArray, List.set_cons_zero, List.set_cons_succ]
 refine upto_done (by kernel_rfl) ?_
 clear c0 c1 hHeld
 obtain ⟨-, c1, -, -, hf3⟩ := hm3.cells
 have f1 := hf3 1
 simp only [hnum] at c1
 have HF := hide (hm3.field (D' := D.stepped.over i s t.data.toList) 1 (.int .i64 (((D.number + 1) % 64 : Nat) : Int)) (by simp [Dsk.over, hnum]) (by show (D.stepped.number + 1) % 64 < 64; omega) hm3.left (by simp [Dsk.over, hnum]))
 have HKF := hide (HK3.out.trans (Kept.set hm3.low hm3.head (.inl rfl) 1 (.int .i64 (((D.number + 1) % 64 : Nat) : Int))))
 rw [hnum] at hn64
 clear hm3 hk3 HM3 HK3 HK HM hf3 hf
 go_wp2
 rw [show ((D.number : Int) + 1) % 64 = (((D.number + 1) % 64 : Nat) : Int) by omega]
 go_ret
 exact ⟨rfl, ⟨_, _, HF.out⟩, HKF.out⟩

end Go.Proofs.YtnhbfehfipafoaaGreatDoor

/- A disk beside an array of texts. -/
namespace Go.Proofs.YtnhbfehfipafoaaGreatDoor
open Go.RowKit

theorem DiskM.aside {W W' : World} {base : Own} {B : Nat} {D : Dsk} {sv : Value} {ls : List Value} (h : DiskM W base B D sv ls) {b : Nat} {cs : Array Value} {t : TypeId} (hb : W.heap[b]? = some (.cells cs t (0, 0))) (ht : ¬ diskT t) (hk : ∀ c, c ≠ b → W'.heap[c]? = W.heap[c]?) : DiskM W' base B D sv ls where
 low := h.low
 head := by
  refine (hk B fun e => ?_).trans h.head
  subst e
  have := h.head
  rw [hb] at this
  simp only [Option.some.injEq, Obj.cells.injEq] at this
  exact ht (.inl this.2.1)
 len := h.len
 own := ownsAway h.own hb (fun e => ht (.inr (.inl e))) hk
 loose := fun i s v hs hv => ownsAway (h.loose i s v hs hv) hb (fun e => ht (.inr (.inr e))) hk
 apart := h.apart
 ok := h.ok
 num := h.num
 left := h.left
 mine := h.mine

theorem DiskO.later {W W' : World} {base : Own} {B : Nat} {D : Dsk} (h : DiskO W base B D) (hb : Below W.heap.size W W') : DiskO W' base B D := by
 obtain ⟨sv, ls, h⟩ := h
 exact ⟨sv, ls, h.later hb⟩

def Wanted (keep : Int) (D : Dsk) (ws : List ByteArray) : Prop := ∀ (j : Nat) (s : Sec), D.secs[j]? = some s → ws[j]? = some (⟨(wantL keep s).toArray⟩ : ByteArray)

theorem wantL_snoc (keep : Int) (s : Sec) (p : Int × List UInt8) : wantL keep { s with loose := s.loose ++ [p] } = keepOne keep (wantL keep s) p := by
 unfold wantL
 rw [List.foldl_append]; rfl

theorem Wanted.skip {keep : Int} {D : Dsk} {ws : List ByteArray} (h : Wanted keep D ws) (i : Nat) (s : Sec) (hs : D.secs[i]? = some s) (l : List UInt8) (hk : bits .and .u64 ((2 ^ D.number : Nat) : Int) keep = 0) : Wanted keep (D.wrote i s l) ws := fun j s' hs' => by
 have hi := (List.getElem?_eq_some_iff.1 hs).1
 simp only [Dsk.wrote, List.getElem?_set] at hs'
 split at hs'
 ·rename_i e
  subst e
  have e1 := Option.some.inj hs'
  rw [← e1, wantL_snoc]
  have e2 : keepOne keep (wantL keep s) (((2 ^ D.number : Nat) : Int), padded l) = wantL keep s := if_pos hk
  rw [e2]
  exact h _ s hs
 ·exact h j s' hs'

theorem Wanted.put {keep : Int} {D : Dsk} {ws : List ByteArray} (h : Wanted keep D ws) (hw : ws.length = D.secs.length) (i : Nat) (s : Sec) (hs : D.secs[i]? = some s) (l : List UInt8) (hk : ¬ bits .and .u64 ((2 ^ D.number : Nat) : Int) keep = 0) : Wanted keep (D.wrote i s l) (ws.set i ⟨(padded l).toArray⟩) := fun j s' hs' => by
 have hi := (List.getElem?_eq_some_iff.1 hs).1
 simp only [Dsk.wrote, List.getElem?_set] at hs' ⊢
 split at hs'
 ·rename_i e
  subst e
  have e1 := Option.some.inj hs'
  rw [if_pos rfl, if_pos (by omega), ← e1, wantL_snoc]
  have e2 : keepOne keep (wantL keep s) (((2 ^ D.number : Nat) : Int), padded l) = padded l := if_neg hk
  rw [e2]
 ·rename_i e
  rw [if_neg e]
  exact h j s' hs'

end Go.Proofs.YtnhbfehfipafoaaGreatDoor
