/- A log: a deed is closed; operations are written. -/
import Derived.Test.YtnhbfehfipafoaaGreatDoorWaF
import Derived.Test.YtnhbfehfipafoaaGreatDoorBpZ
import Derived.Lib.Split
import Derived.Laws.MakeOwn

namespace Go.Proofs.YtnhbfehfipafoaaGreatDoor
open Go.RowKit

def andFlush (D : Dsk) (ok : Bool) : Value × Dsk := if ok = true then (stepErr D, flushD D) else (errno 9, D)

theorem stepErr_ok {D : Dsk} (h : D.steps = true) : stepErr D = .nilIface := by unfold stepErr; rw [if_pos h]
theorem stepErr_no {D : Dsk} (h : D.steps = false) : stepErr D = errno 9 := by unfold stepErr; rw [if_neg (by rw [h]; decide)]

set_option linter.unusedSimpArgs false in
set_option maxRecDepth 100000 in
set_option maxHeartbeats 1600000 in
theorem logClose_any (w : World) (base : Own) (B L : Nat) (D : Dsk) (m k fr en n : Nat) (many first : Int) (hd : DiskO w base B D) (hl : LogM w L B fr many first en) (hw : Well D m k) (hk : k ≤ 1000000) (hm : m ≤ 200) (hin : fr + (en + n) < m) (hf : 0 ≤ first ∧ first ≤ 8589934592) (hbase : base.h ≤ w.heap.size) :
  Calls Tryz.prog 72 #[.pointer (some ⟨L, 0, none⟩), .int .i64 (n : Int)] w fun e w' => e = .returned (andFlush (putD D ((fr + (en + n) : Nat) : Int) (secB (secT 99 (first + (en + n : Nat)) (fourB n)))) D.steps).1 ∧ DiskO w' base B (andFlush (putD D ((fr + (en + n) : Nat) : Int) (secB (secT 99 (first + (en + n : Nat)) (fourB n)))) D.steps).2 ∧ Kept base w w' := by
 obtain ⟨I, hI⟩ : ∃ I, en + n = I := ⟨_, rfl⟩
 rw [hI]
 rw [hI] at hin
 have hcast : (en : Int) + (n : Int) = (I : Int) := by omega
 have gW : IntKind.i64.wrap (I : Int) = (I : Int) := wrap_small (by omega) (by omega)
 have gU : IntKind.u32.wrap (n : Int) = (n : Int) := by show (n : Int) % 2 ^ 32 = _; omega
 have gM : (n : Int) % 4294967296 = (n : Int) := by omega
 obtain ⟨D1, hD1⟩ : ∃ D1, putD D ((fr + I : Nat) : Int) (secB (secT 99 (first + (I : Int)) (fourB n))) = D1 := ⟨_, rfl⟩
 rw [hD1]
 have hw1 : D1.secs.length = m := by rw [← hD1]; exact (hw.put _ _).len
 have HD1 := hide hD1; have HW1 := hide hw1
 have HD := hide hd; have HL := hide hl; have HW := hide hw; have HIN := hide hin
 obtain ⟨-, -, -, -, c4, -⟩ := hl.cells
 have hn200 : n ≤ 200 := by omega
 clear hd hl hw hin hD1 hw1 hI
 go_enter Tryz.func72, Tryz.ntmps72
 go_wp2_with fail
 refine wp_region_held_drew (S := (fun w' => w'.cell? ⟨L, 4, none⟩ = some (.int .i64 (en : Int)))) (by kernel_rfl) (by (try dsimp only); go_keep) (fun hHeld => ?_)
 refine held_run (v := ?_) 0 6 rfl rfl (by kernel_rfl) (by kernel_rfl) (by kernel_rfl) (fun _ _ _ h => h) (by rfl) ?_ (by assumption) ?_
 rotate_left
 ·(intro w hSw; (try dsimp only at hSw); go_simp; with_reducible rfl)
 simp only [Act.put, List.setIfInBounds_toArray, List.set_cons_zero, List.set_cons_succ]
 refine held_run (v := ?_) 1 7 rfl rfl (by kernel_rfl) (by kernel_rfl) (by kernel_rfl) (fun _ _ _ h => h) (by rfl) ?_ (by assumption) ?_
 rotate_left
 ·(intro w hSw; (try dsimp only at hSw); go_simp; with_reducible rfl)
 simp only [Act.put, List.setIfInBounds_toArray, List.set_cons_zero, List.set_cons_succ]
 refine held_run (v := ?_) 2 8 rfl rfl (by kernel_rfl) (by kernel_rfl) (by kernel_rfl) (fun _ _ _ h => h) (by rfl) ?_ (by assumption) ?_
 rotate_left
 ·(intro w hSw; (try dsimp only at hSw); go_simp; with_reducible rfl)
 simp only [Act.put, List.setIfInBounds_toArray, List.set_cons_zero, List.set_cons_succ]
 refine held_run (v := ?_) 3 9 rfl rfl (by kernel_rfl) (by kernel_rfl) (by kernel_rfl) (fun _ _ _ h => h) (by rfl) ?_ (by assumption) ?_
 rotate_left
 ·(intro w hSw; (try dsimp only at hSw); go_simp; with_reducible rfl)
 simp only [Act.put, List.setIfInBounds_toArray, List.set_cons_zero, List.set_cons_succ]
 refine held_run (v := ?_) 4 10 rfl rfl (by kernel_rfl) (by kernel_rfl) (by kernel_rfl) (fun _ _ _ h => h) (by rfl) ?_ (by assumption) ?_
 rotate_left
 ·(intro w hSw; (try dsimp only at hSw); go_simp; with_reducible rfl)
 simp only [Act.put, List.setIfInBounds_toArray, List.set_cons_zero, List.set_cons_succ]
 refine held_run (v := ?_) 5 11 rfl rfl (by kernel_rfl) (by kernel_rfl) (by kernel_rfl) (fun _ _ _ h => h) (by rfl) ?_ (by assumption) ?_
 rotate_left
 ·(intro w hSw; (try dsimp only at hSw); go_simp; with_reducible rfl)
 simp only [Act.put, List.setIfInBounds_toArray, List.set_cons_zero, List.set_cons_succ]
 refine held_run (v := ?_) 6 12 rfl rfl (by kernel_rfl) (by kernel_rfl) (by kernel_rfl) (fun _ _ _ h => h) (by rfl) ?_ (by assumption) ?_
 rotate_left
 ·(intro w hSw; (try dsimp only at hSw); go_simp; with_reducible rfl)
 simp only [Act.put, List.setIfInBounds_toArray, List.set_cons_zero, List.set_cons_succ]
 refine held_run (v := ?_) 7 13 rfl rfl (by kernel_rfl) (by kernel_rfl) (by kernel_rfl) (fun _ _ _ h => h) (by rfl) ?_ (by assumption) ?_
 rotate_left
 ·(intro w hSw; (try dsimp only at hSw); go_simp; with_reducible rfl)
 simp only [Act.put, List.setIfInBounds_toArray, List.set_cons_zero, List.set_cons_succ]
 refine held_run (v := ?_) 8 14 rfl rfl (by kernel_rfl) (by kernel_rfl) (by kernel_rfl) (fun _ _ _ h => h) (by rfl) ?_ (by assumption) ?_
 rotate_left
 ·(intro w hSw; (try dsimp only at hSw); go_simp; with_reducible rfl)
 simp only [Act.put, List.setIfInBounds_toArray, List.set_cons_zero, List.set_cons_succ]
 refine wpAnyH_ready (rs := [9]) (by kernel_rfl) (by simp) (AllReadyH.cons (o := _) rfl (fun K hK => ?_) AllReadyH.nil)
 go_simp
 (refine (four_any _ (n : Int) (by omega) (by omega)).mono ?_; rintro e w3 ⟨rfl, hb3'⟩; have hb3 : Below w.heap.size w w3 := (Below.refl _ _).drew.trans (hb3'.mono (by simp)); clear hb3'; obtain ⟨-, -, -, -, d4, -⟩ := (HL.out.later hb3).cells)
 go_wp2_with fail
 refine hK.out _ _ (by (try dsimp only); go_keep) (fun hHeld => ?_)
 clear hK K
 try simp only [Act.put, List.setIfInBounds_toArray, List.set_cons_zero, List.set_cons_succ]
 refine wpAnyH_ready (rs := [10]) (by kernel_rfl) (by simp) (AllReadyH.cons (o := _) rfl (fun K hK => ?_) AllReadyH.nil)
 go_simp
 (refine (logWrite_any _ base B L D m k fr I many first (en : Int) 99 ⟨(fourB (n : Int)).toArray⟩ (HD.out.later hb3) (HL.out.later hb3) HW.out hk hm HIN.out hf (by show 4 ≤ 58; decide) (Nat.le_trans hbase hb3.size)).mono ?_; rintro e w4 ⟨rfl, hd4, hk4⟩; obtain ⟨-, -, -, -, f4, -⟩ := ((HL.out.later hb3).kept hk4).cells)
 go_wp2_with fail
 refine hK.out _ _ (by (try dsimp only); go_keep) (fun hHeld => ?_)
 clear hK K
 try simp only [Act.put, List.setIfInBounds_toArray, List.set_cons_zero, List.set_cons_succ]
 refine held_run (v := ?_) 11 5 rfl rfl (by kernel_rfl) (by kernel_rfl) (by kernel_rfl) (fun _ _ _ h => h) (by rfl) ?_ (by assumption) ?_
 rotate_left
 ·(intro w hSw; (try dsimp only at hSw); go_simp; with_reducible rfl)
 simp only [Act.put, List.setIfInBounds_toArray, List.set_cons_zero, List.set_cons_succ]
 refine wpAnyH_done (by kernel_rfl) ?_ _
 rw [HD1.out] at hd4
 have hkk : Kept base w w4 := (Kept.of_below hb3).trans hk4
 have HDD := hide hd4; have HKK := hide hkk; have HLL := hide ((HL.out.later hb3).kept hk4)
 clear hd4 hkk hk4 hb3
 cases hs : D.steps with
 | false =>
  rw [stepErr_no hs]
  have HSS := hide hs
  clear hs
  go_wp2
  go_ret
  rw [HSS.out]
  exact ⟨rfl, HDD.out, HKK.out⟩
 | true =>
  rw [stepErr_ok hs]
  have HSS := hide hs
  clear hs
  obtain ⟨f0, -, -, -, -, -⟩ := HLL.out.cells
  go_wp2_with fail
  refine (flush_any w4 base B D1 HDD.out (by rw [HW1.out]; exact hm)).mono ?_
  rintro e w5 ⟨rfl, hd5, hk5⟩
  go_wp2
  go_ret
  rw [HSS.out]
  exact ⟨rfl, hd5, HKK.out.trans hk5⟩

def StrB (W : World) (P : Nat) (bs : List ByteArray) : Prop := W.heap[P]? = some (.cells (bs.map Value.string).toArray 9 (0, 0))

theorem StrB.kept {W W' : World} {base : Own} {P : Nat} {bs : List ByteArray} (h : StrB W P bs) (hk : Kept base W W') : StrB W' P bs :=
 (hk.block P (heap_lt h) (.inr fun cs t fz hx => by
  rw [h] at hx
  simp only [Option.some.injEq, Obj.cells.injEq] at hx
  rw [← hx.2.1]
  unfold diskT
  decide)).trans h

theorem StrB.later {W W' : World} {P : Nat} {bs : List ByteArray} (h : StrB W P bs) (hb : Below W.heap.size W W') : StrB W' P bs := (hb.block P (heap_lt h)).trans h

theorem StrB.cell {W : World} {P : Nat} {bs : List ByteArray} (h : StrB W P bs) {j : Nat} {b : ByteArray} (hb : bs[j]? = some b) : W.cell? ⟨P, j, none⟩ = some (.string b) := by
 rw [cell_of_row W P j _ _ _ h]
 simp [hb]

def writesD (first : Int) (fr : Nat) : Nat → List ByteArray → Dsk → Dsk × Bool
 | _, [], D => (D, true)
 | i, b :: t, D => if D.steps = true then writesD first fr (i + 1) t (putD D ((fr + i : Nat) : Int) (secB (secT 111 (first + i) b.data.toList))) else (putD D ((fr + i : Nat) : Int) (secB (secT 111 (first + i) b.data.toList)), false)

theorem writesD_well (first : Int) (fr m : Nat) : ∀ (bs : List ByteArray) (i k : Nat) (D : Dsk), Well D m k → Well (writesD first fr i bs D).1 m (k + bs.length)
 | [], _, _, _, h => h
 | b :: t, i, k, D, h => by
  have h1 := h.put ((fr + i : Nat) : Int) (secB (secT 111 (first + i) b.data.toList))
  unfold writesD
  split
  ·have := writesD_well first fr m t (i + 1) (k + 1) _ h1
   rw [List.length_cons]
   exact this.mono (by omega)
  ·exact h1.mono (by rw [List.length_cons]; omega)

set_option linter.unusedSimpArgs false in
set_option maxRecDepth 100000 in
set_option maxHeartbeats 1600000 in
theorem writeAll_any (w : World) (base : Own) (B L P : Nat) (D : Dsk) (m k fr en : Nat) (many first : Int) (bs : List ByteArray) (hd : DiskO w base B D) (hl : LogM w L B fr many first en) (hw : Well D m k) (hk : k ≤ 1000) (hm : m ≤ 200) (hin : fr + (en + bs.length) < m) (hf : 0 ≤ first ∧ first ≤ 8589934592) (hS : ∀ b ∈ bs, b.size ≤ 58) (hsb : StrB w P bs) (hbase : base.h ≤ w.heap.size) :
  Calls Tryz.prog 71 #[.pointer (some ⟨L, 0, none⟩), .slice (some ⟨P, 0, none⟩) bs.length bs.length] w fun e w' => e = .returned (andFlush (writesD first fr en bs D).1 (writesD first fr en bs D).2).1 ∧ DiskO w' base B (andFlush (writesD first fr en bs D).1 (writesD first fr en bs D).2).2 ∧ Kept base w w' := by
 obtain ⟨R, hR⟩ : ∃ R, writesD first fr en bs D = R := ⟨_, rfl⟩
 rw [hR]
 have hRw : R.1.secs.length = m := by rw [← hR]; exact (writesD_well first fr m bs en k D hw).len
 have HR := hide hR; have HRW := hide hRw; have HD := hide hd; have HL := hide hl; have HW := hide hw; have HS := hide hS; have HSB := hide hsb
 obtain ⟨nb, hnb⟩ : ∃ nb, bs.length = nb := ⟨_, rfl⟩
 rw [hnb] at hin ⊢
 have HNB := hide hnb; have HIN0 := hide hin
 have hnb200 : nb ≤ 200 := by omega
 have hen200 : en ≤ 200 := by omega
 clear hd hl hw hR hRw hS hsb hnb hin
 go_enter Tryz.func71, Tryz.ntmps71
 go_wp2_with fail
 go_loopw [9] (fun i wr => ∃ (j : Nat) (E : Dsk), j ≤ nb ∧ i = .int .i64 j ∧ Hid (DiskO wr base B E) ∧ Hid (LogM wr L B fr many first en) ∧ Hid (StrB wr P bs) ∧ Hid (Well E m (k + j)) ∧ Hid (writesD first fr (en + j) (bs.drop j) E = R) ∧ Hid (Kept base w wr)) (fun i _ => nb - (intOf i).toNat)
 case atStart => exact ⟨0, D, Nat.zero_le _, rfl, HD, HL, HSB, HW, HR, Kept.refl _ _⟩
 case round =>
  obtain ⟨j, E, hj, rfl, HDE, HLE, HSE, HWE, HRE, HKE⟩ := hrel
  by_cases hjl : j < nb
  ·have hjb : j < bs.length := by rw [HNB.out]; exact hjl
   obtain ⟨b, hbj, hdr⟩ : ∃ b, bs[j]? = some b ∧ bs.drop j = b :: bs.drop (j + 1) := ⟨bs[j], List.getElem?_eq_getElem hjb, List.drop_eq_getElem_cons hjb⟩
   have c5 := HSE.out.cell hbj
   have HB58 : Hid (b.size ≤ 58) := HS.out _ (List.mem_of_getElem? hbj)
   have hre := HRE.out
   rw [hdr] at hre
   have HBJ := hide hbj
   have HRE1 := hide hre
   have HSB := HSE
   obtain ⟨I, hI⟩ : ∃ I, en + j = I := ⟨_, rfl⟩
   have hcast : (en : Int) + (j : Int) = (I : Int) := by omega
   have gW : IntKind.i64.wrap (I : Int) = (I : Int) := wrap_small (by omega) (by omega)
   rw [hI] at HRE1
   have HI := hide hI
   obtain ⟨q, hq⟩ : ∃ q, k + j = q := ⟨_, rfl⟩
   rw [hq] at HWE
   have HQ : Hid (q ≤ 1000000) := by show _ ≤ _; omega
   have HQE := hide hq
   have HIN : Hid (fr + I < m) := by have := HIN0.out; show _ < _; omega
   have HBS : Hid (base.h ≤ wr.heap.size) := Nat.le_trans hbase HKE.out.size
   obtain ⟨-, -, -, -, c4, -⟩ := HLE.out.cells
   clear hdr hre hbj hjb hI hq
   go_wp2_with fail
   refine wp_region_held_drew (S := (fun w' => w'.cell? ⟨L, 4, none⟩ = some (.int .i64 (en : Int)) ∧ w'.cell? ⟨P, j, none⟩ = some (.string b))) (by kernel_rfl) (by (try dsimp only); go_keep) (fun hHeld => ?_)
   refine held_run (v := ?_) 0 12 rfl rfl (by kernel_rfl) (by kernel_rfl) (by kernel_rfl) (fun _ _ _ h => h) (by rfl) ?_ (by assumption) ?_
   rotate_left
   ·(intro w hSw; (try dsimp only at hSw); go_simp; with_reducible rfl)
   simp only [Act.put, List.setIfInBounds_toArray, List.set_cons_zero, List.set_cons_succ]
   refine held_run (v := ?_) 1 13 rfl rfl (by kernel_rfl) (by kernel_rfl) (by kernel_rfl) (fun _ _ _ h => h) (by rfl) ?_ (by assumption) ?_
   rotate_left
   ·(intro w hSw; (try dsimp only at hSw); go_simp; with_reducible rfl)
   simp only [Act.put, List.setIfInBounds_toArray, List.set_cons_zero, List.set_cons_succ]
   refine held_run (v := ?_) 2 14 rfl rfl (by kernel_rfl) (by kernel_rfl) (by kernel_rfl) (fun _ _ _ h => h) (by rfl) ?_ (by assumption) ?_
   rotate_left
   ·(intro w hSw; (try dsimp only at hSw); go_simp; with_reducible rfl)
   simp only [Act.put, List.setIfInBounds_toArray, List.set_cons_zero, List.set_cons_succ]
   refine held_run (v := ?_) 3 15 rfl rfl (by kernel_rfl) (by kernel_rfl) (by kernel_rfl) (fun _ _ _ h => h) (by rfl) ?_ (by assumption) ?_
   rotate_left
   ·(intro w hSw; (try dsimp only at hSw); go_simp; with_reducible rfl)
   simp only [Act.put, List.setIfInBounds_toArray, List.set_cons_zero, List.set_cons_succ]
   refine held_run (v := ?_) 4 16 rfl rfl (by kernel_rfl) (by kernel_rfl) (by kernel_rfl) (fun _ _ _ h => h) (by rfl) ?_ (by assumption) ?_
   rotate_left
   ·(intro w hSw; (try dsimp only at hSw); go_simp; with_reducible rfl)
   simp only [Act.put, List.setIfInBounds_toArray, List.set_cons_zero, List.set_cons_succ]
   refine held_run (v := ?_) 5 17 rfl rfl (by kernel_rfl) (by kernel_rfl) (by kernel_rfl) (fun _ _ _ h => h) (by rfl) ?_ (by assumption) ?_
   rotate_left
   ·(intro w hSw; (try dsimp only at hSw); go_simp; with_reducible rfl)
   simp only [Act.put, List.setIfInBounds_toArray, List.set_cons_zero, List.set_cons_succ]
   refine held_run (v := ?_) 6 18 rfl rfl (by kernel_rfl) (by kernel_rfl) (by kernel_rfl) (fun _ _ _ h => h) (by rfl) ?_ (by assumption) ?_
   rotate_left
   ·(intro w hSw; (try dsimp only at hSw); go_simp; with_reducible rfl)
   simp only [Act.put, List.setIfInBounds_toArray, List.set_cons_zero, List.set_cons_succ]
   refine held_run (v := ?_) 7 19 rfl rfl (by kernel_rfl) (by kernel_rfl) (by kernel_rfl) (fun _ _ _ h => h) (by rfl) ?_ (by assumption) ?_
   rotate_left
   ·(intro w hSw; (try dsimp only at hSw); go_simp; with_reducible rfl)
   simp only [Act.put, List.setIfInBounds_toArray, List.set_cons_zero, List.set_cons_succ]
   refine held_run (v := ?_) 8 20 rfl rfl (by kernel_rfl) (by kernel_rfl) (by kernel_rfl) (fun _ _ _ h => h) (by rfl) ?_ (by assumption) ?_
   rotate_left
   ·(intro w hSw; (try dsimp only at hSw); go_simp; with_reducible rfl)
   simp only [Act.put, List.setIfInBounds_toArray, List.set_cons_zero, List.set_cons_succ]
   refine held_run (v := ?_) 9 21 rfl rfl (by kernel_rfl) (by kernel_rfl) (by kernel_rfl) (fun _ _ _ h => h) (by rfl) ?_ (by assumption) ?_
   rotate_left
   ·(intro w hSw; (try dsimp only at hSw); go_simp; with_reducible rfl)
   simp only [Act.put, List.setIfInBounds_toArray, List.set_cons_zero, List.set_cons_succ]
   refine held_run (v := ?_) 10 22 rfl rfl (by kernel_rfl) (by kernel_rfl) (by kernel_rfl) (fun _ _ _ h => h) (by rfl) ?_ (by assumption) ?_
   rotate_left
   ·(intro w hSw; (try dsimp only at hSw); go_simp; with_reducible rfl)
   simp only [Act.put, List.setIfInBounds_toArray, List.set_cons_zero, List.set_cons_succ]
   refine wpAnyH_ready (rs := [11]) (by kernel_rfl) (by simp) (AllReadyH.cons (o := _) rfl (fun K hK => ?_) AllReadyH.nil)
   go_simp
   (refine (logWrite_any _ base B L E m q fr I many first (en : Int) 111 b (HDE.out.later (Below.refl _ _).drew) (HLE.out.later (Below.refl _ _).drew) HWE.out HQ.out hm HIN.out hf HB58.out (by first | exact HBS.out | simpa using HBS.out)).mono ?_; rintro e w4 ⟨rfl, hd4, hk4'⟩; have hk4 : Kept base wr w4 := (Kept.of_below (Below.refl _ _).drew).trans hk4'; clear hk4'; obtain ⟨-, -, -, -, f4, -⟩ := (HLE.out.kept hk4).cells; have f5 := (HSB.out.kept hk4).cell HBJ.out)
   go_wp2_with fail
   refine hK.out _ _ (by (try dsimp only); go_keep) (fun hHeld => ?_)
   clear hK K
   try simp only [Act.put, List.setIfInBounds_toArray, List.set_cons_zero, List.set_cons_succ]
   refine held_run (v := ?_) 12 6 rfl rfl (by kernel_rfl) (by kernel_rfl) (by kernel_rfl) (fun _ _ _ h => h) (by rfl) ?_ (by assumption) ?_
   rotate_left
   ·(intro w hSw; (try dsimp only at hSw); go_simp; with_reducible rfl)
   simp only [Act.put, List.setIfInBounds_toArray, List.set_cons_zero, List.set_cons_succ]
   refine wpAnyH_done (by kernel_rfl) ?_ _
   have hre1 := HRE1.out
   unfold writesD at hre1
   have HDD := hide hd4; have HKK := hide (HKE.out.trans hk4); have HLL := hide (HLE.out.kept hk4); have HSS := hide (HSB.out.kept hk4)
   clear hd4 HDE HLE HSE HKE HSB f4 f5 c4 c5
   cases hs : E.steps with
   | false =>
    rw [if_neg (by rw [hs]; decide)] at hre1
    have HRR := hide hre1
    rw [stepErr_no hs]
    clear hre1 hs hk4
    go_wp2
    go_ret
    rw [← HRR.out]
    exact ⟨rfl, HDD.out, HKK.out⟩
   | true =>
    rw [if_pos hs] at hre1
    rw [stepErr_ok hs]
    have HRR : Hid (writesD first fr (en + (j + 1)) (bs.drop (j + 1)) (putD E ((fr + I : Nat) : Int) (secB (secT 111 (first + I) b.data.toList))) = R) := by
     have h := HI.out
     show _ = _
     rw [show en + (j + 1) = I + 1 by omega]
     exact hre1
    have HWW : Hid (Well (putD E ((fr + I : Nat) : Int) (secB (secT 111 (first + I) b.data.toList))) m (k + (j + 1))) := (HWE.out.put _ _).mono (by have := HQE.out; omega)
    clear hre1 hs hk4 HRE HRE1
    go_wp2
    go_roundw
    case rel => exact ⟨j + 1, _, by omega, by go_num, HDD, HLL, HSS, HWW, HRR, HKK⟩
    case measure => simp [intOf]; omega
  ·obtain rfl : j = nb := by omega
   have hre := HRE.out
   rw [List.drop_of_length_le (by rw [HNB.out]; exact Nat.le_refl _)] at hre
   have hRE : R = (E, true) := hre.symm
   have HRR := hide hRE
   obtain ⟨f0, -, -, -, -, -⟩ := HLE.out.cells
   clear hre hRE
   go_wp2_with fail
   refine (flush_any wr base B E HDE.out (by rw [HWE.out.len]; exact hm)).mono ?_
   rintro e w5 ⟨rfl, hd5, hk5⟩
   have HDD := hide hd5; have HKK := hide (HKE.out.trans hk5)
   clear hd5 hk5
   go_wp2
   go_ret
   rw [HRR.out]
   exact ⟨rfl, HDD.out, HKK.out⟩

end Go.Proofs.YtnhbfehfipafoaaGreatDoor

/- A log: what is closed behind the last deed is wiped. -/
namespace Go.Proofs.YtnhbfehfipafoaaGreatDoor
open Go.RowKit

set_option linter.unusedSimpArgs false in
set_option maxRecDepth 100000 in
set_option maxHeartbeats 1600000 in
theorem room_any (w : World) (L B : Nat) (fr first : Int) (mn en : Nat) (hl : LogM w L B fr mn first en) (he : en ≤ mn) (hm : mn ≤ 1000) :
  Calls Tryz.prog 54 #[.pointer (some ⟨L, 0, none⟩)] w fun e w' => e = .returned (.int .i64 ((mn - en : Nat) : Int)) ∧ Below w.heap.size w w' := by
 obtain ⟨-, -, c2, -, c4, -⟩ := hl.cells
 clear hl
 obtain ⟨r, hr⟩ : ∃ r, mn - en = r := ⟨_, rfl⟩
 have hs : (mn : Int) - (en : Int) = (r : Int) := by omega
 have hw : IntKind.i64.wrap (r : Int) = (r : Int) := wrap_small (by omega) (by omega)
 rw [hr]
 clear hr he
 go_enter Tryz.func54, Tryz.ntmps54
 go_wp2_with fail
 go_region_held3 (fun w' => w'.cell? ⟨L, 2, none⟩ = some (.int .i64 (mn : Int)) ∧ w'.cell? ⟨L, 4, none⟩ = some (.int .i64 (en : Int))) (go_keep) (fail)
 go_wp2
 go_ret
 exact ⟨rfl, by first | exact (Below.refl _ _).drew | exact Below.refl _ _⟩

def wipesD (first : Int) (fr : Nat) : Nat → Nat → Dsk → Bool → Dsk × Bool × Bool
 | 0, _, D, wp => (D, true, wp)
 | c + 1, i, D, wp =>
  if D.down = true then (D, false, wp)
  else if (rdSec (first + i) (cont D (fr + i))).1 = 99 then
   (if D.steps = true then wipesD first fr c (i + 1) (putD D ((fr + i : Nat) : Int) ⟨#[]⟩) true else (putD D ((fr + i : Nat) : Int) ⟨#[]⟩, false, wp))
  else wipesD first fr c (i + 1) D wp

theorem wipesD_well (first : Int) (fr m : Nat) : ∀ (c i k : Nat) (D : Dsk) (wp : Bool), Well D m k → Well (wipesD first fr c i D wp).1 m (k + c)
 | 0, _, _, _, _, h => h
 | c + 1, i, k, D, wp, h => by
  have h1 := h.put ((fr + i : Nat) : Int) ⟨#[]⟩
  unfold wipesD
  split
  ·exact h.mono (by omega)
  ·split
   ·split
    ·exact (wipesD_well first fr m c (i + 1) (k + 1) _ _ h1).mono (by omega)
    ·exact h1.mono (by omega)
   ·exact (wipesD_well first fr m c (i + 1) k _ _ h).mono (by omega)

def uncloseR (R : Dsk × Bool × Bool) : Value × Dsk := if R.2.1 = false then (errno 9, R.1) else if R.2.2 = false then (.nilIface, R.1) else (stepErr R.1, flushD R.1)

set_option linter.unusedSimpArgs false in
set_option maxRecDepth 100000 in
set_option maxHeartbeats 1600000 in
theorem unclose_any (w : World) (base : Own) (B L : Nat) (D : Dsk) (m k fr en mn : Nat) (first : Int) (hd : DiskO w base B D) (hl : LogM w L B fr mn first en) (hw : Well D m k) (hk : k ≤ 1000) (hm : m ≤ 200) (hin : fr + mn ≤ m) (he : en ≤ mn) (hf : 0 ≤ first ∧ first ≤ 8589934592) (hbase : base.h ≤ w.heap.size) :
  Calls Tryz.prog 70 #[.pointer (some ⟨L, 0, none⟩)] w fun e w' => e = .returned (uncloseR (wipesD first fr (mn - en) en D false)).1 ∧ DiskO w' base B (uncloseR (wipesD first fr (mn - en) en D false)).2 ∧ Kept base w w' := by
 obtain ⟨R, hR⟩ : ∃ R, wipesD first fr (mn - en) en D false = R := ⟨_, rfl⟩
 rw [hR]
 have hRw : R.1.secs.length = m := by rw [← hR]; exact (wipesD_well first fr m _ en k D false hw).len
 have HRM := hide (room_any w L B fr first mn en hl he (by omega))
 obtain ⟨rm, hrm⟩ : ∃ rm, mn - en = rm := ⟨_, rfl⟩
 rw [hrm] at hR HRM
 have HR := hide hR; have HRW := hide hRw; have HD := hide hd; have HL := hide hl; have HW := hide hw; have HIN0 : Hid (fr + (en + rm) ≤ m) := by show _ ≤ _; omega
 have hrm200 : rm ≤ 200 := by omega
 have hen200 : en ≤ 200 := by omega
 have hfr200 : fr ≤ 200 := by omega
 clear hd hl hw hR hRw hrm hin he
 go_enter Tryz.func70, Tryz.ntmps70
 go_wp2_with fail
 refine HRM.out.mono ?_
 rintro e w1 ⟨rfl, hb1⟩
 have HD1 := hide (HD.out.later hb1); have HL1 := hide (HL.out.later hb1); have HK1 : Hid (Kept base w w1) := Kept.of_below hb1
 clear HRM hb1 HD HL
 go_wp2_with fail
 go_loopw [3, 11] (fun p i wr => ∃ (j : Nat) (E : Dsk) (wp : Bool), j ≤ rm ∧ i = .int .i64 j ∧ p = .bool wp ∧ Hid (DiskO wr base B E) ∧ Hid (LogM wr L B fr mn first en) ∧ Hid (Well E m (k + j)) ∧ Hid (wipesD first fr (rm - j) (en + j) E wp = R) ∧ Hid (Kept base w wr)) (fun _ i _ => rm - (intOf i).toNat)
 case atStart => exact ⟨0, D, false, Nat.zero_le _, rfl, rfl, HD1, HL1, HW, HR, HK1⟩
 case round =>
  clear HD1 HL1 HK1
  obtain ⟨j, E, wp, hj, rfl, rfl, HDE, HLE, HWE, HRE, HKE⟩ := hrel
  by_cases hjl : j < rm
  ·obtain ⟨c, hc⟩ : ∃ c, rm - j = c + 1 := ⟨rm - j - 1, by omega⟩
   obtain ⟨I, hI⟩ : ∃ I, en + j = I := ⟨_, rfl⟩
   have hcast : (en : Int) + (j : Int) = (I : Int) := by omega
   have gW : IntKind.i64.wrap (I : Int) = (I : Int) := wrap_small (by omega) (by omega)
   have hre := HRE.out
   rw [hc, hI] at hre
   unfold wipesD at hre
   have HI := hide hI; have HC := hide hc
   obtain ⟨q, hq⟩ : ∃ q, k + j = q := ⟨_, rfl⟩
   rw [hq] at HWE
   have HQ : Hid (q ≤ 1000000) := by show _ ≤ _; omega
   have HQE := hide hq
   have HIN : Hid (fr + I < E.secs.length) := by have := HIN0.out; have := HWE.out.len; show _ < _; omega
   have HS2 : Hid (E.secs.length ≤ 200) := by have := HWE.out.len; show _ ≤ _; omega
   have HRE1 := hide hre
   obtain ⟨-, -, -, -, c4, -⟩ := HLE.out.cells
   clear hre hI hq hc HRE
   go_wp2_with fail
   refine (logRead_any wr base B L E fr I mn first en HDE.out HLE.out HIN.out HS2.out hf).mono ?_
   rintro e w4 ⟨rfl, hb4⟩
   have HD4 := hide (HDE.out.later hb4); have HL4 := hide (HLE.out.later hb4); have HK4 := hide (HKE.out.trans (Kept.of_below hb4))
   clear hb4 HDE HLE HKE c4
   cases hdn : E.down with
   | true =>
    have h1 := HRE1.out
    rw [if_pos hdn] at h1
    have HRR := hide h1
    have hE : downE E = errno 9 := by unfold downE; rw [if_pos hdn]
    have hR2 : rdR E first fr I = (0, []) := by unfold rdR; rw [if_pos hdn]
    rw [hE, hR2]
    clear h1 hdn hE hR2 HRE1
    go_wp2
    go_ret
    rw [← HRR.out]
    exact ⟨rfl, HD4.out, HK4.out⟩
   | false =>
    have h1 := HRE1.out
    rw [if_neg (by rw [hdn]; decide)] at h1
    have hE : downE E = .nilIface := by unfold downE; rw [if_neg (by rw [hdn]; decide)]
    have hR2 : rdR E first fr I = rdSec (first + I) (cont E (fr + I)) := by unfold rdR; rw [if_neg (by rw [hdn]; decide)]
    rw [hE, hR2]
    clear hE hR2 HRE1 hdn
    by_cases h99 : (rdSec (first + I) (cont E (fr + I))).1 = 99
    ·rw [if_pos h99] at h1
     rw [h99]
     have HRE2 := hide h1
     obtain ⟨A, hA⟩ : ∃ A, fr + en = A := ⟨_, rfl⟩
     have hcA : (fr : Int) + (en : Int) = (A : Int) := by omega
     have gA : IntKind.i64.wrap (A : Int) = (A : Int) := wrap_small (by omega) (by omega)
     obtain ⟨T, hT⟩ : ∃ T, fr + I = T := ⟨_, rfl⟩
     have hcT : (A : Int) + (j : Int) = (T : Int) := by have := HI.out; omega
     have gT : IntKind.i64.wrap (T : Int) = (T : Int) := wrap_small (by have := HI.out; omega) (by have := HI.out; omega)
     rw [hT] at HRE2 HIN
     have HBS : Hid (base.h ≤ w4.heap.size) := Nat.le_trans hbase HK4.out.size
     have hpe : putErr E (T : Int) ⟨#[]⟩ = stepErr E := by
      unfold putErr
      rw [if_pos (And.intro (by omega) (by have := HIN.out; omega)), if_pos (by decide)]
     have HPE := hide hpe; have HTI := hide hT
     obtain ⟨c0, c1, -, -, c4, -⟩ := HL4.out.cells
     clear h1 h99 hA hT hpe
     go_wp2_with fail
     refine wp_region_held_drew (S := (fun w' => w'.cell? ⟨L, 0, none⟩ = some (.pointer (some ⟨B, 0, none⟩)) ∧ w'.cell? ⟨L, 1, none⟩ = some (.int .i64 (fr : Int)) ∧ w'.cell? ⟨L, 4, none⟩ = some (.int .i64 (en : Int)))) (by kernel_rfl) (by (try dsimp only); go_keep) (fun hHeld => ?_)
     refine held_run (v := ?_) 0 31 rfl rfl (by kernel_rfl) (by kernel_rfl) (by kernel_rfl) (fun _ _ _ h => h) (by rfl) ?_ (by assumption) ?_
     rotate_left
     ·(intro w hSw; (try dsimp only at hSw); go_simp; with_reducible rfl)
     simp only [Act.put, List.setIfInBounds_toArray, List.set_cons_zero, List.set_cons_succ]
     refine held_run (v := ?_) 1 32 rfl rfl (by kernel_rfl) (by kernel_rfl) (by kernel_rfl) (fun _ _ _ h => h) (by rfl) ?_ (by assumption) ?_
     rotate_left
     ·(intro w hSw; (try dsimp only at hSw); go_simp; with_reducible rfl)
     simp only [Act.put, List.setIfInBounds_toArray, List.set_cons_zero, List.set_cons_succ]
     refine held_run (v := ?_) 2 33 rfl rfl (by kernel_rfl) (by kernel_rfl) (by kernel_rfl) (fun _ _ _ h => h) (by rfl) ?_ (by assumption) ?_
     rotate_left
     ·(intro w hSw; (try dsimp only at hSw); go_simp; with_reducible rfl)
     simp only [Act.put, List.setIfInBounds_toArray, List.set_cons_zero, List.set_cons_succ]
     refine held_run (v := ?_) 3 34 rfl rfl (by kernel_rfl) (by kernel_rfl) (by kernel_rfl) (fun _ _ _ h => h) (by rfl) ?_ (by assumption) ?_
     rotate_left
     ·(intro w hSw; (try dsimp only at hSw); go_simp; with_reducible rfl)
     simp only [Act.put, List.setIfInBounds_toArray, List.set_cons_zero, List.set_cons_succ]
     refine held_run (v := ?_) 4 35 rfl rfl (by kernel_rfl) (by kernel_rfl) (by kernel_rfl) (fun _ _ _ h => h) (by rfl) ?_ (by assumption) ?_
     rotate_left
     ·(intro w hSw; (try dsimp only at hSw); go_simp; with_reducible rfl)
     simp only [Act.put, List.setIfInBounds_toArray, List.set_cons_zero, List.set_cons_succ]
     refine held_run (v := ?_) 5 36 rfl rfl (by kernel_rfl) (by kernel_rfl) (by kernel_rfl) (fun _ _ _ h => h) (by rfl) ?_ (by assumption) ?_
     rotate_left
     ·(intro w hSw; (try dsimp only at hSw); go_simp; with_reducible rfl)
     simp only [Act.put, List.setIfInBounds_toArray, List.set_cons_zero, List.set_cons_succ]
     refine held_run (v := ?_) 6 37 rfl rfl (by kernel_rfl) (by kernel_rfl) (by kernel_rfl) (fun _ _ _ h => h) (by rfl) ?_ (by assumption) ?_
     rotate_left
     ·(intro w hSw; (try dsimp only at hSw); go_simp; with_reducible rfl)
     simp only [Act.put, List.setIfInBounds_toArray, List.set_cons_zero, List.set_cons_succ]
     refine held_run (v := ?_) 7 38 rfl rfl (by kernel_rfl) (by kernel_rfl) (by kernel_rfl) (fun _ _ _ h => h) (by rfl) ?_ (by assumption) ?_
     rotate_left
     ·(intro w hSw; (try dsimp only at hSw); go_simp; with_reducible rfl)
     simp only [Act.put, List.setIfInBounds_toArray, List.set_cons_zero, List.set_cons_succ]
     refine held_run (v := ?_) 8 39 rfl rfl (by kernel_rfl) (by kernel_rfl) (by kernel_rfl) (fun _ _ _ h => h) (by rfl) ?_ (by assumption) ?_
     rotate_left
     ·(intro w hSw; (try dsimp only at hSw); go_simp; with_reducible rfl)
     simp only [Act.put, List.setIfInBounds_toArray, List.set_cons_zero, List.set_cons_succ]
     refine held_run (v := ?_) 9 40 rfl rfl (by kernel_rfl) (by kernel_rfl) (by kernel_rfl) (fun _ _ _ h => h) (by rfl) ?_ (by assumption) ?_
     rotate_left
     ·(intro w hSw; (try dsimp only at hSw); go_simp; with_reducible rfl)
     simp only [Act.put, List.setIfInBounds_toArray, List.set_cons_zero, List.set_cons_succ]
     refine held_run (v := ?_) 10 41 rfl rfl (by kernel_rfl) (by kernel_rfl) (by kernel_rfl) (fun _ _ _ h => h) (by rfl) ?_ (by assumption) ?_
     rotate_left
     ·(intro w hSw; (try dsimp only at hSw); go_simp; with_reducible rfl)
     simp only [Act.put, List.setIfInBounds_toArray, List.set_cons_zero, List.set_cons_succ]
     refine held_run (v := ?_) 11 42 rfl rfl (by kernel_rfl) (by kernel_rfl) (by kernel_rfl) (fun _ _ _ h => h) (by rfl) ?_ (by assumption) ?_
     rotate_left
     ·(intro w hSw; (try dsimp only at hSw); go_simp; with_reducible rfl)
     simp only [Act.put, List.setIfInBounds_toArray, List.set_cons_zero, List.set_cons_succ]
     refine held_run (v := ?_) 12 43 rfl rfl (by kernel_rfl) (by kernel_rfl) (by kernel_rfl) (fun _ _ _ h => h) (by rfl) ?_ (by assumption) ?_
     rotate_left
     ·(intro w hSw; (try dsimp only at hSw); go_simp; with_reducible rfl)
     simp only [Act.put, List.setIfInBounds_toArray, List.set_cons_zero, List.set_cons_succ]
     refine held_run (v := ?_) 13 44 rfl rfl (by kernel_rfl) (by kernel_rfl) (by kernel_rfl) (fun _ _ _ h => h) (by rfl) ?_ (by assumption) ?_
     rotate_left
     ·(intro w hSw; (try dsimp only at hSw); go_simp; with_reducible rfl)
     simp only [Act.put, List.setIfInBounds_toArray, List.set_cons_zero, List.set_cons_succ]
     refine held_run (v := ?_) 14 45 rfl rfl (by kernel_rfl) (by kernel_rfl) (by kernel_rfl) (fun _ _ _ h => h) (by rfl) ?_ (by assumption) ?_
     rotate_left
     ·(intro w hSw; (try dsimp only at hSw); go_simp; with_reducible rfl)
     simp only [Act.put, List.setIfInBounds_toArray, List.set_cons_zero, List.set_cons_succ]
     refine wpAnyH_ready (rs := [15]) (by kernel_rfl) (by simp) (AllReadyH.cons (o := _) rfl (fun K hK => ?_) AllReadyH.nil)
     go_simp
     (refine (put_any _ base B E m q _ ⟨#[]⟩ (HD4.out.later (Below.refl _ _).drew) HWE.out HQ.out hm (by decide) (by first | exact HBS.out | simpa using HBS.out)).mono ?_; rintro e w5 ⟨rfl, hd5, hk5'⟩; have hk5 : Kept base w4 w5 := (Kept.of_below (Below.refl _ _).drew).trans hk5'; clear hk5'; obtain ⟨f0, f1, -, -, f4, -⟩ := (HL4.out.kept hk5).cells)
     go_wp2_with fail
     refine hK.out _ _ (by (try dsimp only); go_keep) (fun hHeld => ?_)
     clear hK K
     try simp only [Act.put, List.setIfInBounds_toArray, List.set_cons_zero, List.set_cons_succ]
     refine held_run (v := ?_) 16 8 rfl rfl (by kernel_rfl) (by kernel_rfl) (by kernel_rfl) (fun _ _ _ h => h) (by rfl) ?_ (by assumption) ?_
     rotate_left
     ·(intro w hSw; (try dsimp only at hSw); go_simp; with_reducible rfl)
     simp only [Act.put, List.setIfInBounds_toArray, List.set_cons_zero, List.set_cons_succ]
     refine wpAnyH_done (by kernel_rfl) ?_ _
     rw [HPE.out]
     have h2 := HRE2.out
     have HDD := hide hd5; have HKK := hide (HK4.out.trans hk5); have HLL := hide (HL4.out.kept hk5)
     clear hd5 hk5 HD4 HK4 HL4 f0 f1 f4 c0 c1 c4 HRE2 HPE
     cases hs : E.steps with
     | false =>
      rw [if_neg (by rw [hs]; decide)] at h2
      rw [stepErr_no hs]
      have HRR := hide h2
      clear h2 hs
      go_wp2
      go_ret
      rw [← HRR.out]
      exact ⟨rfl, HDD.out, HKK.out⟩
     | true =>
      rw [if_pos hs] at h2
      rw [stepErr_ok hs]
      have HRR : Hid (wipesD first fr (rm - (j + 1)) (en + (j + 1)) (putD E (T : Int) ⟨#[]⟩) true = R) := by
       have h := HI.out; have h3 := HC.out
       show _ = _
       rw [show en + (j + 1) = I + 1 by omega, show rm - (j + 1) = c by omega]
       exact h2
      have HWW : Hid (Well (putD E (T : Int) ⟨#[]⟩) m (k + (j + 1))) := (HWE.out.put _ _).mono (by have := HQE.out; omega)
      clear h2 hs
      go_wp2
      go_roundw
      case rel => exact ⟨j + 1, _, true, by omega, by go_num, rfl, HDD, HLL, HWW, HRR, HKK⟩
      case measure => simp [intOf]; omega
    ·rw [if_neg h99] at h1
     obtain ⟨K, hK⟩ : ∃ K, (rdSec (first + I) (cont E (fr + I))).1 = K := ⟨_, rfl⟩
     rw [hK] at h99 ⊢
     have gK : ((K : Int) != 99) = true := by rw [bne_iff_ne]; omega
     have HRR : Hid (wipesD first fr (rm - (j + 1)) (en + (j + 1)) E wp = R) := by
      have h := HI.out; have h3 := HC.out
      show _ = _
      rw [show en + (j + 1) = I + 1 by omega, show rm - (j + 1) = c by omega]
      exact h1
     have HWW : Hid (Well E m (k + (j + 1))) := HWE.out.mono (by have := HQE.out; omega)
     clear h1 hK h99
     go_wp2
     go_roundw
     case rel => exact ⟨j + 1, _, wp, by omega, by go_num, rfl, HD4, HL4, HWW, HRR, HK4⟩
     case measure => simp [intOf]; omega
  ·obtain rfl : j = rm := by omega
   have hre := HRE.out
   rw [Nat.sub_self] at hre
   have HRR : Hid (R = (E, true, wp)) := hre.symm
   obtain ⟨f0, -, -, -, -, -⟩ := HLE.out.cells
   clear hre HRE
   cases wp with
   | false =>
    go_wp2
    go_ret
    rw [HRR.out]
    exact ⟨rfl, HDE.out, HKE.out⟩
   | true =>
    go_wp2_with fail
    refine (flush_any wr base B E HDE.out (by rw [HWE.out.len]; exact hm)).mono ?_
    rintro e w5 ⟨rfl, hd5, hk5⟩
    have HDD := hide hd5; have HKK := hide (HKE.out.trans hk5)
    clear hd5 hk5
    go_wp2
    go_ret
    rw [HRR.out]
    exact ⟨rfl, HDD.out, HKK.out⟩

end Go.Proofs.YtnhbfehfipafoaaGreatDoor

/- A list of texts is made. -/
namespace Go.Proofs.YtnhbfehfipafoaaGreatDoor
open Go.RowKit

theorem Tryz.infoStrP : (Tryz.prog.info? 9).map (fun i => (i.zero, i.size, i.bytes)) = some (some (.string ByteArray.empty), 1, 16) := by kernel_rfl

theorem run_mkSP (m : Nat) (hm : m ≤ 1000) (W : World) : (Instr.makeSlice 126 (.int .i64 (m : Int)) (.int .i64 (m : Int))).run Tryz.prog W = .ok (.slice (some ⟨W.heap.size, 0, none⟩) m m) (W.alloc (.cells (Lib.cellsOf [] m) 9)) := by
 obtain ⟨i0, hi, hz0, hz1, hz2⟩ := info_got Tryz.infoStrP
 have h := run_make (P := Tryz.prog) W 126 9 i0 (.string ByteArray.empty) (by kernel_rfl) hi hz0 .i64 .i64 m m (by omega) (by omega) (by rw [hz2]; omega) (by omega)
 rw [hz1, Int.toNat_natCast, Nat.mul_one] at h
 rw [Lib.cellsOf_nil]
 exact h

end Go.Proofs.YtnhbfehfipafoaaGreatDoor
