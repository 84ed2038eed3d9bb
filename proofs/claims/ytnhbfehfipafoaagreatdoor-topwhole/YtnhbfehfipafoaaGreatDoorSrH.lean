/- A head is written; a text is written. -/
import Derived.Test.YtnhbfehfipafoaaGreatDoorSrE

namespace Go.Proofs.YtnhbfehfipafoaaGreatDoor
open Go.RowKit

theorem head_type : ¬ diskT 91 := by unfold diskT; decide

theorem HdB.kept {W W' : World} {base : Own} {B : Nat} {u0 u1 u2 u3 : Value} (h : HdB W B u0 u1 u2 u3) (hk : Kept base W W') : HdB W' B u0 u1 u2 u3 :=
 (hk.block B (heap_lt h) (.inr fun cs t fz hx => by
  rw [show W.heap[B]? = _ from h] at hx
  simp only [Option.some.injEq, Obj.cells.injEq] at hx
  rw [← hx.2.1]
  exact head_type)).trans h

theorem putErr_in {D : Dsk} {i : Nat} {t : ByteArray} (hi : i < D.secs.length) (ht : t.size ≤ 64) : putErr D (i : Int) t = stepErr D := by
 unfold putErr
 rw [if_pos (by omega), if_pos ht]

set_option linter.unusedSimpArgs false in
set_option maxRecDepth 100000 in
set_option maxHeartbeats 1600000 in
theorem hwrite_any (w : World) (base : Own) (B : Nat) (D : Dsk) (m k : Nat) (h : Hd) (hd : DiskO w base B D) (hw : Well D m k) (hk : k ≤ 1000000) (hm : m ≤ 200) (h2 : 2 ≤ m) (ok : h.ok) (hbase : base.h ≤ w.heap.size) :
  Calls Tryz.prog 67 #[hdV h, .pointer (some ⟨B, 0, none⟩)] w fun e w' => e = .returned (andFlush (putD D (h.pl : Int) (secB (hdB h))) D.steps).1 ∧ DiskO w' base B (andFlush (putD D (h.pl : Int) (secB (hdB h))) D.steps).2 ∧ Kept base w w' := by
 have HPE := hide (putErr_in (D := D) (i := h.pl) (t := secB (hdB h)) (by rw [hw.len]; have := ok.pl; omega) (by rw [secB_size, hdB_len]; decide))
 have HPK := hide (fun w => hpacked_any w h ok)
 unfold hdV at HPK ⊢
 have hb1 := alloc_below w (.cells #[.int .i64 (h.pl : Int), .int .u32 h.age, .int .u32 h.first, .int .u32 h.long] 91)
 have X := hide (HdB.new w (.int .i64 (h.pl : Int)) (.int .u32 h.age) (.int .u32 h.first) (.int .u32 h.long))
 have HW := hide hw
 have HD := hide (hd.later hb1)
 have HB := hide hb1
 have HBS : Hid (base.h ≤ (w.alloc (.cells #[.int .i64 (h.pl : Int), .int .u32 h.age, .int .u32 h.first, .int .u32 h.long] 91)).heap.size) := Nat.le_trans hbase hb1.size
 obtain ⟨D1, hD1⟩ : ∃ D1, putD D (h.pl : Int) (secB (hdB h)) = D1 := ⟨_, rfl⟩
 rw [hD1]
 have hw1 : D1.secs.length = m := by rw [← hD1]; exact (hw.put _ _).len
 have HD1 := hide hD1; have HW1 := hide hw1
 clear hd hw hb1 hD1 hw1 h2 ok
 go_enter Tryz.func67, Tryz.ntmps67
 go_wp2_with fail
 obtain ⟨W1, hW1⟩ : ∃ W1, w.alloc (.cells #[.int .i64 (h.pl : Int), .int .u32 h.age, .int .u32 h.first, .int .u32 h.long] 91) = W1 := ⟨_, rfl⟩
 rw [hW1] at X HB HD HBS ⊢
 clear hW1
 obtain ⟨c0, c1, c2, c3, -⟩ := HdB.cells X.out
 refine wp_region_held_drew (S := (fun w' => w'.cell? ⟨w.heap.size, 0, none⟩ = some (.int .i64 (h.pl : Int)) ∧ w'.cell? ⟨w.heap.size, 1, none⟩ = some (.int .u32 h.age) ∧ w'.cell? ⟨w.heap.size, 2, none⟩ = some (.int .u32 h.first) ∧ w'.cell? ⟨w.heap.size, 3, none⟩ = some (.int .u32 h.long))) (by kernel_rfl) (by (try dsimp only); go_keep) (fun hHeld => ?_)
 refine held_run (v := ?_) 0 6 rfl rfl (by kernel_rfl) (by kernel_rfl) (by kernel_rfl) (fun _ _ _ h => h) (by rfl) ?_ (by assumption) ?_
 rotate_left
 ·(intro w hSw; (try dsimp only at hSw); go_simp; with_reducible rfl)
 simp only [Act.put, List.setIfInBounds_toArray, List.set_cons_zero, List.set_cons_succ]
 refine held_run (v := ?_) 1 7 rfl rfl (by kernel_rfl) (by kernel_rfl) (by kernel_rfl) (fun _ _ _ h => h) (by rfl) ?_ (by assumption) ?_
 rotate_left
 ·(intro w hSw; (try dsimp only at hSw); go_simp; with_reducible rfl)
 simp only [Act.put, List.setIfInBounds_toArray, List.set_cons_zero, List.set_cons_succ]
 refine held_run (v := ?_) 2 8 rfl rfl (by kernel_rfl) (by kernel_rfl) (by kernel_rfl) (fun _ _ _ h => h) (by rfl) ?_ (by assumption) ?_
 rotate_left
 ·(intro w hSw; (try dsimp only at hSw); go_simp; with_reducible rfl)
 simp only [Act.put, List.setIfInBounds_toArray, List.set_cons_zero, List.set_cons_succ]
 refine held_run (v := ?_) 3 9 rfl rfl (by kernel_rfl) (by kernel_rfl) (by kernel_rfl) (fun _ _ _ h => h) (by rfl) ?_ (by assumption) ?_
 rotate_left
 ·(intro w hSw; (try dsimp only at hSw); go_simp; with_reducible rfl)
 simp only [Act.put, List.setIfInBounds_toArray, List.set_cons_zero, List.set_cons_succ]
 refine wpAnyH_ready (rs := [4]) (by kernel_rfl) (by simp) (AllReadyH.cons (o := _) rfl (fun K hK => ?_) AllReadyH.nil)
 go_simp
 (refine (HPK.out _).mono ?_; rintro e w3 ⟨rfl, hb3'⟩; have hb3 : Below W1.heap.size W1 w3 := (Below.refl _ _).drew.trans (hb3'.mono (by simp)); clear hb3'; obtain ⟨d0, d1, d2, d3, -⟩ := HdB.cells (HdB.later X.out hb3))
 go_wp2_with fail
 refine hK.out _ _ (by (try dsimp only); go_keep) (fun hHeld => ?_)
 clear hK K
 try simp only [Act.put, List.setIfInBounds_toArray, List.set_cons_zero, List.set_cons_succ]
 refine wpAnyH_ready (rs := [5]) (by kernel_rfl) (by simp) (AllReadyH.cons (o := _) rfl (fun K hK => ?_) AllReadyH.nil)
 go_simp
 (refine (put_any _ base B D m k (h.pl : Int) (secB (hdB h)) (HD.out.later hb3) HW.out hk hm (by rw [secB_size, hdB_len]; decide) (Nat.le_trans HBS.out hb3.size)).mono ?_; rintro e w4 ⟨rfl, hd4, hk4⟩; obtain ⟨f0, f1, f2, f3, -⟩ := HdB.cells (HdB.kept (HdB.later X.out hb3) hk4); rw [HPE.out])
 go_wp2_with fail
 refine hK.out _ _ (by (try dsimp only); go_keep) (fun hHeld => ?_)
 clear hK K
 try simp only [Act.put, List.setIfInBounds_toArray, List.set_cons_zero, List.set_cons_succ]
 refine held_run (v := ?_) 6 5 rfl rfl (by kernel_rfl) (by kernel_rfl) (by kernel_rfl) (fun _ _ _ h => h) (by rfl) ?_ (by assumption) ?_
 rotate_left
 ·(intro w hSw; (try dsimp only at hSw); go_simp; with_reducible rfl)
 simp only [Act.put, List.setIfInBounds_toArray, List.set_cons_zero, List.set_cons_succ]
 refine wpAnyH_done (by kernel_rfl) ?_ _
 rw [HD1.out] at hd4
 have HDD := hide hd4; have HKK := hide (((Kept.of_below HB.out).trans (Kept.of_below hb3)).trans hk4)
 clear hd4 hk4 hb3
 cases hs : D.steps with
 | false =>
  rw [stepErr_no hs]
  have HSS := hide hs
  clear hs
  go_wp2
  go_ret
  rw [HSS.out]
  exact ⟨rfl, HDD.out, HKK.out⟩
 | true =>
  rw [stepErr_ok hs]
  have HSS := hide hs
  clear hs
  go_wp2_with fail
  refine (flush_any w4 base B D1 HDD.out (by rw [HW1.out]; exact hm)).mono ?_
  rintro e w5 ⟨rfl, hd5, hk5⟩
  go_wp2
  go_ret
  rw [HSS.out]
  exact ⟨rfl, hd5, HKK.out.trans hk5⟩

theorem rawT_nil (k i : Nat) (D : Dsk) : rawT k i [] D = (D, true) := by
 cases k with
 | zero => rfl
 | succ k => unfold rawT; rw [if_pos rfl]

theorem take_min (u : List UInt8) (k : Nat) : u.take (min u.length k) = u.take k := by
 by_cases h : u.length ≤ k
 ·rw [Nat.min_eq_left h, List.take_length, List.take_of_length_le h]
 ·rw [Nat.min_eq_right (by omega)]

theorem secB_ne {u : List UInt8} (h : u ≠ []) : ((secB u).toList != (⟨#[]⟩ : ByteArray).toList) = true ∧ ((secB u).toList == (⟨#[]⟩ : ByteArray).toList) = false := by
 have h2 : ((secB u).toList == (⟨#[]⟩ : ByteArray).toList) = false := by
  rw [beq_eq_false_iff_ne, Lib.toList_data, Lib.toList_data]
  exact fun e => h e
 exact ⟨by rw [bne, h2]; rfl, h2⟩

set_option linter.unusedSimpArgs false in
set_option maxRecDepth 100000 in
set_option maxHeartbeats 1600000 in
theorem writeText_any (w : World) (base : Own) (B : Nat) (D : Dsk) (m q : Nat) (h : Hd) (t : List UInt8) (hd : DiskO w base B D) (hw : Well D m q) (hq : q ≤ 1000) (hm : m ≤ 200) (h82 : 82 ≤ m) (hp : h.pl ≤ 1) (ht : t.length ≤ 2560) (hbase : base.h ≤ w.heap.size) :
  Calls Tryz.prog 66 #[hdV h, .pointer (some ⟨B, 0, none⟩), .string (secB t)] w fun e w' => e = .returned (andFlush (rawT 40 (2 + h.pl * 40) t D).1 (rawT 40 (2 + h.pl * 40) t D).2).1 ∧ DiskO w' base B (andFlush (rawT 40 (2 + h.pl * 40) t D).1 (rawT 40 (2 + h.pl * 40) t D).2).2 ∧ Kept base w w' := by
 have HFR := hide (fun w => hfrom_any w h hp)
 obtain ⟨fr, hfr⟩ : ∃ fr, 2 + h.pl * 40 = fr := ⟨_, rfl⟩
 rw [hfr] at HFR ⊢
 have hfr2 : fr + 40 ≤ m := by omega
 obtain ⟨R, hR⟩ : ∃ R, rawT 40 fr t D = R := ⟨_, rfl⟩
 rw [hR]
 have HRW : Hid (R.1.secs.length = m) := by
  show _ = _
  rw [← hR]
  exact (rawT_facts 40 fr t D m q hw hfr2 (by omega)).1.len
 unfold hdV at HFR ⊢
 have hb1 := alloc_below w (.cells #[.int .i64 (h.pl : Int), .int .u32 h.age, .int .u32 h.first, .int .u32 h.long] 91)
 have X := hide (HdB.new w (.int .i64 (h.pl : Int)) (.int .u32 h.age) (.int .u32 h.first) (.int .u32 h.long))
 have HR := hide hR; have HW := hide hw; have HD := hide (hd.later hb1); have HB := hide hb1; have HFR2 := hide hfr2
 have HBS : Hid (base.h ≤ (w.alloc (.cells #[.int .i64 (h.pl : Int), .int .u32 h.age, .int .u32 h.first, .int .u32 h.long] 91)).heap.size) := Nat.le_trans hbase hb1.size
 have HFR200 : fr ≤ 160 := by omega
 have HBA := hide hbase
 clear hd hw hb1 hR hfr hfr2 hbase
 go_enter Tryz.func66, Tryz.ntmps66
 go_wp2_with fail
 obtain ⟨W1, hW1⟩ : ∃ W1, w.alloc (.cells #[.int .i64 (h.pl : Int), .int .u32 h.age, .int .u32 h.first, .int .u32 h.long] 91) = W1 := ⟨_, rfl⟩
 rw [hW1] at X HB HD HBS ⊢
 clear hW1
 obtain ⟨c0, c1, c2, c3, -⟩ := HdB.cells X.out
 go_wp2_with fail
 refine (HFR.out _).mono ?_
 rintro e w2 ⟨rfl, hb2⟩
 have HD2 := hide (HD.out.later hb2); have HK2 := hide ((Kept.of_below (base := base) HB.out).trans (Kept.of_below hb2))
 clear hb2 c0 c1 c2 c3
 go_wp2_with fail
 go_loopw [2, 7] (fun sv av wr => ∃ (j : Nat) (u : List UInt8) (E : Dsk), j ≤ 40 ∧ sv = .string (secB u) ∧ av = .int .i64 ((fr + j : Nat) : Int) ∧ Hid (u.length ≤ 64 * (40 - j)) ∧ Hid (DiskO wr base B E) ∧ Hid (Well E m (q + j)) ∧ Hid (rawT (40 - j) (fr + j) u E = R) ∧ Hid (Kept base w wr)) (fun _ av _ => fr + 41 - (intOf av).toNat)
 case atStart => exact ⟨0, t, D, Nat.zero_le _, rfl, rfl, (by show _ ≤ _; omega), HD2, HW, HR, HK2⟩
 case round =>
  clear HD2 HK2 HD HW HR
  obtain ⟨j, u, E, hj, rfl, rfl, HU, HDE, HWE, HRE, HKE⟩ := hrel
  have HKW : Hid (w.heap.size ≤ wr.heap.size) := HKE.out.size
  by_cases hu0 : u = []
  ·subst hu0
   have hre := HRE.out
   rw [rawT_nil] at hre
   obtain rfl : R = (E, true) := hre.symm
   have HSZ := hide HWE.out.len
   clear hre HRE
   rw [show secB [] = (⟨#[]⟩ : ByteArray) from rfl]
   go_wp2_with fail
   refine (flush_any wr base B E HDE.out (by rw [HSZ.out]; exact hm)).mono ?_
   rintro e w5 ⟨rfl, hd5, hk5⟩
   go_wp2
   go_ret
   exact ⟨rfl, hd5, HKE.out.trans hk5⟩
  ·have hul : 0 < u.length := List.length_pos_iff.2 hu0
   have hj40 : j < 40 := by have h1 := HU.out; omega
   obtain ⟨k, hk⟩ : ∃ k, 40 - j = k + 1 := ⟨39 - j, by omega⟩
   have hre := HRE.out
   rw [hk] at hre
   unfold rawT at hre
   rw [if_neg hu0] at hre
   obtain ⟨n, hn⟩ : ∃ n, u.length = n := ⟨_, rfl⟩
   obtain ⟨c, hc⟩ : ∃ c, min n 64 = c := ⟨_, rfl⟩
   have hu2560 : n ≤ 2560 := by have h1 := HU.out; omega
   have e1 : (secB u).extract 0 c = secB (u.take 64) := by
    rw [extract_sec, List.drop_zero, ← hc, ← hn, take_min]
   have e2 : (secB u).extract c n = secB (u.drop 64) := by
    rw [extract_sec, List.take_of_length_le (by omega)]
    congr 1
    by_cases h : n ≤ 64
    ·rw [List.drop_eq_nil_of_le (by omega), List.drop_eq_nil_of_le (by omega)]
    ·rw [show c = 64 by omega]
   obtain ⟨h3, h4⟩ := secB_ne hu0
   have h7 : (secB u).toList.isEmpty = false := by
    rw [Lib.toList_data]
    show u.isEmpty = false
    cases u with
    | nil => exact absurd rfl hu0
    | cons _ _ => rfl
   have h5 : (secB u).size = n := by rw [secB_size]; exact hn
   have hmin : min (n : Int) 64 = (c : Int) := by omega
   obtain ⟨S, hS⟩ : ∃ S, secB u = S := ⟨_, rfl⟩
   rw [hS] at e1 e2 h3 h4 h5 h7 ⊢
   obtain ⟨S1, hS1⟩ : ∃ S1, secB (u.take 64) = S1 := ⟨_, rfl⟩
   rw [hS1] at e1 hre
   have h6 : S1.size ≤ 64 := by rw [← hS1, secB_size, List.length_take]; omega
   have hcn : c ≤ n := by omega
   have HPE := hide (putErr_in (D := E) (i := fr + j) (t := S1) (by rw [HWE.out.len]; have := HFR2.out; omega) h6)
   have HDL : Hid ((u.drop 64).length ≤ 64 * (40 - (j + 1))) := by show _ ≤ _; rw [List.length_drop]; have h1 := HU.out; omega
   have HRE2 := hide hre
   clear hre HRE hS hS1 hul hu0
   go_wp2_with fail
   rw [show (fr : Int) + (j : Int) = ((fr + j : Nat) : Int) from by omega]
   refine (put_any wr base B E m (q + j) ((fr + j : Nat) : Int) S1 HDE.out HWE.out (by omega) hm (by omega) (Nat.le_trans HBA.out HKW.out)).mono ?_
   rintro e w4 ⟨rfl, hd4, hk4⟩
   rw [HPE.out]
   cases hs : E.steps with
   | false =>
    rw [stepErr_no hs]
    have hr := HRE2.out
    rw [hs, if_neg (by decide)] at hr
    obtain rfl := hr.symm
    have HD4 := hide hd4; have HK4 := hide (HKE.out.trans hk4)
    clear hs hr HRE2 hd4 hk4
    go_wp2
    go_ret
    exact ⟨rfl, HD4.out, HK4.out⟩
   | true =>
    rw [stepErr_ok hs]
    have hr := HRE2.out
    rw [hs, if_pos rfl] at hr
    have HRX := hide hr
    have HD4 := hide hd4; have HK4 := hide (HKE.out.trans hk4); have HW4 := hide (HWE.out.put ((fr + j : Nat) : Int) S1)
    have HKS : Hid (wr.heap.size ≤ w4.heap.size) := hk4.size
    clear hs hr HRE2 hd4 hk4 HKE HWE HDE HPE
    go_wp2_with fail
    go_roundw
    case rel => exact ⟨j + 1, u.drop 64, _, by omega, rfl, by go_num, HDL, HD4, HW4, (by rw [show 40 - (j + 1) = k by omega, show fr + (j + 1) = fr + j + 1 by omega]; exact HRX), HK4⟩
    case measure => simp [intOf]; omega

end Go.Proofs.YtnhbfehfipafoaaGreatDoor

/- A number that is free. -/
namespace Go.Proofs.YtnhbfehfipafoaaGreatDoor
open Go.RowKit

theorem Tryz.infoU32 : (Tryz.prog.info? 89).map (fun i => (i.zero, i.size, i.bytes)) = some (some (.int .u32 0), 1, 4) := by kernel_rfl

def uCells (l : List Int) : List Value := l.map (fun z => Value.int .u32 z)

def U32s (W : World) (base : Nat) (v : Value) (l : List Int) : Prop := W.ownsRow base 89 1 v l.length (uCells l)

theorem U32s.one (W : World) (z : Int) : U32s (W.alloc (.cells #[.int .u32 z] 89)) W.heap.size (.slice (some ⟨W.heap.size, 0, none⟩) 1 1) [z] :=
 ⟨rfl, .inr ⟨W.heap.size, 1, _, rfl, Nat.le_refl _, heap_alloc_new W _, Nat.le_refl _, by unfold maxLen; omega, rfl, rfl⟩⟩

theorem U32s.later {W W' : World} {base : Nat} {v : Value} {l : List Int} (h : U32s W base v l) (hb : Below W.heap.size W W') : U32s W' base v l := ownsRow_later h hb

theorem u32_snoc (W : World) (base : Nat) (hbase : base ≤ W.heap.size) (v : Value) (l : List Int) (hown : U32s W base v l) (z : Int) (hn : l.length ≤ 1000) :
  ∃ o c W', (Builtin.append_ #[156, 156] 156 #[v, .slice (some ⟨W.heap.size, 0, none⟩) 1 1]).run Tryz.prog (W.alloc (.cells #[.int .u32 z] 89)) = .ok (.slice o (l.length + 1) c) W' ∧ U32s W' base (.slice o (l.length + 1) c) (l ++ [z]) ∧ Below base W W' := by
 obtain ⟨j0, hj, hy0, hy1, hy2⟩ := info_got Tryz.infoU32
 obtain ⟨o, c, W', hr, ho, hb⟩ := own_snoc W base hbase _ _ _ j0 _ 1 4 (by kernel_rfl) hj hy0 hy1 hy2 rfl (by decide) v l.length _ hown #[.int .u32 z] _ rfl (fun y hy => by
  simp only [List.mem_cons, List.not_mem_nil, or_false] at hy
  subst hy; rfl) (by unfold maxLen; omega) (by omega)
 refine ⟨o, c, W', hr, ?_, hb⟩
 unfold U32s uCells
 rw [List.length_append, List.map_append]
 exact ho

theorem U32s.at {W : World} {base : Nat} {v : Value} {l : List Int} (h : U32s W base v l) {k : Nat} (hk : k < l.length) : ∃ b c, v = .slice (some ⟨b, 0, none⟩) l.length c ∧ W.cell? ⟨b, k, none⟩ = some (.int .u32 l[k]) := by
 obtain ⟨g, cap, e, -, hc⟩ := own_at h (by omega)
 refine ⟨g, cap, e, hc k _ ?_⟩
 unfold uCells
 rw [List.getElem?_map, List.getElem?_eq_getElem hk]
 rfl

def idxU (l : List Int) (x : Int) : Int := if x ∈ l then (l.idxOf x : Int) else -1

set_option linter.unusedSimpArgs false in
set_option maxRecDepth 100000 in
set_option maxHeartbeats 1600000 in
theorem indexU_any (w : World) (base : Nat) (v : Value) (l : List Int) (x : Int) (h : U32s w base v l) (hn : l.length ≤ 1000) :
  Calls Tryz.prog 113 #[v, .int .u32 x] w fun e w' => e = .returned (.int .i64 (idxU l x)) ∧ w' = w := by
 obtain ⟨o, c, rfl, -⟩ := owns_form h
 have H := hide h
 clear h
 go_enter Tryz.func113, Tryz.ntmps113
 go_wp2
 go_loopw [8] (fun ix wr => ∃ (k : Nat), k ≤ l.length ∧ ix = .int .i64 k ∧ wr = w ∧ Hid (x ∉ l.take k)) (fun ix _ => l.length - (intOf ix).toNat)
 case atStart => exact ⟨0, Nat.zero_le _, rfl, rfl, (by show x ∉ _; rw [List.take_zero]; exact List.not_mem_nil)⟩
 case round =>
  obtain ⟨k, hk, rfl, rfl, HN⟩ := hrel
  by_cases hkl : k < l.length
  ·obtain ⟨b, c2, e, hc⟩ := H.out.at hkl
   simp only [Value.slice.injEq, true_and] at e
   obtain ⟨rfl, rfl⟩ := e
   by_cases hx : x = l[k]
   ·have hmem : x ∈ l := by rw [hx]; exact List.getElem_mem hkl
    have hidx : l.idxOf x = k := by
     have h1 := HN.out
     have h2 : l = l.take k ++ l.drop k := (List.take_append_drop k l).symm
     have h3 : l.drop k = l[k] :: l.drop (k + 1) := List.drop_eq_getElem_cons hkl
     rw [h2, List.idxOf_append, if_neg h1, h3, ← hx, List.idxOf_cons_self, List.length_take]
     omega
    have HFI : Hid ((k : Int) = idxU l x) := by show _ = _; unfold idxU; rw [if_pos hmem, hidx]
    rw [← hx] at hc
    have g : (x == x) = true := beq_self_eq_true x
    clear hidx hx HN hmem
    go_wp2
    go_ret
    exact ⟨congrArg (fun z => Ending.returned (.int .i64 z)) HFI.out, rfl⟩
   ·have g : (x == l[k]) = false := beq_eq_false_iff_ne.2 hx
    have HN2 : Hid (x ∉ l.take (k + 1)) := by
     show _ ∉ _
     rw [List.take_succ_eq_append_getElem hkl, List.mem_append, List.mem_singleton]
     exact fun h => h.elim HN.out hx
    generalize l[k] = y at *
    clear hx HN
    go_wp2
    go_roundw
    case rel => exact ⟨k + 1, by omega, by go_num, by first | rfl | trivial, HN2⟩
    case measure => simp [intOf]; omega
  ·obtain rfl : k = l.length := by omega
   have hno := HN.out
   rw [List.take_length] at hno
   have HFI : Hid (-1 = idxU l x) := by show _ = _; unfold idxU; rw [if_neg hno]
   clear hno HN
   go_wp2
   go_ret
   exact ⟨congrArg (fun z => Ending.returned (.int .i64 z)) HFI.out, rfl⟩

set_option linter.unusedSimpArgs false in
set_option maxRecDepth 100000 in
set_option maxHeartbeats 1600000 in
theorem containsU_any (w : World) (base : Nat) (v : Value) (l : List Int) (x : Int) (h : U32s w base v l) (hn : l.length ≤ 1000) :
  Calls Tryz.prog 91 #[v, .int .u32 x] w fun e w' => e = .returned (.bool (decide (x ∈ l))) ∧ w' = w := by
 have H := hide (indexU_any w base v l x h hn)
 obtain ⟨o, c, rfl, -⟩ := owns_form h
 clear h
 go_enter Tryz.func91, Tryz.ntmps91
 go_wp2_with fail
 refine H.out.mono ?_
 rintro e w1 ⟨rfl, rfl⟩
 by_cases hx : x ∈ l
 ·have HFI : Hid (decide (x ∈ l) = true) := decide_eq_true hx
  have hix : idxU l x = (l.idxOf x : Int) := by unfold idxU; rw [if_pos hx]
  rw [hix]
  have g : decide ((0 : Int) ≤ (l.idxOf x : Int)) = true := decide_eq_true (by omega)
  clear H hx
  go_wp2
  go_ret
  exact ⟨by rw [HFI.out]; rfl, rfl⟩
 ·have HFI : Hid (decide (x ∈ l) = false) := decide_eq_false hx
  have hix : idxU l x = -1 := by unfold idxU; rw [if_neg hx]
  rw [hix]
  clear H hx
  go_wp2
  go_ret
  exact ⟨by rw [HFI.out]; rfl, rfl⟩

def tkN (c : Nat → List UInt8) (i : Nat) : Int := (numL (c (82 + i)) - (i : Int)) % 4294967296

def tkL (c : Nat → List UInt8) (k : Nat) : List Int := 0 :: (List.range k).map (tkN c)

theorem tkL_succ (c : Nat → List UInt8) (k : Nat) : tkL c (k + 1) = tkL c k ++ [tkN c k] := by
 unfold tkL
 rw [List.range_succ, List.map_append]
 rfl

theorem tkL_len (c : Nat → List UInt8) (k : Nat) : (tkL c k).length = k + 1 := by
 unfold tkL
 rw [List.length_cons, List.length_map, List.length_range]

theorem numL_range (l : List UInt8) : 0 ≤ numL l ∧ numL l < 4294967296 := by
 have h1 := bt_le l 1
 have h2 := bt_le l 2
 have h3 := bt_le l 3
 have h4 := bt_le l 4
 unfold numL
 omega

theorem few_of_nodup : ∀ (l : List Int), l.Nodup → ∀ r : List Int, l ⊆ r → l.length ≤ r.length
 | [], _, _, _ => Nat.zero_le _
 | a :: t, hn, r, hs => by
  have ha : a ∈ r := hs (List.mem_cons_self ..)
  have hnt := List.nodup_cons.1 hn
  have h1 := few_of_nodup t hnt.2 (r.erase a) (fun x hx => by
   have hne : x ≠ a := fun e => hnt.1 (e ▸ hx)
   exact (List.mem_erase_of_ne hne).2 (hs (List.mem_cons_of_mem _ hx)))
  rw [List.length_erase_of_mem ha] at h1
  have h2 : 0 < r.length := List.length_pos_of_mem ha
  rw [List.length_cons]
  omega

theorem taken_few (l : List Int) (x : Int) (n : Nat) (hn : n < 4294967296) (h : ∀ j : Nat, j < n → (x + j) % 4294967296 ∈ l) : n ≤ l.length := by
 have hnd : ((List.range n).map (fun j : Nat => (x + j) % 4294967296)).Nodup := by
  rw [List.nodup_iff_pairwise_ne, List.pairwise_map]
  refine List.Pairwise.imp_of_mem ?_ (List.nodup_range (n := n))
  intro a b ha hb hab e
  rw [List.mem_range] at ha hb
  omega
 have hsub : ((List.range n).map (fun j : Nat => (x + j) % 4294967296)) ⊆ l := fun z hz => by
  obtain ⟨j, hj, rfl⟩ := List.mem_map.1 hz
  exact h j (List.mem_range.1 hj)
 have := few_of_nodup _ hnd l hsub
 rwa [List.length_map, List.length_range] at this

def FrP (c : List UInt8) (w : World) (e : Ending) (w' : World) : Prop := ∃ F : Int, e = .returned (.tuple #[.int .i64 F, .nilIface]) ∧ (0 < F ∧ F < 4294967296) ∧ numL c ≠ F ∧ Below w.heap.size w w'

set_option linter.unusedSimpArgs false in
set_option maxRecDepth 100000 in
set_option maxHeartbeats 1600000 in
theorem fresh_any (w : World) (base : Own) (B : Nat) (D : Dsk) (m mn : Nat) (num : Int) (hd : DiskO w base B D) (hdn : D.down = false) (hl : D.secs.length = m) (hm : m ≤ 200) (h82 : 83 ≤ m) (hmn : mn = m - 82) (hnum : 1 ≤ num ∧ num ≤ 8589934592) :
  Calls Tryz.prog 64 #[.pointer (some ⟨B, 0, none⟩), .int .i64 82, .int .i64 (mn : Int), .int .i64 num] w fun e w' => FrP (cont D 82) w e w' := by
 have HMB := hide (mayBe_any w base B D m 82 mn num hd hl hm (by omega))
 have hmb : mayB m 82 mn num = true := by
  unfold mayB
  rw [decide_eq_true (by omega), decide_eq_true (by omega), decide_eq_true (by omega), decide_eq_true (by omega)]
  rfl
 rw [hmb] at HMB
 have HD := hide hd; have HDN := hide hdn; have HL := hide hl; have HMN := hide hmn
 have HM83 := hide h82; have HNUM := hide hnum
 have hmn2 : mn ≤ 118 := by omega
 clear hmb hd hdn hl hmn h82
 go_enter Tryz.func64, Tryz.ntmps64
 go_wp2_with fail
 refine HMB.out.mono ?_
 rintro e w1 ⟨rfl, hb1⟩
 have hbA := alloc_below w1 (.cells #[.int .u32 0] 89)
 have HU0 := hide (U32s.one w1 0)
 have HB0 := hide (hb1.trans (hbA.mono hb1.size))
 have HS1 : Hid (w.heap.size ≤ w1.heap.size) := hb1.size
 clear hb1 hbA HMB
 go_wp2_with fail
 generalize hW2 : w1.alloc (.cells #[.int .u32 0] 89) = W2 at *
 go_loopw [10, 24] (fun tv ix wr => ∃ (k : Nat) (o : Option Addr) (cp : Nat), k ≤ mn ∧ ix = .int .i64 k ∧ tv = .slice o (k + 1) cp ∧ Hid (U32s wr w1.heap.size tv (tkL (cont D) k)) ∧ Hid (Below w.heap.size w wr) ∧ Hid (w1.heap.size ≤ wr.heap.size)) (fun _ ix _ => mn - (intOf ix).toNat)
 case atStart => exact ⟨0, _, _, Nat.zero_le _, rfl, rfl, HU0, HB0, (by show _ ≤ _; rw [← hW2]; simp)⟩
 case round =>
  clear HU0 HB0
  obtain ⟨k, o, cp, hk, rfl, rfl, HU, HB, HS⟩ := hrel
  by_cases hkl : k < mn
  ·have hck : (cont D (82 + k)).length = 64 := cont_len HD.out (by rw [HL.out]; have := HMN.out; omega)
   have HRD := hide (readC_any wr base B D (82 + k) (HD.out.later HB.out) HDN.out (by rw [HL.out]; have := HMN.out; omega) (by rw [HL.out]; exact hm))
   obtain ⟨z, hz⟩ : ∃ z, tkN (cont D) k = z := ⟨_, rfl⟩
   have hzr := numL_range (cont D (82 + k))
   have wz : IntKind.u32.wrap (numL (cont D (82 + k)) - (k : Int)) = z := by rw [← hz]; rfl
   have wk : IntKind.u32.wrap (k : Int) = (k : Int) := by show (k : Int) % 2 ^ 32 = _; omega
   have HSU := hide (tkL_succ (cont D) k)
   rw [hz] at HSU
   have HNU := hide (fun w => numberOf_any w (cont D (82 + k)) hck)
   obtain ⟨N, hN⟩ : ∃ N, numL (cont D (82 + k)) = N := ⟨_, rfl⟩
   rw [hN] at wz HNU
   obtain ⟨S, hS⟩ : ∃ S, secB (cont D (82 + k)) = S := ⟨_, rfl⟩
   rw [hS] at HRD HNU
   have HK8 : Hid ((82 : Int) + (k : Int) = ((82 + k : Nat) : Int)) := by show _ = _; omega
   clear hz hzr hck hN hS
   go_wp2_with fail
   rw [HK8.out]
   refine HRD.out.mono ?_
   rintro e w3 ⟨rfl, hb3⟩
   have HBa := hide (HB.out.trans (hb3.mono HB.out.size)); have HUa := hide (HU.out.later hb3); have HSa : Hid (w1.heap.size ≤ w3.heap.size) := Nat.le_trans HS.out hb3.size
   clear hb3 HB HU HS HRD
   go_wp2_with fail
   refine (HNU.out _).mono ?_
   rintro e w4 ⟨rfl, rfl⟩
   obtain ⟨o2, c2, W5, hr, ho, hb5⟩ := u32_snoc w4 w1.heap.size HSa.out _ _ HUa.out z (by rw [tkL_len]; omega)
   rw [tkL_len] at hr ho
   rw [← HSU.out] at ho
   have HRR := hide hr; have HUb := hide ho; have HBb := hide (HBa.out.trans ⟨hb5.os, hb5.tape, hb5.output, hb5.size, fun b hb => hb5.block b (Nat.lt_of_lt_of_le hb HS1.out)⟩)
   have HSb : Hid (w1.heap.size ≤ W5.heap.size) := Nat.le_trans HSa.out hb5.size
   clear hr ho hb5 HBa HUa HSa HNU HSU
   go_wp2_with (at_builtin; refine Lib.wpList_append_run _ rfl _ _ _ _ rfl _ _ rfl rfl _ _ HRR.out ?_)
   go_wp2
   go_roundw
   case rel => exact ⟨k + 1, _, _, by omega, by go_num, rfl, HUb, HBb, HSb⟩
   case measure => simp [intOf]; omega
  ·obtain rfl : k = mn := by omega
   have hx0 : IntKind.u32.wrap num = num % 4294967296 := rfl
   go_wp2_with fail
   go_loopw [14] (fun xv wo => ∃ (j : Nat), xv = .int .u32 ((num + (j : Nat)) % 4294967296) ∧ wo = wr ∧ Hid (∀ i : Nat, i < j → (num + (i : Nat)) % 4294967296 ∈ tkL (cont D) k) ∧ j ≤ k + 1 ∧ Hid (k + 1 ≤ 200)) (fun xv _ => k + 2 - ((intOf xv - num) % 4294967296).toNat)
   case atStart => exact ⟨0, by simp, rfl, fun i hi => absurd hi (by omega), by omega, (by show _ ≤ _; omega)⟩
   case round =>
    obtain ⟨j, rfl, rfl, HI, hj, HK2⟩ := hrel
    have hk200 := HK2.out
    have HC := hide (containsU_any _ w1.heap.size _ (tkL (cont D) k) ((num + (j : Nat)) % 4294967296) HU.out (by rw [tkL_len]; omega))
    obtain ⟨x, hx⟩ : ∃ x, (num + (j : Nat)) % 4294967296 = x := ⟨_, rfl⟩
    have hx2 : 0 ≤ x ∧ x < 4294967296 := by omega
    rw [hx] at HC ⊢
    by_cases hin : x ∈ tkL (cont D) k
    ·rw [decide_eq_true hin] at HC
     have HI2 : ∀ i : Nat, i < j + 1 → (num + (i : Nat)) % 4294967296 ∈ tkL (cont D) k := fun i hi => by
      by_cases e : i = j
      ·rw [e, hx]; exact hin
      ·exact HI.out i (by omega)
     have hjk := taken_few _ num (j + 1) (by omega) HI2
     rw [tkL_len] at hjk
     have HI3 := hide HI2
     have wx : IntKind.u32.wrap (x + 1) = (num + ((j + 1 : Nat) : Int)) % 4294967296 := by
      show (x + 1) % 2 ^ 32 = _
      omega
     have HXE := hide hx
     have hms : ((x - num) % 4294967296).toNat = j ∧ (((num + ((j : Int) + 1)) % 4294967296 - num) % 4294967296).toNat = j + 1 := by omega
     have HMS := hide hms
     clear hms HI HI2 hin hx
     go_wp2_with fail
     refine HC.out.mono ?_
     rintro e w3 ⟨rfl, rfl⟩
     go_wp2
     go_roundw
     case rel => exact ⟨j + 1, by rw [Int.natCast_add]; rfl, by first | rfl | trivial, HI3, by omega, HK2⟩
     case measure =>
      simp only [intOf]
      rw [HMS.out.1, HMS.out.2]
      omega
    ·rw [decide_eq_false hin] at HC
     have wx : IntKind.i64.wrap x = x := wrap_small (by omega) (by omega)
     have hmem0 : (0 : Int) ∈ tkL (cont D) k := by unfold tkL; exact List.mem_cons_self ..
     have hne0 : x ≠ 0 := fun e => hin (by rw [e]; exact hmem0)
     have hk1 : 0 < k := by have := HMN.out; have := HM83.out; omega
     have hnl := numL_range (cont D 82)
     have hmem1 : numL (cont D 82) ∈ tkL (cont D) k := by
      unfold tkL
      refine List.mem_cons_of_mem _ (List.mem_map.2 ⟨0, List.mem_range.2 hk1, ?_⟩)
      unfold tkN
      rw [Nat.add_zero]
      show (numL (cont D 82) - ((0 : Nat) : Int)) % 4294967296 = _
      omega
     have hne1 : numL (cont D 82) ≠ x := fun e => hin (by rw [← e]; exact hmem1)
     have hfin := hide (And.intro (show 0 < x ∧ x < 4294967296 by omega) hne1)
     clear hin hmem0 hmem1 hne0 hne1 hnl HI
     go_wp2_with fail
     refine HC.out.mono ?_
     rintro e w3 ⟨rfl, rfl⟩
     go_wp2
     go_ret2
     exact ⟨x, rfl, hfin.out.1, hfin.out.2, HB.out⟩

end Go.Proofs.YtnhbfehfipafoaaGreatDoor
