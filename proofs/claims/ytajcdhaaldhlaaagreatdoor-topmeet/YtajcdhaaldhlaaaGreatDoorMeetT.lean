/- A vector's text. -/
import Derived.Test.YtajcdhaaldhlaaaGreatDoorVecW
import Derived.Test.YtajcdhaaldhlaaaGreatDoorJoins
import Derived.Test.YtajcdhaaldhlaaaGreatDoorLatL
import Derived.Test.YtajcdhaaldhlaaaGreatDoorBoxB
import Derived.Test.YtajcdhaaldhlaaaGreatDoorLatS
import Derived.Test.YtajcdhaaldhlaaaGreatDoorText
import Derived.Test.YtajcdhaaldhlaaaGreatDoorMeetW

namespace Go.Proofs.YtajcdhaaldhlaaaGreatDoor
open Go.RowKit Limbs

theorem Tryz.infoStr : (Tryz.prog.info? 9).map (fun i => (i.zero, i.size, i.bytes)) = some (some (.string ByteArray.empty), 1, 16) := by kernel_rfl

theorem run_mkS (m : Nat) (hm : m ≤ 1000) (W : World) : (Instr.makeSlice 107 (.int .i64 (m : Int)) (.int .i64 (m : Int))).run Tryz.prog W = .ok (.slice (some ⟨W.heap.size, 0, none⟩) m m) (W.alloc (.cells (Lib.cellsOf [] m) 9)) := by
 obtain ⟨i0, hi, hz0, hz1, hz2⟩ := info_parts Tryz.infoStr
 have h := run_make (P := Tryz.prog) W 107 9 i0 (.string ByteArray.empty) (by kernel_rfl) hi hz0 .i64 .i64 m m (by omega) (by omega) (by rw [hz2]; omega) (by omega)
 rw [hz1, Int.toNat_natCast, Nat.mul_one] at h
 rw [Lib.cellsOf_nil]
 exact h

def vtxt (zs : List Int) : List UInt8 := 40 :: (Lib.join (zs.map txt) [32] ++ [41])

def btxt (z : Int) : ByteArray := ⟨(txt z).toArray⟩

theorem btxt_data (zs : List Int) : (zs.map btxt).map (·.data.toList) = zs.map txt := by
 rw [List.map_map]
 apply List.map_congr_left
 intro z _
 simp [btxt]

def TxInv (w wr : World) (P : Nat) (zs : List Int) (k : Nat) : Prop :=
 wr.heap[P]? = some (.cells (Lib.cellsOf ((zs.take k).map btxt) zs.length) 9) ∧ Below w.heap.size w wr

theorem TxInv.store {w wr : World} {P : Nat} {zs : List Int} {k : Nat} (h : TxInv w wr P zs k) (hP : w.heap.size ≤ P) (hk : k < zs.length) : TxInv w (wr.setCell ⟨P, k, none⟩ (.string (btxt (zs.getD k 0)))) P zs (k + 1) := by
 obtain ⟨h1, h2⟩ := h
 have hl : ((zs.take k).map btxt).length = k := by rw [List.length_map, List.length_take]; omega
 have hs := heap_setCell_same wr P k _ _ (.string (btxt (zs.getD k 0))) h1
 refine ⟨?_, h2.setCell (by exact hP) _⟩
 have e : (Lib.cellsOf ((zs.take k).map btxt) zs.length).setIfInBounds k (.string (btxt (zs.getD k 0))) = Lib.cellsOf ((zs.take (k + 1)).map btxt) zs.length := by
  have := Lib.cellsOf_set (done := (zs.take k).map btxt) (N := zs.length) (by omega) (btxt (zs.getD k 0))
  rw [hl] at this
  rw [this, List.take_succ_eq_append_getElem hk, List.map_append]
  simp [List.getD_eq_getElem?_getD, hk]
 rw [← e]
 exact hs

theorem TxInv.full {w wr : World} {P : Nat} {zs : List Int} (h : TxInv w wr P zs zs.length) : ∀ (j : Nat) x, (zs.map btxt)[j]? = some x → wr.cell? ⟨P, 0 + j, none⟩ = some (.string x) := fun j x hx => by
 have h1 := h.1
 rw [List.take_length] at h1
 have := World.news_of_block h1 j (.string x) (by
  unfold Lib.cellsOf
  rw [List.toList_toArray, List.getElem?_append_left (by rw [List.length_map]; exact (List.getElem?_eq_some_iff.1 hx).1), List.getElem?_map, hx]
  rfl)
 have e : (⟨P, 0, none⟩ : Addr).add j = ⟨P, 0 + j, none⟩ := by unfold Addr.add; split <;> simp_all
 rwa [e] at this

theorem joined (l : List UInt8) : (⟨#[40]⟩ : ByteArray) ++ ⟨l.toArray⟩ ++ ⟨#[41]⟩ = ⟨(40 :: (l ++ [41])).toArray⟩ := by
 apply ByteArray.ext
 simp

set_option maxRecDepth 100000 in
set_option maxHeartbeats 1600000 in
theorem vtext_any (w : World) (v : Value) (zs : List Int) (n : Nat) (ht : Tab w) (hv : VecN w v zs n) (hn : n ≤ 900000) (h0 : 0 < zs.length) (h8 : zs.length ≤ 8) (hlen : (Lib.join (zs.map txt) [32]).length ≤ 100000) :
  Calls Tryz.prog 31 #[v] w fun e w' => e = .returned (.string ⟨(vtxt zs).toArray⟩) ∧ Below w.heap.size w w' := by
 have HV := hide hv; have HT := hide ht
 obtain ⟨vb, voff, vcap, rfl⟩ := hv.form h0
 clear hv ht
 have hmk := run_mkS zs.length (by omega)
 have HI : Hid (TxInv w (w.alloc (.cells (Lib.cellsOf [] zs.length) 9)) w.heap.size zs 0) := ⟨heap_alloc_new w _, (Below.refl _ _).alloc (Nat.le_refl _) _⟩
 go_enter Tryz.func31, Tryz.ntmps31
 go_wp2
 clear hmk
 go_loopw [10] (fun i wr => ∃ k : Nat, k ≤ zs.length ∧ i = .int .i64 k ∧ TxInv w wr w.heap.size zs k) (fun i _ => zs.length - (intOf i).toNat)
 case atStart => exact ⟨0, Nat.zero_le _, rfl, HI.out⟩
 case round =>
  clear HI
  obtain ⟨k, hk, rfl, hinv⟩ := hrel
  have HI := hide hinv
  clear hinv
  by_cases hkl : k < zs.length
  ·obtain ⟨la, an, ao, al, ac, a0, a1, na⟩ := (HV.out.below HI.out.2 (Nat.le_refl _)).at k hkl
   have NA := hide na
   have HST := hide (fun (W : World) (h : TxInv w W w.heap.size zs k) => h.store (Nat.le_refl _) hkl)
   clear na
   have HBT := hide (show btxt (zs.getD k 0) = ⟨(txt (zs.getD k 0)).toArray⟩ from rfl)
   generalize zs.getD k 0 = z at *
   go_wp2_with fail
   refine (text_all wr _ z n (HT.out.below HI.out.2) NA.out hn).mono ?_
   rintro e w1 ⟨rfl, hb⟩
   have HI1 := hide (show TxInv w w1 w.heap.size zs k from ⟨(hb.block _ (heap_lt HI.out.1)).trans HI.out.1, HI.out.2.trans (hb.mono HI.out.2.size)⟩)
   have hll : ((zs.take k).map btxt).length = k := by rw [List.length_map, List.length_take]; omega
   have hcell : w1.cell? ⟨w.heap.size, k, none⟩ = some (.string ByteArray.empty) := by
    have h := Lib.cellsOf_next (done := (zs.take k).map btxt) (N := zs.length) (by omega)
    rw [hll] at h
    have := World.news_of_block HI1.out.1 k (.string ByteArray.empty) (by rw [← h]; simp)
    have e : (⟨w.heap.size, 0, none⟩ : Addr).add k = ⟨w.heap.size, k, none⟩ := by unfold Addr.add; split <;> simp_all
    rwa [e] at this
   have hfr : w1.frozen? ⟨w.heap.size, k, none⟩ = false := by
    have h := HI1.out.1
    simp [World.frozen?, h]
   have HN := hide (HST.out w1 HI1.out)
   rw [HBT.out] at HN
   clear hb HST HI HI1 HBT hll a0 a1
   go_wp2
   go_roundw
   case rel => exact ⟨k + 1, by omega, by go_num, HN.out⟩
   case measure => simp [intOf]; omega
  ·obtain rfl : k = zs.length := by omega
   have HJ := hide (Go.Proofs.Tryz.strings_Join w.heap.size 0 zs.length (zs.map btxt) ⟨#[32]⟩ wr HI.out.full (heap_lt HI.out.1) (by rw [List.length_map]; omega) (by rw [List.length_map]; exact Nat.le_refl _) (by rw [btxt_data]; show (Lib.join _ [32]).length ≤ _; omega))
   rw [List.length_map, btxt_data] at HJ
   have HBE := hide HI.out.2
   clear HI
   go_wp2_with fail
   refine HJ.out.mono ?_
   rintro e w1 ⟨rfl, hb⟩
   have HF := hide (show Below w.heap.size w w1 from HBE.out.trans (hb.mono HBE.out.size))
   have e1 : (Lib.join (zs.map txt) (⟨#[32]⟩ : ByteArray).data.toList) = Lib.join (zs.map txt) [32] := rfl
   rw [e1]
   have HVT := hide (show vtxt zs = 40 :: (Lib.join (zs.map txt) [32] ++ [41]) from rfl)
   have hsz : (⟨(Lib.join (zs.map txt) [32]).toArray⟩ : ByteArray).size ≤ 100000 := by show (Lib.join (zs.map txt) [32]).toArray.size ≤ _; simpa using hlen
   clear hb HJ HBE e1
   generalize Lib.join (zs.map txt) [32] = l at *
   have hsz2 : ((⟨#[40]⟩ : ByteArray) ++ ⟨l.toArray⟩).size ≤ 100001 := by rw [ByteArray.size_append]; show 1 + _ ≤ _; omega
   go_wp2
   go_ret
   rw [joined, ← HVT.out]
   exact ⟨rfl, HF.out⟩

end Go.Proofs.YtajcdhaaldhlaaaGreatDoor

/- A closed fact of lattices. -/
namespace Go.Proofs.YtajcdhaaldhlaaaGreatDoor
open Go.RowKit Limbs Digs

theorem txt_2 : txt 2 = [50] := by
 unfold txt Lib.itoa
 rw [if_neg (by decide), show (2 : Int).toNat = 2 from rfl, Lib.decDigits, dif_pos (by decide)]
 rfl

theorem txt_4 : txt 4 = [52] := by
 unfold txt Lib.itoa
 rw [if_neg (by decide), show (4 : Int).toNat = 4 from rfl, Lib.decDigits, dif_pos (by decide)]
 rfl

theorem text24 : vtxt [2, 4] = [40, 50, 32, 52, 41] := by
 unfold vtxt
 rw [List.map_cons, List.map_cons, List.map_nil, txt_2, txt_4]
 rfl

theorem ready_form {hs : List (List Int)} {p : Nat → Nat} (h : FormL 2 hs p) (ha : Alikes 2 (InL hs) (InL ([] ++ [[2, 4]]))) : hs = [[2, 4]] := by
 refine formL_one h (p' := fun _ => 0) ⟨fun r hr => ?_, ⟨fun i k hik hk => ?_, fun i _ => by decide, fun i b hi hb => by omega, fun i hi => ?_, fun i k hik hk => ?_⟩⟩ ha
 ·rw [List.mem_singleton] at hr; rw [hr]; rfl
 ·simp only [List.length_singleton] at hk; omega
 ·simp only [List.length_singleton] at hi
  obtain rfl : i = 0 := by omega
  decide
 ·simp only [List.length_singleton] at hk; omega

set_option linter.unusedSimpArgs false in
set_option maxRecDepth 100000 in
set_option maxHeartbeats 4000000 in
theorem ready_any (w : World) (ht : Tab w) : Calls Tryz.prog 9 #[] w fun e w' => e = .returned (.bool true) ∧ Below w.heap.size w w' := by
 have HT := hide ht
 clear ht
 go_enter Tryz.func9, Tryz.ntmps9
 go_wp2_with fail
 refine (newL_ok w 2 6 (by decide) (by decide)).mono ?_
 rintro e w1 ⟨rfl, -, hb1⟩
 have HBX := hide (box_new w1 (.int .i64 2) (.slice none 0 0) 30 _ rfl)
 have HBE := hide (hb1.trans (((Below.refl w1.heap.size w1).alloc (Nat.le_refl _) (.cells #[.int .i64 2, .slice none 0 0] 30)).mono hb1.size))
 have HLE := hide hb1.size
 have HL1 : Hid (w1.heap.size < (w1.alloc (.cells #[.int .i64 2, .slice none 0 0] 30)).heap.size) := by show _ < _; simp
 obtain ⟨c0, c1, z0, z1⟩ := HBX.out
 clear hb1
 go_wp2_with fail
 generalize w1.alloc (.cells #[.int .i64 2, .slice none 0 0] 30) = W1 at *
 have HBL := hide ((Below.refl W1.heap.size W1).alloc (Nat.le_refl _) (.cells #[.int .i64 2, .int .i64 4] 3))
 have d0 := (HBL.out.cell (p := ⟨w1.heap.size, 0, none⟩) HL1.out).trans c0
 have d1 := (HBL.out.cell (p := ⟨w1.heap.size, 1, none⟩) HL1.out).trans c1
 have HRS : Hid (RowS (W1.alloc (.cells #[.int .i64 2, .int .i64 4] 3)) (.slice (some ⟨W1.heap.size, 0, none⟩) 2 2) [2, 4]) := by
  refine ⟨_, _, rfl, Nat.le_refl _, fun i => ?_, fun _ => ⟨_, _, rfl, by simp, fun i hi => ?_⟩⟩
  ·match i with
   | 0 => decide
   | 1 => decide
   | i + 2 => simp
  ·match i, hi with
   | 0, _ => rw [World.cell?_alloc_new]; rfl
   | 1, _ => rw [World.cell?_alloc_new]; rfl
 refine upto_start (S := (fun w' => w'.cell? ⟨w1.heap.size, 0, none⟩ = some (.int .i64 2) ∧ w'.cell? ⟨w1.heap.size, 1, none⟩ = some (.slice none 0 0))) (k := 5) (by kernel_rfl) (by (try dsimp only); go_keep) (fun hHeld => ?_)
 refine upto_run (v := ?_) 0 15 [3, 4, 5, 6, 7, 8] rfl rfl (by kernel_rfl) (by kernel_rfl) (by kernel_rfl) (by kernel_rfl) (by kernel_rfl) (fun _ _ _ h => h) (by rfl) ?_ (by assumption) ?_
 rotate_left
 ·(intro w hSw; (try dsimp only at hSw); go_simp; with_reducible rfl)
 simp only [Act.put, List.setIfInBounds_toArray, List.set_cons_zero, List.set_cons_succ]
 refine upto_one 1 (by kernel_rfl) rfl (fun K hK => ?_)
 go_simp
 refine hK.out _ _ (fun _ => by exact ⟨d0, d1⟩) ?_
 clear hK K
 try simp only [Act.put, List.setIfInBounds_toArray, List.set_cons_zero, List.set_cons_succ]
 refine upto_one 2 (by kernel_rfl) rfl (fun K hK => ?_)
 go_simp
 (refine (ofV_any _ _ [2, 4] (by exact HRS.out.below (Below.refl _ _).drew (Nat.le_refl _)) (by decide)).mono ?_; rintro e w3 ⟨P, rfl, ho⟩; have HB3 := hide (show Below W1.heap.size W1 w3 from HBL.out.drew.trans (ho.below.mono (by simp))); have HV3 := hide ho.vec; have e0 := (HB3.out.cell (p := ⟨w1.heap.size, 0, none⟩) HL1.out).trans c0; have e1 := (HB3.out.cell (p := ⟨w1.heap.size, 1, none⟩) HL1.out).trans c1; clear ho)
 go_wp2_with fail
 refine hK.out _ _ (fun _ => by exact ⟨e0, e1⟩) ?_
 clear hK K
 try simp only [Act.put, List.setIfInBounds_toArray, List.set_cons_zero, List.set_cons_succ]
 refine upto_one 3 (by kernel_rfl) rfl (fun K hK => ?_)
 go_simp
 (refine (insertL_ok _ _ _ 2 2 [] [2, 4] (by exact ⟨⟨_, rfl, matN_nil _ _⟩, _, formL_nil _⟩) (by exact HV3.out) rfl (by decide) (by decide) (by decide)).mono ?_; rintro e w4 ⟨v4, hs, rfl, ⟨⟨u4, rfl, hu4⟩, p4, hF4⟩, hb4, hA4, hfr4⟩; obtain rfl := ready_form hF4 hA4; have HU4 := hide hu4; have HFR := hide (hfr4 _ rfl); have HB4 := hide (HB3.out.trans (hb4.mono HB3.out.size)); obtain ⟨f0, f1, x0, x1⟩ := HBX.out.later HB4.out HL1.out; have HL3 := hide (Nat.lt_of_lt_of_le HL1.out HB3.out.size); obtain ⟨o4, k4, rfl, -, -⟩ := hu4; clear hb4 hF4 hA4 hfr4)
 go_wp2_with fail
 refine hK.out _ _ (fun _ => by exact ⟨f0, f1⟩) ?_
 clear hK K
 try simp only [Act.put, List.setIfInBounds_toArray, List.set_cons_zero, List.set_cons_succ]
 refine upto_one 4 (by kernel_rfl) rfl (fun K hK => ?_)
 go_simp
 refine hK.out _ _ (fun _ => by exact ⟨f0, f1⟩) ?_
 clear hK K
 try simp only [Act.put, List.setIfInBounds_toArray, List.set_cons_zero, List.set_cons_succ]
 refine upto_two 5 6 (by kernel_rfl) rfl rfl (fun K hK => ?_) (fun K hK => ?_)
 ·go_simp
  refine hK.out _ _ (fun h => absurd h (by decide)) ?_
  clear hK K
  try simp only [Act.put, List.setIfInBounds_toArray, List.set_cons_zero, List.set_cons_succ]
  refine upto_two 6 7 (by kernel_rfl) rfl rfl (fun K hK => ?_) (fun K hK => ?_)
  ·go_simp
   refine hK.out _ _ (fun h => absurd h (by decide)) ?_
   clear hK K
   try simp only [Act.put, List.setIfInBounds_toArray, List.set_cons_zero, List.set_cons_succ]
   refine upto_one 7 (by kernel_rfl) rfl (fun K hK => ?_)
   go_simp
   refine hK.out _ _ (fun h => absurd h (by decide)) ?_
   clear hK K
   try simp only [Act.put, List.setIfInBounds_toArray, List.set_cons_zero, List.set_cons_succ]
   refine upto_one 8 (by kernel_rfl) rfl (fun K hK => ?_)
   go_simp
   refine hK.out _ _ (fun h => absurd h (by decide)) ?_
   clear hK K
   try simp only [Act.put, List.setIfInBounds_toArray, List.set_cons_zero, List.set_cons_succ]
   refine upto_done (by kernel_rfl) ?_
   have HM := hide (HU4.out.setVar (.int .i64 2) (.slice o4 1 k4) (fun _ => HFR.out.sep HL3.out) f0 f1)
   obtain ⟨g0, g1, -, -⟩ := (HBX.out.later HB4.out HL1.out).write (.int .i64 2) (.slice o4 1 k4)
   have HB5 := hide ((HBE.out.trans (HB4.out.mono HBE.out.size)).setCell (p := ⟨w1.heap.size, 0, none⟩) (by exact HLE.out) (.int .i64 2) |>.setCell (p := ⟨w1.heap.size, 1, none⟩) (by exact HLE.out) (.slice o4 1 k4))
   clear HU4 HFR HBX HB4 HB3 f0 f1 x0 x1 e0 e1 c0 c1 z0 z1 hHeld
   try rw [show ([[2, 4]] : List (List Int)).length = 1 from rfl]
   generalize ((w4.setCell ⟨w1.heap.size, 0, none⟩ (.int .i64 2)).setCell ⟨w1.heap.size, 1, none⟩ (.slice o4 1 k4)) = W5 at *
   obtain ⟨ob, ooff, ocap, e, olt, uv, cv, hv⟩ := HM.out.at 0 (by decide)
   simp only [Value.slice.injEq, true_and] at e
   obtain ⟨rfl, rfl⟩ := e
   rw [Nat.add_zero] at cv
   have HTX : Hid (Calls Tryz.prog 31 #[uv] W5 fun e w' => e = .returned (.string ⟨#[40, 50, 32, 52, 41]⟩) ∧ Below W5.heap.size W5 w') := by
    have := vtext_any W5 uv [2, 4] _ (HT.out.below HB5.out) hv (by decide) (by decide) (by decide) (by
     rw [List.map_cons, List.map_cons, List.map_nil, txt_2, txt_4]
     decide)
    rw [text24] at this
    exact this
   obtain ⟨vo, vcap, rfl, -, -⟩ := hv
   go_wp2_with fail
   refine HTX.out.mono ?_
   rintro e w6 ⟨rfl, hb6⟩
   have HB6 := hide (HB5.out.trans (hb6.mono HB5.out.size))
   clear hb6 HTX HB5 HM cv g0 g1
   go_wp2
   go_ret
   exact ⟨rfl, HB6.out⟩
  ·go_simp
   refine hK.out _ _ (fun h => absurd h (by decide)) ?_
   clear hK K
   try simp only [Act.put, List.setIfInBounds_toArray, List.set_cons_zero, List.set_cons_succ]
   refine upto_one 6 (by kernel_rfl) rfl (fun K hK => ?_)
   go_simp
   refine hK.out _ _ (fun h => absurd h (by decide)) ?_
   clear hK K
   try simp only [Act.put, List.setIfInBounds_toArray, List.set_cons_zero, List.set_cons_succ]
   refine upto_one 8 (by kernel_rfl) rfl (fun K hK => ?_)
   go_simp
   refine hK.out _ _ (fun h => absurd h (by decide)) ?_
   clear hK K
   try simp only [Act.put, List.setIfInBounds_toArray, List.set_cons_zero, List.set_cons_succ]
   refine upto_done (by kernel_rfl) ?_
   have HM := hide (HU4.out.setVar (.int .i64 2) (.slice o4 1 k4) (fun _ => HFR.out.sep HL3.out) f0 f1)
   obtain ⟨g0, g1, -, -⟩ := (HBX.out.later HB4.out HL1.out).write (.int .i64 2) (.slice o4 1 k4)
   have HB5 := hide ((HBE.out.trans (HB4.out.mono HBE.out.size)).setCell (p := ⟨w1.heap.size, 0, none⟩) (by exact HLE.out) (.int .i64 2) |>.setCell (p := ⟨w1.heap.size, 1, none⟩) (by exact HLE.out) (.slice o4 1 k4))
   clear HU4 HFR HBX HB4 HB3 f0 f1 x0 x1 e0 e1 c0 c1 z0 z1 hHeld
   try rw [show ([[2, 4]] : List (List Int)).length = 1 from rfl]
   generalize ((w4.setCell ⟨w1.heap.size, 0, none⟩ (.int .i64 2)).setCell ⟨w1.heap.size, 1, none⟩ (.slice o4 1 k4)) = W5 at *
   obtain ⟨ob, ooff, ocap, e, olt, uv, cv, hv⟩ := HM.out.at 0 (by decide)
   simp only [Value.slice.injEq, true_and] at e
   obtain ⟨rfl, rfl⟩ := e
   rw [Nat.add_zero] at cv
   have HTX : Hid (Calls Tryz.prog 31 #[uv] W5 fun e w' => e = .returned (.string ⟨#[40, 50, 32, 52, 41]⟩) ∧ Below W5.heap.size W5 w') := by
    have := vtext_any W5 uv [2, 4] _ (HT.out.below HB5.out) hv (by decide) (by decide) (by decide) (by
     rw [List.map_cons, List.map_cons, List.map_nil, txt_2, txt_4]
     decide)
    rw [text24] at this
    exact this
   obtain ⟨vo, vcap, rfl, -, -⟩ := hv
   go_wp2_with fail
   refine HTX.out.mono ?_
   rintro e w6 ⟨rfl, hb6⟩
   have HB6 := hide (HB5.out.trans (hb6.mono HB5.out.size))
   clear hb6 HTX HB5 HM cv g0 g1
   go_wp2
   go_ret
   exact ⟨rfl, HB6.out⟩
 ·go_simp
  refine hK.out _ _ (fun h => absurd h (by decide)) ?_
  clear hK K
  try simp only [Act.put, List.setIfInBounds_toArray, List.set_cons_zero, List.set_cons_succ]
  refine upto_one 5 (by kernel_rfl) rfl (fun K hK => ?_)
  go_simp
  refine hK.out _ _ (fun h => absurd h (by decide)) ?_
  clear hK K
  try simp only [Act.put, List.setIfInBounds_toArray, List.set_cons_zero, List.set_cons_succ]
  refine upto_one 7 (by kernel_rfl) rfl (fun K hK => ?_)
  go_simp
  refine hK.out _ _ (fun h => absurd h (by decide)) ?_
  clear hK K
  try simp only [Act.put, List.setIfInBounds_toArray, List.set_cons_zero, List.set_cons_succ]
  refine upto_one 8 (by kernel_rfl) rfl (fun K hK => ?_)
  go_simp
  refine hK.out _ _ (fun h => absurd h (by decide)) ?_
  clear hK K
  try simp only [Act.put, List.setIfInBounds_toArray, List.set_cons_zero, List.set_cons_succ]
  refine upto_done (by kernel_rfl) ?_
  have HM := hide (HU4.out.setVar (.int .i64 2) (.slice o4 1 k4) (fun _ => HFR.out.sep HL3.out) f0 f1)
  obtain ⟨g0, g1, -, -⟩ := (HBX.out.later HB4.out HL1.out).write (.int .i64 2) (.slice o4 1 k4)
  have HB5 := hide ((HBE.out.trans (HB4.out.mono HBE.out.size)).setCell (p := ⟨w1.heap.size, 0, none⟩) (by exact HLE.out) (.int .i64 2) |>.setCell (p := ⟨w1.heap.size, 1, none⟩) (by exact HLE.out) (.slice o4 1 k4))
  clear HU4 HFR HBX HB4 HB3 f0 f1 x0 x1 e0 e1 c0 c1 z0 z1 hHeld
  try rw [show ([[2, 4]] : List (List Int)).length = 1 from rfl]
  generalize ((w4.setCell ⟨w1.heap.size, 0, none⟩ (.int .i64 2)).setCell ⟨w1.heap.size, 1, none⟩ (.slice o4 1 k4)) = W5 at *
  obtain ⟨ob, ooff, ocap, e, olt, uv, cv, hv⟩ := HM.out.at 0 (by decide)
  simp only [Value.slice.injEq, true_and] at e
  obtain ⟨rfl, rfl⟩ := e
  rw [Nat.add_zero] at cv
  have HTX : Hid (Calls Tryz.prog 31 #[uv] W5 fun e w' => e = .returned (.string ⟨#[40, 50, 32, 52, 41]⟩) ∧ Below W5.heap.size W5 w') := by
   have := vtext_any W5 uv [2, 4] _ (HT.out.below HB5.out) hv (by decide) (by decide) (by decide) (by
    rw [List.map_cons, List.map_cons, List.map_nil, txt_2, txt_4]
    decide)
   rw [text24] at this
   exact this
  obtain ⟨vo, vcap, rfl, -, -⟩ := hv
  go_wp2_with fail
  refine HTX.out.mono ?_
  rintro e w6 ⟨rfl, hb6⟩
  have HB6 := hide (HB5.out.trans (hb6.mono HB5.out.size))
  clear hb6 HTX HB5 HM cv g0 g1
  go_wp2
  go_ret
  exact ⟨rfl, HB6.out⟩

end Go.Proofs.YtajcdhaaldhlaaaGreatDoor

/- What stands in variables, carried from world to world. -/
namespace Go.Proofs.YtajcdhaaldhlaaaGreatDoor
open Go.RowKit Limbs Digs

structure LatG (W : World) (v : Value) (n : Nat) (hs : List (List Int)) (nv : Nat) : Prop where
 lat : LatN W v n hs nv

theorem LatG.later {W W' : World} {v : Value} {n : Nat} {hs : List (List Int)} {nv : Nat} (h : LatG W v n hs nv) (hb : Below W.heap.size W W') : LatG W' v n hs nv := ⟨h.lat.below hb⟩

theorem MadeGot.later {W W' : World} {nI : Int} {rs : List (List Int)} {i : Int} {o : Option Addr} {l c : Nat} {ok : Bool} (h : MadeGot W nI rs i o l c ok) (hb : Below W.heap.size W W') : MadeGot W' nI rs i o l c ok := h.keep fun _ _ _ _ _ h => h.below hb

theorem good_parts' {nI : Int} {rs : List (List Int)} (h : goodG nI rs = true) : (1 ≤ nI ∧ nI ≤ 4 ∧ rs.length ≤ 8) ∧ ∀ r ∈ rs, goodRow nI r = true := by
 unfold goodG at h
 rw [Bool.and_eq_true, decide_eq_true_eq, List.all_eq_true] at h
 exact h

structure VecG (W : World) (v : Value) (zs : List Int) (n : Nat) : Prop where
 vec : VecN W v zs n

theorem VecG.later {W W' : World} {v : Value} {zs : List Int} {n : Nat} (h : VecG W v zs n) (hb : Below W.heap.size W W') : VecG W' v zs n := ⟨h.vec.below hb (Nat.le_refl _)⟩

end Go.Proofs.YtajcdhaaldhlaaaGreatDoor

/- What the statements about sums and meets want besides. -/
namespace Go.Proofs.YtajcdhaaldhlaaaGreatDoor
open Go.RowKit Limbs

theorem MatN.mono {w : World} {v : Value} {zss : List (List Int)} {n m : Nat} (h : MatN w v zss n) (hm : n ≤ m) : MatN w v zss m := by
 obtain ⟨ao, cap, hv, h1, h2⟩ := h
 refine ⟨ao, cap, hv, h1, fun h0 => ?_⟩
 obtain ⟨b, off, e, hlt, hc⟩ := h2 h0
 refine ⟨b, off, e, hlt, fun i zs hi => ?_⟩
 obtain ⟨u, cu, hu⟩ := hc i zs hi
 exact ⟨u, cu, hu.mono hm⟩

theorem LatN.mono {w : World} {v : Value} {n : Nat} {hs : List (List Int)} {nv m : Nat} (h : LatN w v n hs nv) (hm : nv ≤ m) : LatN w v n hs m := by
 obtain ⟨⟨u, e, hu⟩, hp⟩ := h
 exact ⟨⟨u, e, hu.mono hm⟩, hp⟩

theorem nbM : ∀ n, n < 5 → nbK (n + n) ((n + n) * 6 + 2) 6 (n + n) ≤ 100000 := by decide

theorem member_bool (w : World) (v x : Value) (n nv nx : Nat) (hs : List (List Int)) (zs : List Int) (hv : LatN w v n hs nv) (hx : VecN w x zs nx) (hz : zs.length = n) (h1 : 1 ≤ n) (h4 : n ≤ 4) (hN : nx + n * (nv + 2) ≤ 90000) (b : Bool) (hb : b = true ↔ Gens n (InL hs) zs) :
  Calls Tryz.prog 14 #[v, x] w fun e w' => ∃ u, e = .returned (.tuple #[u, .bool b, .nilIface]) ∧ Below w.heap.size w w' := by
 obtain ⟨hv, p, hF⟩ := hv
 refine (member_ok w v x n nv nx hs p zs hv hF hx hz h1 h4 hN).mono fun e w' ⟨hbl, hc⟩ => ?_
 rcases hc with ⟨hg, P, rfl, -⟩ | ⟨hg, rfl⟩
 ·obtain rfl := hb.2 hg
  exact ⟨_, rfl, hbl⟩
 ·cases b with
  | false => exact ⟨_, rfl, hbl⟩
  | true => exact absurd (hb.1 rfl) hg

theorem LatN.sep {w : World} {n : Nat} {hs : List (List Int)} {nv : Nat} {u : Value} (h : LatN w (.agg #[.int .i64 (n : Int), u]) n hs nv) {B : Nat} (hB : w.heap.size ≤ B) : 0 < hs.length → Sep u (some B) := fun h0 a l c e => by
 obtain ⟨⟨u', e', ⟨ao, cap, rfl, -, h2⟩⟩, -⟩ := h
 simp only [Value.agg.injEq, Array.mk.injEq, List.cons.injEq, and_true, true_and] at e'
 obtain ⟨b, off, rfl, hlt, -⟩ := h2 h0
 rw [e'] at e
 simp only [Value.slice.injEq, Option.some.injEq] at e
 rw [← e.1]
 simp only [ne_eq, Option.some.injEq]
 omega

theorem LatN.setVar {w : World} {n : Nat} {hs : List (List Int)} {nv B : Nat} {u : Value} {x : Int} {o : Option Addr} {l c : Nat} (h : LatN w (.agg #[.int .i64 (n : Int), u]) n hs nv) (y z : Value) (hsep : 0 < hs.length → Sep u (some B)) (c0 : w.cell? ⟨B, 0, none⟩ = some (.int .i64 x)) (c1 : w.cell? ⟨B, 1, none⟩ = some (.slice o l c)) :
  LatN ((w.setCell ⟨B, 0, none⟩ y).setCell ⟨B, 1, none⟩ z) (.agg #[.int .i64 (n : Int), u]) n hs nv := by
 obtain ⟨⟨u', e', hu⟩, hp⟩ := h
 simp only [Value.agg.injEq, Array.mk.injEq, List.cons.injEq, and_true, true_and] at e'
 subst e'
 exact ⟨⟨_, rfl, hu.setVar y z hsep c0 c1⟩, hp⟩

theorem BoxL.other {W : World} {A B : Nat} {u0 u1 : Value} (h : BoxL W A u0 u1) (hne : A ≠ B) (y z : Value) : BoxL ((W.setCell ⟨B, 0, none⟩ y).setCell ⟨B, 1, none⟩ z) A u0 u1 :=
 ⟨(h.1.other hne _ _).other hne _ _, by simpa using h.2⟩

theorem BoxL.write {W : World} {B : Nat} {u0 u1 : Value} (h : BoxL W B u0 u1) (y z : Value) : BoxL ((W.setCell ⟨B, 0, none⟩ y).setCell ⟨B, 1, none⟩ z) B y z :=
 ⟨h.1.write _ _, by simpa using h.2⟩

end Go.Proofs.YtajcdhaaldhlaaaGreatDoor
