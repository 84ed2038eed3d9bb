/- A vector's text. -/
import Derived.Test.YtdedolkgcdlmeaaGreatDoorVecB
import Derived.Test.YtdedolkgcdlmeaaGreatDoorTextZ
import Derived.Test.YtdedolkgcdlmeaaGreatDoorShelfJ
import Derived.Test.YtdedolkgcdlmeaaGreatDoorJoins
import Derived.Test.YtdedolkgcdlmeaaGreatDoorSnoc
namespace Go.Proofs.YtdedolkgcdlmeaaGreatDoor
open Go.RowKit Limbs

theorem Tryz.infoStr : (Tryz.prog.info? 9).map (fun i => (i.zero, i.size, i.bytes)) = some (some (.string ByteArray.empty), 1, 16) := by kernel_rfl

theorem run_mkS (m : Nat) (hm : m ≤ 1000) (W : World) : (Instr.makeSlice 136 (.int .i64 (m : Int)) (.int .i64 (m : Int))).run Tryz.prog W = .ok (.slice (some ⟨W.heap.size, 0, none⟩) m m) (W.alloc (.cells (Lib.cellsOf [] m) 9)) := by
  obtain ⟨i0, hi, hz0, hz1, hz2⟩ := info_parts Tryz.infoStr
  have h := run_make (P := Tryz.prog) W 136 9 i0 (.string ByteArray.empty) (by kernel_rfl) hi hz0 .i64 .i64 m m (by omega) (by omega) (by rw [hz2]; omega) (by omega)
  rw [hz1, Int.toNat_natCast, Nat.mul_one] at h
  rw [Lib.cellsOf_nil]
  exact h

/-- the text of a vector -/
def vtxt (zs : List Int) : List UInt8 := 40 :: (Lib.join (zs.map txt) [32] ++ [41])

def btxt (z : Int) : ByteArray := ⟨(txt z).toArray⟩

theorem btxt_data (zs : List Int) : (zs.map btxt).map (·.data.toList) = zs.map txt := by
  rw [List.map_map]
  apply List.map_congr_left
  intro z _
  simp [btxt]

/-- At the loop's head: so many texts stand in the row. -/
def TxInv (w wr : World) (P : Nat) (zs : List Int) (k : Nat) : Prop :=
  wr.heap[P]? = some (.cells (Lib.cellsOf ((zs.take k).map btxt) zs.length) 9) ∧ Below w.heap.size w wr

theorem TxInv.store {w wr : World} {P : Nat} {zs : List Int} {k : Nat} (h : TxInv w wr P zs k) (hP : w.heap.size ≤ P) (hk : k < zs.length) : TxInv w (wr.setCell ⟨P, k, none⟩ (.string (btxt (zs.getD k 0)))) P zs (k + 1) := by
  obtain ⟨h1, h2⟩ := h
  have hl : ((zs.take k).map btxt).length = k := by rw [List.length_map, List.length_take]; omega
  have hs := heap_setCell_same wr P k _ _ (.string (btxt (zs.getD k 0))) h1
  refine ⟨?_, h2.setCell (by exact hP) _⟩
  have e : (Lib.cellsOf ((zs.take k).map btxt) zs.length).setIfInBounds k (.string (btxt (zs.getD k 0))) = Lib.cellsOf ((zs.take (k + 1)).map btxt) zs.length := by
    have := Lib.cellsOf_set (done := (zs.take k).map btxt) (N := zs.length) (by omega) (btxt (zs.getD k 0))
    rw [hl] at this
    rw [this, List.take_succ_eq_append_getElem hk, List.map_append]
    simp [List.getD_eq_getElem?_getD, hk]
  rw [← e]
  exact hs

theorem TxInv.full {w wr : World} {P : Nat} {zs : List Int} (h : TxInv w wr P zs zs.length) : ∀ (j : Nat) x, (zs.map btxt)[j]? = some x → wr.cell? ⟨P, 0 + j, none⟩ = some (.string x) := fun j x hx => by
  have h1 := h.1
  rw [List.take_length] at h1
  have := World.news_of_block h1 j (.string x) (by
    unfold Lib.cellsOf
    rw [List.toList_toArray, List.getElem?_append_left (by rw [List.length_map]; exact (List.getElem?_eq_some_iff.1 hx).1), List.getElem?_map, hx]
    rfl)
  have e : (⟨P, 0, none⟩ : Addr).add j = ⟨P, 0 + j, none⟩ := by unfold Addr.add; split <;> simp_all
  rwa [e] at this

theorem joined (l : List UInt8) : (⟨#[40]⟩ : ByteArray) ++ ⟨l.toArray⟩ ++ ⟨#[41]⟩ = ⟨(40 :: (l ++ [41])).toArray⟩ := by
  apply ByteArray.ext
  simp

set_option maxRecDepth 100000 in
set_option maxHeartbeats 1600000 in
theorem vtext_any (w : World) (v : Value) (zs : List Int) (n : Nat) (ht : Tab w) (hv : VecN w v zs n) (hn : n ≤ 900000) (h0 : 0 < zs.length) (h8 : zs.length ≤ 8) (hlen : (Lib.join (zs.map txt) [32]).length ≤ 100000) :
    Calls Tryz.prog 50 #[v] w fun e w' => e = .returned (.string ⟨(vtxt zs).toArray⟩) ∧ Below w.heap.size w w' := by
  have HV := hide hv; have HT := hide ht
  obtain ⟨vb, voff, vcap, rfl⟩ := hv.form h0
  clear hv ht
  have hmk := run_mkS zs.length (by omega)
  have HI : Hid (TxInv w (w.alloc (.cells (Lib.cellsOf [] zs.length) 9)) w.heap.size zs 0) := ⟨heap_alloc_new w _, (Below.refl _ _).alloc (Nat.le_refl _) _⟩
  go_enter Tryz.func50, Tryz.ntmps50
  go_wp2
  clear hmk
  go_loopw [10] (fun i wr => ∃ k : Nat, k ≤ zs.length ∧ i = .int .i64 k ∧ TxInv w wr w.heap.size zs k) (fun i _ => zs.length - (intOf i).toNat)
  case atStart => exact ⟨0, Nat.zero_le _, rfl, HI.out⟩
  case round =>
    clear HI
    obtain ⟨k, hk, rfl, hinv⟩ := hrel
    have HI := hide hinv
    clear hinv
    by_cases hkl : k < zs.length
    · obtain ⟨la, an, ao, al, ac, a0, a1, na⟩ := (HV.out.below HI.out.2 (Nat.le_refl _)).at k hkl
      have NA := hide na
      have HST := hide (fun (W : World) (h : TxInv w W w.heap.size zs k) => h.store (Nat.le_refl _) hkl)
      clear na
      have HBT := hide (show btxt (zs.getD k 0) = ⟨(txt (zs.getD k 0)).toArray⟩ from rfl)
      generalize zs.getD k 0 = z at *
      go_wp2_with fail
      refine (text_all wr _ z n (HT.out.below HI.out.2) NA.out hn).mono ?_
      rintro e w1 ⟨rfl, hb⟩
      have HI1 := hide (show TxInv w w1 w.heap.size zs k from ⟨(hb.block _ (heap_lt HI.out.1)).trans HI.out.1, HI.out.2.trans (hb.mono HI.out.2.size)⟩)
      have hll : ((zs.take k).map btxt).length = k := by rw [List.length_map, List.length_take]; omega
      have hcell : w1.cell? ⟨w.heap.size, k, none⟩ = some (.string ByteArray.empty) := by
        have h := Lib.cellsOf_next (done := (zs.take k).map btxt) (N := zs.length) (by omega)
        rw [hll] at h
        have := World.news_of_block HI1.out.1 k (.string ByteArray.empty) (by rw [← h]; simp)
        have e : (⟨w.heap.size, 0, none⟩ : Addr).add k = ⟨w.heap.size, k, none⟩ := by unfold Addr.add; split <;> simp_all
        rwa [e] at this
      have hfr : w1.frozen? ⟨w.heap.size, k, none⟩ = false := by
        have h := HI1.out.1
        simp [World.frozen?, h]
      have HN := hide (HST.out w1 HI1.out)
      rw [HBT.out] at HN
      clear hb HST HI HI1 HBT hll a0 a1
      go_wp2
      go_roundw
      case rel => exact ⟨k + 1, by omega, by go_num, HN.out⟩
      case measure => simp [intOf]; omega
    · obtain rfl : k = zs.length := by omega
      have HJ := hide (Go.Proofs.Tryz.strings_Join w.heap.size 0 zs.length (zs.map btxt) ⟨#[32]⟩ wr HI.out.full (heap_lt HI.out.1) (by rw [List.length_map]; omega) (by rw [List.length_map]; exact Nat.le_refl _) (by rw [btxt_data]; show (Lib.join _ [32]).length ≤ _; omega))
      rw [List.length_map, btxt_data] at HJ
      have HBE := hide HI.out.2
      clear HI
      go_wp2_with fail
      refine HJ.out.mono ?_
      rintro e w1 ⟨rfl, hb⟩
      have HF := hide (show Below w.heap.size w w1 from HBE.out.trans (hb.mono HBE.out.size))
      have e1 : (Lib.join (zs.map txt) (⟨#[32]⟩ : ByteArray).data.toList) = Lib.join (zs.map txt) [32] := rfl
      rw [e1]
      have HVT := hide (show vtxt zs = 40 :: (Lib.join (zs.map txt) [32] ++ [41]) from rfl)
      have hsz : (⟨(Lib.join (zs.map txt) [32]).toArray⟩ : ByteArray).size ≤ 100000 := by show (Lib.join (zs.map txt) [32]).toArray.size ≤ _; simpa using hlen
      clear hb HJ HBE e1
      generalize Lib.join (zs.map txt) [32] = l at *
      have hsz2 : ((⟨#[40]⟩ : ByteArray) ++ ⟨l.toArray⟩).size ≤ 100001 := by rw [ByteArray.size_append]; show 1 + _ ≤ _; omega
      go_wp2
      go_ret
      rw [joined, ← HVT.out]
      exact ⟨rfl, HF.out⟩

end Go.Proofs.YtdedolkgcdlmeaaGreatDoor
