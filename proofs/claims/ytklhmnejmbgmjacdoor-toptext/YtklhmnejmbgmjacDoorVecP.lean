/- A vector's text, parsed. -/
import Derived.Test.YtklhmnejmbgmjacDoorVecPB
import Derived.Test.YtklhmnejmbgmjacDoorVecO
import Derived.Test.YtklhmnejmbgmjacDoorGcdA
namespace Go.Proofs.YtklhmnejmbgmjacDoor
open Go.RowKit Limbs

/-- The library's variable holds some number. -/
def MaxLenSet (w : World) : Prop := ∃ m, w.cell? ⟨0, 0, none⟩ = some (.int .i64 m)

theorem MaxLenSet.below {w w' : World} (h : MaxLenSet w) (hb : Below w.heap.size w w') : MaxLenSet w' := by
  obtain ⟨m, hm⟩ := h
  exact ⟨m, (hb.cell (World.block_lt_of_cell? _ _ hm)).trans hm⟩

/-- What stands between the brackets. -/
structure Brack (s l : ByteArray) : Prop where
  size : s.size = l.size + 2
  first : byt s 0 = 40
  last : byt s (l.size + 1) = 41
  inner : s.extract 1 (l.size + 1) = l

theorem brack_any (l : List UInt8) : Brack ⟨(40 :: (l ++ [41])).toArray⟩ ⟨l.toArray⟩ where
  size := by show (40 :: (l ++ [41])).length = l.length + 2; simp
  first := by rw [byt_list]; rfl
  last := by
    rw [byt_list]
    show (((40 :: (l ++ [41]))[l.length + 1]?).map _).getD 0 = 41
    simp
  inner := by
    rw [Lib.extract_eq]
    show (⟨(((40 :: (l ++ [41])).drop 1).take (l.length + 1 - 1)).toArray⟩ : ByteArray) = _
    simp

theorem brack_vtxt (zs : List Int) : Brack ⟨(vtxt zs).toArray⟩ ⟨(Lib.join (zs.map txt) [32]).toArray⟩ := brack_any _

set_option maxRecDepth 100000 in
set_option maxHeartbeats 1600000 in
theorem parseV_any (w : World) (zs : List Int) (hm : MaxLenSet w) (h0 : 0 < zs.length) (h8 : zs.length ≤ 8) (hd : ∀ z ∈ zs, (txt z).length ≤ 400) (hlen : (Lib.join (zs.map txt) [32]).length ≤ 100000) :
    Calls Tryd.prog 14 #[.string ⟨(vtxt zs).toArray⟩] w fun e w' => ∃ v, e = .returned (.tuple #[v, .nilIface]) ∧ VecN w' v zs 400 ∧ Below w.heap.size w w' := by
  have hne : zs ≠ [] := List.length_pos_iff.1 h0
  obtain ⟨hs1, hs2, hs3, hs4⟩ := brack_vtxt zs
  obtain ⟨hp1, hp2⟩ := split_vec zs hne
  have HCJ := hide (count_join (zs.map txt) (by simpa using hne) (txts_no_blank zs))
  rw [List.length_map] at HCJ
  have HLN : Hid ((⟨(Lib.join (zs.map txt) [32]).toArray⟩ : ByteArray).data.toList = Lib.join (zs.map txt) [32]) := by show _ = _; simp
  rw [← HLN.out] at HCJ
  have hll : (⟨(Lib.join (zs.map txt) [32]).toArray⟩ : ByteArray).size ≤ 100000 := by show (Lib.join (zs.map txt) [32]).toArray.size ≤ _; simpa using hlen
  clear HLN hlen
  generalize (⟨(Lib.join (zs.map txt) [32]).toArray⟩ : ByteArray) = l at *
  generalize (⟨(vtxt zs).toArray⟩ : ByteArray) = s at *
  have HP1 := hide hp1; have HP2 := hide hp2; have HM := hide hm; have HD := hide hd
  have g0 : 0 < s.size := by omega
  have g1 : l.size + 1 < s.size := by omega
  have e0 : (((s[0]'g0).toNat : Int)) = 40 := by rw [byt_eq g0]; exact hs2
  have e1 : (((s[l.size + 1]'g1).toNat : Int)) = 41 := by rw [byt_eq g1]; exact hs3
  have hsz : (s.size : Int) = (l.size : Int) + 2 := by omega
  have HC : Hid (Lib.countByte l.data.toList 32 + 1 = zs.length) := HCJ.out
  clear hp1 hp2 hm hd hs2 hs3 HCJ
  go_enter Tryd.func14, Tryd.ntmps14
  go_wp2_with fail
  refine (Go.Proofs.Tryd.strings_Count_one l 32 w).mono ?_
  rintro e w0 ⟨rfl, rfl⟩
  have hc : Lib.countByte l.data.toList 32 + 1 = zs.length := HC.out
  clear HC
  generalize Lib.countByte l.data.toList 32 = c at *
  have hc8 : ¬ ((8 : Int) ≤ (c : Int)) := by omega
  have hc8' : decide ((8 : Int) ≤ (c : Int)) = false := decide_eq_false hc8
  go_wp2_with fail
  obtain ⟨ml, hml⟩ := HM.out
  refine (Go.Proofs.Tryd.strings_Split l ⟨#[32]⟩ ml w0 (by omega) hml (by decide)).mono ?_
  rintro e w1 ⟨rfl, hw1⟩
  rw [HP1.out] at hw1
  rw [HP2.out]
  have HB1 : Hid (Below w0.heap.size w0 w1) := by rw [hw1]; exact (Below.refl _ _).alloc (Nat.le_refl _) _
  have HST : Hid (∀ k, k < zs.length → w1.cell? ⟨w0.heap.size, k, none⟩ = some (.string ⟨(txt (zs.getD k 0)).toArray⟩)) := fun k hk => by
    rw [hw1, World.cell?_alloc_new]
    simp [List.getD_eq_getElem?_getD, hk, btxt]
  have hlt : w0.heap.size < w1.heap.size := by rw [hw1]; simp
  have hmk := run_mkV zs.length (by omega)
  have HI := hide (VecO.made w1 w1 (Below.refl _ _) zs.length 400)
  clear hw1 hml HP1 HP2
  go_wp2
  clear hmk
  go_loopw [43] (fun i wr => ∃ k : Nat, k ≤ zs.length ∧ i = .int .i64 k ∧ VecO w1 wr w1.heap.size (zs.take k ++ List.replicate (zs.length - k) 0) 400) (fun i _ => zs.length - (intOf i).toNat)
  case atStart => exact ⟨0, Nat.zero_le _, rfl, HI.out⟩
  case round =>
    clear HI
    obtain ⟨k, hk, rfl, hinv⟩ := hrel
    have HI := hide hinv
    clear hinv
    by_cases hkl : k < zs.length
    · have hs0 : wr.cell? ⟨w0.heap.size, k, none⟩ = some (.string ⟨(txt (zs.getD k 0)).toArray⟩) := (HI.out.below.cell (p := ⟨w0.heap.size, k, none⟩) hlt).trans (HST.out k hkl)
      have HZ : Hid ((txt (zs.getD k 0)).length ≤ 400) := HD.out _ (by rw [List.getD_eq_getElem?_getD, List.getElem?_eq_getElem hkl]; exact List.getElem_mem hkl)
      have HFS := hide (fill_step zs k hkl)
      have hfl := fill_len zs k hk
      generalize zs.getD k 0 = z at *
      go_wp2_with fail
      refine (parse_txt wr z HZ.out).mono ?_
      rintro e w2 ⟨n, hn, v, rfl, hv, hb⟩
      obtain ⟨r, rfl⟩ := hv.nm
      have HI2 := hide (HI.out.later hb)
      obtain ⟨neg0, o0, l0, c0, k0, k1, -⟩ := HI2.out.at k (by omega)
      have f0 := HI2.out.thaw (k * 2)
      have f1 := HI2.out.thaw (k * 2 + 1)
      have hP := HI2.out.lt
      have HN := hide ((HI2.out.set (k := k) (by omega) (hv.mono hn)).later ((Below.refl _ _).alloc (Nat.le_refl _) (.cells #[.bool r.neg, .slice r.o r.l r.c] 24)))
      rw [HFS.out] at HN
      clear hb hv HI HI2 HFS HZ hs0
      go_wp2
      go_roundw
      case rel => exact ⟨k + 1, by omega, by go_num, HN.out⟩
      case measure => simp [intOf]; omega
    · obtain rfl : k = zs.length := by omega
      have HF : Hid (VecN wr (.slice (some ⟨w1.heap.size, 0, none⟩) zs.length zs.length) zs 400 ∧ Below w0.heap.size w0 wr) := by
        have := HI.out
        rw [List.take_length, Nat.sub_self, List.replicate_zero, List.append_nil] at this
        exact ⟨this.vec, HB1.out.trans (this.below.mono HB1.out.size)⟩
      clear HI HST HB1
      go_wp2
      exact bodyPost_ret (v := .tuple #[.slice (some ⟨w1.heap.size, 0, none⟩) zs.length zs.length, .nilIface]) (by simp [results, Tryd.results14, go_sem]) rfl ⟨_, rfl, HF.out.1, HF.out.2⟩

end Go.Proofs.YtklhmnejmbgmjacDoor
