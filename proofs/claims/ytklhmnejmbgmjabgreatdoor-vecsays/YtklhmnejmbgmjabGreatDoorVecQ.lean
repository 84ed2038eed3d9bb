/- A vector's text, parsed. -/
import Derived.Test.YtklhmnejmbgmjabGreatDoorPieces
import Derived.Test.YtklhmnejmbgmjabGreatDoorVecO
import Derived.Test.YtklhmnejmbgmjabGreatDoorGcdA

namespace Go.Proofs.YtklhmnejmbgmjabGreatDoor
open Go.RowKit Limbs

/-- The library's variable holds some number. -/
def MaxLenSet (w : World) : Prop := ∃ m, w.cell? ⟨0, 0, none⟩ = some (.int .i64 m)

theorem MaxLenSet.below {w w' : World} (h : MaxLenSet w) (hb : Below w.heap.size w w') : MaxLenSet w' := by
  obtain ⟨m, hm⟩ := h
  exact ⟨m, (hb.cell (World.block_lt_of_cell? _ _ hm)).trans hm⟩

/-- What stands between the brackets. -/
structure Brack (s l : ByteArray) : Prop where
  size : s.size = l.size + 2
  first : byt s 0 = 40
  last : byt s (l.size + 1) = 41
  inner : s.extract 1 (l.size + 1) = l

theorem brack_any (l : List UInt8) : Brack ⟨(40 :: (l ++ [41])).toArray⟩ ⟨l.toArray⟩ where
  size := by show (40 :: (l ++ [41])).length = l.length + 2; simp
  first := by rw [byt_list]; rfl
  last := by
    rw [byt_list]
    show (((40 :: (l ++ [41]))[l.length + 1]?).map _).getD 0 = 41
    simp
  inner := by
    rw [Lib.extract_eq]
    show (⟨(((40 :: (l ++ [41])).drop 1).take (l.length + 1 - 1)).toArray⟩ : ByteArray) = _
    simp

theorem brack_vtxt (zs : List Int) : Brack ⟨(vtxt zs).toArray⟩ ⟨(Lib.join (zs.map txt) [32]).toArray⟩ := brack_any _

set_option maxRecDepth 100000 in
set_option maxHeartbeats 1600000 in
theorem parseV_any (w : World) (zs : List Int) (hm : MaxLenSet w) (h0 : 0 < zs.length) (h8 : zs.length ≤ 8) (hd : ∀ z ∈ zs, (txt z).length ≤ 400) (hlen : (Lib.join (zs.map txt) [32]).length ≤ 100000) :
    Calls Tryz.prog 14 #[.string ⟨(vtxt zs).toArray⟩] w fun e w' => ∃ v, e = .returned (.tuple #[v, .nilIface]) ∧ VecN w' v zs 400 ∧ Below w.heap.size w w' := by
  have hne : zs ≠ [] := List.length_pos_iff.1 h0
  obtain ⟨hs1, hs2, hs3, hs4⟩ := brack_vtxt zs
  obtain ⟨hp1, hp2⟩ := split_vec zs hne
  have HCJ := hide (count_join (zs.map txt) (by simpa using hne) (txts_no_blank zs))
  rw [List.length_map] at HCJ
  have HLN : Hid ((⟨(Lib.join (zs.map txt) [32]).toArray⟩ : ByteArray).data.toList = Lib.join (zs.map txt) [32]) := by show _ = _; simp
  rw [← HLN.out] at HCJ
  have hll : (⟨(Lib.join (zs.map txt) [32]).toArray⟩ : ByteArray).size ≤ 100000 := by show (Lib.join (zs.map txt) [32]).toArray.size ≤ _; simpa using hlen
  clear HLN hlen
  generalize (⟨(Lib.join (zs.map txt) [32]).toArray⟩ : ByteArray) = l at *
  generalize (⟨(vtxt zs).toArray⟩ : ByteArray) = s at *
  have HP1 := hide hp1; have HP2 := hide hp2; have HM := hide hm; have HD := hide hd
  have g0 : 0 < s.size := by omega
  have g1 : l.size + 1 < s.size := by omega
  have e0 : (((s[0]'g0).toNat : Int)) = 40 := by rw [byt_eq g0]; exact hs2
  have e1 : (((s[l.size + 1]'g1).toNat : Int)) = 41 := by rw [byt_eq g1]; exact hs3
  have hsz : (s.size : Int) = (l.size : Int) + 2 := by omega
  have HC : Hid (Lib.countByte l.data.toList 32 + 1 = zs.length) := HCJ.out
  clear hp1 hp2 hm hd hs2 hs3 HCJ
  go_enter Tryz.func14, Tryz.ntmps14
  go_wp2_with fail
  refine (Go.Proofs.Tryz.strings_Count_one l 32 w).mono ?_
  rintro e w0 ⟨rfl, rfl⟩
  have hc : Lib.countByte l.data.toList 32 + 1 = zs.length := HC.out
  clear HC
  generalize Lib.countByte l.data.toList 32 = c at *
  have hc8 : ¬ ((8 : Int) ≤ (c : Int)) := by omega
  have hc8' : decide ((8 : Int) ≤ (c : Int)) = false := decide_eq_false hc8
  go_wp2_with fail
  obtain ⟨ml, hml⟩ := HM.out
  refine (Go.Proofs.Tryz.strings_Split l ⟨#[32]⟩ ml w0 (by omega) hml (by decide)).mono ?_
  rintro e w1 ⟨rfl, hw1⟩
  rw [HP1.out] at hw1
  rw [HP2.out]
  have HB1 : Hid (Below w0.heap.size w0 w1) := by rw [hw1]; exact (Below.refl _ _).alloc (Nat.le_refl _) _
  have HST : Hid (∀ k, k < zs.length → w1.cell? ⟨w0.heap.size, k, none⟩ = some (.string ⟨(txt (zs.getD k 0)).toArray⟩)) := fun k hk => by
    rw [hw1, World.cell?_alloc_new]
    simp [List.getD_eq_getElem?_getD, hk, btxt]
  have hlt : w0.heap.size < w1.heap.size := by rw [hw1]; simp
  have hmk := run_mkV zs.length (by omega)
  have HI := hide (VecO.made w1 w1 (Below.refl _ _) zs.length 400)
  clear hw1 hml HP1 HP2
  go_wp2
  clear hmk
  go_loopw [43] (fun i wr => ∃ k : Nat, k ≤ zs.length ∧ i = .int .i64 k ∧ VecO w1 wr w1.heap.size (zs.take k ++ List.replicate (zs.length - k) 0) 400) (fun i _ => zs.length - (intOf i).toNat)
  case atStart => exact ⟨0, Nat.zero_le _, rfl, HI.out⟩
  case round =>
    clear HI
    obtain ⟨k, hk, rfl, hinv⟩ := hrel
    have HI := hide hinv
    clear hinv
    by_cases hkl : k < zs.length
    · have hs0 : wr.cell? ⟨w0.heap.size, k, none⟩ = some (.string ⟨(txt (zs.getD k 0)).toArray⟩) := (HI.out.below.cell (p := ⟨w0.heap.size, k, none⟩) hlt).trans (HST.out k hkl)
      have HZ : Hid ((txt (zs.getD k 0)).length ≤ 400) := HD.out _ (by rw [List.getD_eq_getElem?_getD, List.getElem?_eq_getElem hkl]; exact List.getElem_mem hkl)
      have HFS := hide (fill_step zs k hkl)
      have hfl := fill_len zs k hk
      generalize zs.getD k 0 = z at *
      go_wp2_with fail
      refine (parse_txt wr z HZ.out).mono ?_
      rintro e w2 ⟨n, hn, v, rfl, hv, hb⟩
      obtain ⟨r, rfl⟩ := hv.nm
      have HI2 := hide (HI.out.later hb)
      obtain ⟨neg0, o0, l0, c0, k0, k1, -⟩ := HI2.out.at k (by omega)
      have f0 := HI2.out.thaw (k * 2)
      have f1 := HI2.out.thaw (k * 2 + 1)
      have hP := HI2.out.lt
      have HN := hide ((HI2.out.set (k := k) (by omega) (hv.mono hn)).later ((Below.refl _ _).alloc (Nat.le_refl _) (.cells #[.bool r.neg, .slice r.o r.l r.c] 26)))
      rw [HFS.out] at HN
      clear hb hv HI HI2 HFS HZ hs0
      go_wp2
      go_roundw
      case rel => exact ⟨k + 1, by omega, by go_num, HN.out⟩
      case measure => simp [intOf]; omega
    · obtain rfl : k = zs.length := by omega
      have HF : Hid (VecN wr (.slice (some ⟨w1.heap.size, 0, none⟩) zs.length zs.length) zs 400 ∧ Below w0.heap.size w0 wr) := by
        have := HI.out
        rw [List.take_length, Nat.sub_self, List.replicate_zero, List.append_nil] at this
        exact ⟨this.vec, HB1.out.trans (this.below.mono HB1.out.size)⟩
      clear HI HST HB1
      go_wp2
      exact bodyPost_ret (v := .tuple #[.slice (some ⟨w1.heap.size, 0, none⟩) zs.length zs.length, .nilIface]) (by simp [results, Tryz.results14, go_sem]) rfl ⟨_, rfl, HF.out.1, HF.out.2⟩

end Go.Proofs.YtklhmnejmbgmjabGreatDoor

/- Any text, parsed as a vector. -/
namespace Go.Proofs.YtklhmnejmbgmjabGreatDoor
open Go.RowKit Limbs

/-- What is said of a vector's text. -/
def PVPost (w : World) (o : Except Int (List Int)) (e : Ending) (w' : World) : Prop :=
  match o with
  | .error n => e = .returned (.tuple #[.slice none 0 0, .iface 76 (.int .i64 n)]) ∧ Below w.heap.size w w'
  | .ok zs => ∃ v, e = .returned (.tuple #[v, .nilIface]) ∧ VecN w' v zs 400 ∧ Below w.heap.size w w'

set_option maxRecDepth 100000 in
set_option maxHeartbeats 1600000 in
theorem parseV_bad (w : World) (s : ByteArray) (hs : s.size ≤ 100000) (h : s.size < 2 ∨ byt s 0 ≠ 40 ∨ byt s (s.size - 1) ≠ 41) :
    Calls Tryz.prog 14 #[.string s] w fun e w' => PVPost w (.error 5) e w' := by
  have HF : Hid (PVPost w (.error 5) (.returned (.tuple #[.slice none 0 0, .iface 76 (.int .i64 5)])) w) := ⟨rfl, Below.refl _ _⟩
  by_cases h2 : s.size < 2
  · have hi : (s.size : Int) < 2 := by omega
    have hd : decide ((s.size : Int) < 2) = true := decide_eq_true hi
    clear h
    go_enter Tryz.func14, Tryz.ntmps14
    go_wp2
    exact bodyPost_ret (v := .tuple #[.slice none 0 0, .iface 76 (.int .i64 5)]) (by simp [results, Tryz.results14, go_sem]) rfl HF.out
  · have hd : decide ((s.size : Int) < 2) = false := decide_eq_false (by omega)
    have g0 : 0 < s.size := by omega
    by_cases h3 : byt s 0 = 40
    · have h4 : byt s (s.size - 1) ≠ 41 := by rcases h with h | h | h; exact absurd h h2; exact absurd h3 h; exact h
      obtain ⟨m, hm⟩ : ∃ m, s.size = m + 2 := ⟨s.size - 2, by omega⟩
      have g1 : m + 1 < s.size := by omega
      rw [hm, show m + 2 - 1 = m + 1 by omega] at h4
      have e0 : (((s[0]'g0).toNat : Int)) = 40 := by rw [byt_eq g0]; exact h3
      have e1 : (((s[m + 1]'g1).toNat : Int) == 41) = false := by rw [byt_eq g1, beq_eq_false_iff_ne]; exact h4
      have e2 : (((s[m + 1]'g1).toNat : Int) != 41) = true := by rw [byt_eq g1, bne_iff_ne]; exact h4
      have e3 : ¬ (((s[m + 1]'g1).toNat : Int) = 41) := by rw [byt_eq g1]; exact h4
      have hsz : (s.size : Int) = (m : Int) + 2 := by omega
      rw [hsz] at hd
      clear h h2 h3 h4
      go_enter Tryz.func14, Tryz.ntmps14
      go_wp2
      exact bodyPost_ret (v := .tuple #[.slice none 0 0, .iface 76 (.int .i64 5)]) (by simp [results, Tryz.results14, go_sem]) rfl HF.out
    · have e1 : (((s[0]'g0).toNat : Int) == 40) = false := by rw [byt_eq g0, beq_eq_false_iff_ne]; exact h3
      have e2 : (((s[0]'g0).toNat : Int) != 40) = true := by rw [byt_eq g0, bne_iff_ne]; exact h3
      have e3 : ¬ (((s[0]'g0).toNat : Int) = 40) := by rw [byt_eq g0]; exact h3
      clear h h2 h3
      go_enter Tryz.func14, Tryz.ntmps14
      go_wp2
      exact bodyPost_ret (v := .tuple #[.slice none 0 0, .iface 76 (.int .i64 5)]) (by simp [results, Tryz.results14, go_sem]) rfl HF.out

theorem brack_of {s : ByteArray} (h2 : s.size ≥ 2) (h0 : byt s 0 = 40) (h1 : byt s (s.size - 1) = 41) : Brack s (s.extract 1 (s.size - 1)) := by
  have hs : (s.extract 1 (s.size - 1)).size = s.size - 2 := by rw [ByteArray.size_extract]; omega
  refine ⟨by omega, h0, ?_, ?_⟩
  · rw [hs, show s.size - 2 + 1 = s.size - 1 by omega]; exact h1
  · rw [hs, show s.size - 2 + 1 = s.size - 1 by omega]

/-- The parts of a text behind its cut. -/
def OptInv (w1 wr : World) (os : List (Option Int)) (k : Nat) : Prop :=
  VecO w1 wr w1.heap.size ((os.map (·.getD 0)).take k ++ List.replicate (os.length - k) 0) 400 ∧ none ∉ os.take k

set_option maxRecDepth 100000 in
set_option maxHeartbeats 1600000 in
theorem parseV_in (w : World) (s l : ByteArray) (o : Except Int (List Int)) (hm : MaxLenSet w) (hs : s.size ≤ 300) (hbr : Brack s l)
    (ho : (8 < (pieces l.data.toList).length ∧ o = .error 6) ∨ ((pieces l.data.toList).length ≤ 8 ∧ ∃ os, RdAll ((pieces l.data.toList).map bytes) os ∧ ((none ∈ os ∧ o = .error 5) ∨ (none ∉ os ∧ o = .ok (os.map (·.getD 0)))))) :
    Calls Tryz.prog 14 #[.string s] w fun e w' => PVPost w o e w' := by
  obtain ⟨hs1, hs2, hs3, hs4⟩ := hbr
  obtain ⟨hp1, hp2, hp3⟩ := split_pieces l
  have HSZ := hide (pieces_size l.data.toList)
  have hll : l.data.toList.length ≤ 300 := by show l.size ≤ 300; omega
  have hpn : 0 < (pieces l.data.toList).length := List.length_pos_iff.2 (pieces_ne _)
  generalize hps : pieces l.data.toList = ps at *
  have HP1 := hide hp1; have HP2 := hide hp2; have HP3 := hide hp3; have HM := hide hm; have HO := hide ho
  have g0 : 0 < s.size := by omega
  have g1 : l.size + 1 < s.size := by omega
  have e0 : (((s[0]'g0).toNat : Int)) = 40 := by rw [byt_eq g0]; exact hs2
  have e1 : (((s[l.size + 1]'g1).toNat : Int)) = 41 := by rw [byt_eq g1]; exact hs3
  have hsz : (s.size : Int) = (l.size : Int) + 2 := by omega
  clear hp1 hp2 hp3 hm hs2 hs3 ho hps
  go_enter Tryz.func14, Tryz.ntmps14
  go_wp2_with fail
  refine (Go.Proofs.Tryz.strings_Count_one l 32 w).mono ?_
  rintro e w0 ⟨rfl, rfl⟩
  have hc : Lib.countByte l.data.toList 32 + 1 = ps.length := HP3.out
  clear HP3
  generalize Lib.countByte l.data.toList 32 = c at *
  rcases HO.out with ⟨h8, rfl⟩ | ⟨h8, os, hrd, ho⟩
  · have hc8 : (8 : Int) ≤ (c : Int) := by omega
    have hc8' : decide ((8 : Int) ≤ (c : Int)) = true := decide_eq_true hc8
    have HF : Hid (PVPost w0 (.error 6) (.returned (.tuple #[.slice none 0 0, .iface 76 (.int .i64 6)])) w0) := ⟨rfl, Below.refl _ _⟩
    clear HO HM HP1 HP2 HSZ
    go_wp2
    exact bodyPost_ret (v := .tuple #[.slice none 0 0, .iface 76 (.int .i64 6)]) (by simp [results, Tryz.results14, go_sem]) rfl HF.out
  have hc8 : ¬ ((8 : Int) ≤ (c : Int)) := by omega
  have hc8' : decide ((8 : Int) ≤ (c : Int)) = false := decide_eq_false hc8
  have HRD := hide hrd
  have HOO := hide ho
  have hol : os.length = ps.length := by have := hrd.1; rwa [List.length_map] at this
  clear HO hrd ho
  go_wp2_with fail
  obtain ⟨ml, hml⟩ := HM.out
  refine (Go.Proofs.Tryz.strings_Split l ⟨#[32]⟩ ml w0 (by omega) hml (by decide)).mono ?_
  rintro e w1 ⟨rfl, hw1⟩
  rw [HP1.out] at hw1
  rw [HP2.out]
  have HB1 : Hid (Below w0.heap.size w0 w1) := by rw [hw1]; exact (Below.refl _ _).alloc (Nat.le_refl _) _
  have HST : Hid (∀ k, k < ps.length → w1.cell? ⟨w0.heap.size, k, none⟩ = some (.string ((ps.map bytes).getD k ByteArray.empty))) := fun k hk => by
    rw [hw1, World.cell?_alloc_new]
    simp [List.getD_eq_getElem?_getD, hk]
  have HPS : Hid (∀ k, k < ps.length → ((ps.map bytes).getD k ByteArray.empty).size ≤ 400) := fun k hk => by
    have := HSZ.out ps[k] (List.getElem_mem hk)
    rw [List.getD_eq_getElem?_getD, List.getElem?_map, List.getElem?_eq_getElem hk]
    show ps[k].length ≤ 400
    omega
  have hlt : w0.heap.size < w1.heap.size := by rw [hw1]; simp
  have hmk := run_mkV ps.length (by omega)
  have HI : Hid (OptInv w1 (w1.alloc (.cells (madeCells #[.bool false, .slice none 0 0] (ps.length * 2)) 26)) os 0) := by
    refine ⟨?_, by simp⟩
    have := VecO.made w1 w1 (Below.refl _ _) ps.length 400
    rw [← hol] at this
    rw [List.take_zero, List.nil_append, Nat.sub_zero, ← hol]
    exact this
  clear hw1 hml HP1 HP2 HSZ
  go_wp2
  clear hmk
  go_loopw [43] (fun i wr => ∃ k : Nat, k ≤ ps.length ∧ i = .int .i64 k ∧ OptInv w1 wr os k) (fun i _ => ps.length - (intOf i).toNat)
  case atStart => exact ⟨0, Nat.zero_le _, rfl, HI.out⟩
  case round =>
    clear HI
    obtain ⟨k, hk, rfl, hinv⟩ := hrel
    have HI := hide hinv
    clear hinv
    by_cases hkl : k < ps.length
    · have hs0 : wr.cell? ⟨w0.heap.size, k, none⟩ = some (.string ((ps.map bytes).getD k ByteArray.empty)) := (HI.out.1.below.cell (p := ⟨w0.heap.size, k, none⟩) hlt).trans (HST.out k hkl)
      have HZ := hide (HPS.out k hkl)
      have HR := hide (HRD.out.2 k (by rw [List.length_map]; exact hkl))
      have hmo : (os.map (·.getD 0)).length = ps.length := by rw [List.length_map]; exact hol
      generalize (ps.map bytes).getD k ByteArray.empty = p at *
      go_wp2_with fail
      refine (parse_rd wr p _ HZ.out HR.out).mono ?_
      rintro e w2 ⟨hp1, hp2⟩
      cases hok : os.getD k none with
      | none =>
        obtain ⟨rfl, hb⟩ := hp2 hok
        have HE : Hid (o = .error 5) := by
          rcases HOO.out with ⟨-, h⟩ | ⟨h, -⟩
          · exact h
          · refine absurd ?_ h
            rw [List.getD_eq_getElem?_getD, List.getElem?_eq_getElem (by omega), Option.getD_some] at hok
            rw [← hok]
            exact List.getElem_mem _
        obtain rfl := HE.out
        have HF : Hid (∀ ob, PVPost w0 (.error 5) (.returned (.tuple #[.slice none 0 0, .iface 76 (.int .i64 5)])) (w2.alloc ob)) := fun ob =>
          ⟨rfl, HB1.out.trans ((HI.out.1.below.trans (hb.mono HI.out.1.below.size)).mono HB1.out.size |>.alloc (by have := HB1.out.size; have := HI.out.1.below.size; have := hb.size; omega) _)⟩
        clear hp1 hp2 hb HE HI HZ HR hs0 hok
        go_wp2
        exact bodyPost_ret (v := .tuple #[.slice none 0 0, .iface 76 (.int .i64 5)]) (by simp [results, Tryz.results14, go_sem]) rfl (HF.out _)
      | some z =>
        obtain ⟨v, rfl, hv, hb⟩ := hp1 z hok
        obtain ⟨r, rfl⟩ := hv.nm
        have HI2 := hide (HI.out.1.later hb)
        have hfl : ((os.map (fun q : Option Int => q.getD 0)).take k ++ List.replicate (os.length - k) 0).length = ps.length := by
          have := fill_len (os.map (·.getD 0)) k (by omega)
          rw [List.length_map] at this
          omega
        obtain ⟨neg0, o0, l0, c0, k0, k1, -⟩ := HI2.out.at k (by omega)
        have f0 := HI2.out.thaw (k * 2)
        have f1 := HI2.out.thaw (k * 2 + 1)
        have hP := HI2.out.lt
        have HN : Hid (OptInv w1 (((w2.setCell ⟨w1.heap.size, k * 2, none⟩ (.bool r.neg)).setCell ⟨w1.heap.size, k * 2 + 1, none⟩ (.slice r.o r.l r.c)).alloc (.cells #[.bool r.neg, .slice r.o r.l r.c] 26)) os (k + 1)) := by
          have h1 := (HI2.out.set (k := k) (by omega) hv).later ((Below.refl _ _).alloc (Nat.le_refl _) (.cells #[.bool r.neg, .slice r.o r.l r.c] 26))
          have h2 := fill_step (os.map (·.getD 0)) k (by omega)
          have h3 : (os.map (·.getD 0)).getD k 0 = z := by
            rw [List.getD_eq_getElem?_getD, List.getElem?_eq_getElem (by omega), Option.getD_some] at hok
            rw [List.getD_eq_getElem?_getD, List.getElem?_map, List.getElem?_eq_getElem (by omega), hok]
            rfl
          rw [h3, List.length_map] at h2
          rw [h2] at h1
          exact ⟨h1, opt_take (by omega) HI.out.2 hok⟩
        clear hp1 hp2 hb hv HI HI2 HZ HR hs0 hok
        go_wp2
        go_roundw
        case rel => exact ⟨k + 1, by omega, by go_num, HN.out⟩
        case measure => simp [intOf]; omega
    · obtain rfl : k = ps.length := by omega
      have HE : Hid (o = .ok (os.map (·.getD 0))) := by
        rcases HOO.out with ⟨h, -⟩ | ⟨-, h⟩
        · have := HI.out.2
          rw [← hol, List.take_length] at this
          exact absurd h this
        · exact h
      obtain rfl := HE.out
      have HF : Hid (PVPost w0 (.ok (os.map (·.getD 0))) (.returned (.tuple #[.slice (some ⟨w1.heap.size, 0, none⟩) ps.length ps.length, .nilIface])) wr) := by
        have := HI.out.1
        have hmo : (os.map (fun q : Option Int => q.getD 0)).length = ps.length := by rw [List.length_map]; exact hol
        rw [← hmo, List.take_length, List.length_map, Nat.sub_self, List.replicate_zero, List.append_nil] at this
        exact ⟨_, rfl, by rw [← hmo]; exact this.vec, HB1.out.trans (this.below.mono HB1.out.size)⟩
      clear HI HE HST HB1
      go_wp2
      exact bodyPost_ret (v := .tuple #[.slice (some ⟨w1.heap.size, 0, none⟩) ps.length ps.length, .nilIface]) (by simp [results, Tryz.results14, go_sem]) rfl HF.out

theorem parseV_gen (w : World) (s : ByteArray) (o : Except Int (List Int)) (hm : MaxLenSet w) (hs : s.size ≤ 300) (ho : SpecV s o) :
    Calls Tryz.prog 14 #[.string s] w fun e w' => PVPost w o e w' := by
  rcases ho with ⟨h, rfl⟩ | ⟨h2, h0, h1, h8, rfl⟩ | ⟨h2, h0, h1, h8, h⟩
  · exact parseV_bad w s (by omega) h
  · exact parseV_in w s _ _ hm hs (brack_of h2 h0 h1) (.inl ⟨h8, rfl⟩)
  · exact parseV_in w s _ _ hm hs (brack_of h2 h0 h1) (.inr ⟨h8, h⟩)

end Go.Proofs.YtklhmnejmbgmjabGreatDoor
