/- A number's text, read. -/
import Derived.Test.YtjblidoilphifabGreatDoorParseA
import Derived.Test.YtjblidoilphifabGreatDoorShelf
import Derived.Test.YtjblidoilphifabGreatDoorTextZ

namespace Go.Proofs.YtjblidoilphifabGreatDoor
open Go.RowKit Limbs

/-- What the first so many digits are. -/
def dval (s : ByteArray) : Nat → Int
  | 0 => 0
  | k + 1 => 10 * dval s k + (byt s k - 48)

def ErrPost (w : World) (n : Int) (e : Ending) (w' : World) : Prop :=
  e = .returned (.tuple #[.agg #[.bool false, .slice none 0 0], .iface 76 (.int .i64 n)]) ∧ Below w.heap.size w w'

def ReadPost (w : World) (z : Int) (n : Nat) (e : Ending) (w' : World) : Prop :=
  ∃ v, e = .returned (.tuple #[v, .nilIface]) ∧ NumL w' v z n ∧ Below w.heap.size w w'

set_option maxRecDepth 100000 in
set_option maxHeartbeats 1600000 in
theorem parse_long (w : World) (s : ByteArray) (h : 400 < s.size) (hs : s.size ≤ 9223372036854775807) :
    Calls Tryz.prog 52 #[.string s] w fun e w' => ErrPost w 2 e w' := by
  have HF : Hid (ErrPost w 2 (.returned (.tuple #[.agg #[.bool false, .slice none 0 0], .iface 76 (.int .i64 2)])) (w.alloc (.cells #[.bool false, .slice none 0 0] 26))) := ⟨rfl, (Below.refl _ _).alloc (Nat.le_refl _) _⟩
  have hd : decide ((400 : Int) < (s.size : Int)) = true := decide_eq_true (by omega)
  go_enter Tryz.func52, Tryz.ntmps52
  go_wp2
  exact bodyPost_ret (v := .tuple #[.agg #[.bool false, .slice none 0 0], .iface 76 (.int .i64 2)]) (by simp [results, Tryz.results52, go_sem]) rfl HF.out

set_option maxRecDepth 100000 in
set_option maxHeartbeats 1600000 in
theorem parse_bad (w : World) (s t : ByteArray) (neg : Bool) (h : s.size ≤ 400) (ht : (⟨(Lib.trimPrefix s.data.toList [45]).toArray⟩ : ByteArray) = t) (hn : Lib.hasPrefix s.data.toList [45] = neg) (hts : t.size ≤ 400) (hbad : ¬ isDec t ∨ (neg = true ∧ t = ⟨#[48]⟩)) :
    Calls Tryz.prog 52 #[.string s] w fun e w' => ErrPost w 5 e w' := by
  have HF : Hid (ErrPost w 5 (.returned (.tuple #[.agg #[.bool false, .slice none 0 0], .iface 76 (.int .i64 5)])) (w.alloc (.cells #[.bool false, .slice none 0 0] 26))) := ⟨rfl, (Below.refl _ _).alloc (Nat.le_refl _) _⟩
  have hd : decide ((400 : Int) < (s.size : Int)) = false := decide_eq_false (by omega)
  have HT := hide ht; have HN := hide hn; clear ht hn
  have HBAD := hide hbad; clear hbad
  go_enter Tryz.func52, Tryz.ntmps52
  go_wp2_with fail
  refine (Tryz.strings_CutPrefix s ⟨#[45]⟩ _).mono ?_
  rintro e w1 ⟨rfl, rfl⟩
  rw [show (⟨#[45]⟩ : ByteArray).data.toList = [45] from rfl, HT.out, HN.out]
  go_wp2_with fail
  by_cases hdec : isDec t
  · obtain ⟨rfl, rfl⟩ : neg = true ∧ t = ⟨#[48]⟩ := by rcases HBAD.out with h | h; exact absurd hdec h; exact h
    refine (decimal_any _ _ hts true ⟨fun _ => hdec, fun _ => rfl⟩).mono ?_
    rintro e w1 ⟨rfl, rfl⟩
    clear HBAD hdec HT HN
    go_wp2
    exact bodyPost_ret (v := .tuple #[.agg #[.bool false, .slice none 0 0], .iface 76 (.int .i64 5)]) (by simp [results, Tryz.results52, go_sem]) rfl HF.out
  · refine (decimal_any _ _ hts false ⟨fun h => absurd h (by simp), fun h => absurd h hdec⟩).mono ?_
    rintro e w1 ⟨rfl, rfl⟩
    clear HBAD hdec HT HN
    go_wp2
    exact bodyPost_ret (v := .tuple #[.agg #[.bool false, .slice none 0 0], .iface 76 (.int .i64 5)]) (by simp [results, Tryz.results52, go_sem]) rfl HF.out

set_option maxRecDepth 100000 in
set_option maxHeartbeats 1600000 in
theorem parse_good (w : World) (s t : ByteArray) (neg : Bool) (h : s.size ≤ 400) (ht : (⟨(Lib.trimPrefix s.data.toList [45]).toArray⟩ : ByteArray) = t) (hn : Lib.hasPrefix s.data.toList [45] = neg) (hts : t.size ≤ 400) (hdec : isDec t) (hz : ¬ (neg = true ∧ t = ⟨#[48]⟩)) :
    Calls Tryz.prog 52 #[.string s] w fun e w' => ReadPost w (sg neg (dval t t.size)) t.size e w' := by
  have hd : decide ((400 : Int) < (s.size : Int)) = false := decide_eq_false (by omega)
  have HT := hide ht; have HN := hide hn; clear ht hn
  have HDEC := hide hdec; clear hdec
  have hzz : (neg && t.toList == [48]) = false := by
    cases neg with
    | false => rfl
    | true =>
      rw [Bool.true_and, beq_eq_false_iff_ne]
      intro e
      exact hz ⟨rfl, (str_eq t _).1 e⟩
  clear hz
  go_enter Tryz.func52, Tryz.ntmps52
  go_wp2_with fail
  refine (Tryz.strings_CutPrefix s ⟨#[45]⟩ _).mono ?_
  rintro e w1 ⟨rfl, rfl⟩
  rw [show (⟨#[45]⟩ : ByteArray).data.toList = [45] from rfl, HT.out, HN.out]
  have hW : Below w.heap.size w (w.alloc (.cells #[.bool false, .slice none 0 0] 26)) := (Below.refl _ _).alloc (Nat.le_refl _) _
  have hBX := box_new w (.bool false) (.slice none 0 0) 26 w.heap.size rfl
  have HW := hide hW; have HBX := hide hBX; clear hW hBX
  go_wp2_with fail
  refine (decimal_any _ _ hts true ⟨fun _ => HDEC.out, fun _ => rfl⟩).mono ?_
  rintro e w1 ⟨rfl, rfl⟩
  cases neg
  · clear hzz HT HN
    go_wp2
    go_loopw [6, 32] (fun l i wr => ∃ (k : Nat) (zs : List Int), k ≤ t.size ∧ i = .int .i64 k ∧ wr.ownsRow (w.heap.size + 1) 86 1 l zs.length (zs.map (Value.int .u32)) ∧ LB zs ∧ lv zs = dval t k ∧ zs.length ≤ k ∧ Below (w.heap.size + 1) (w.alloc (.cells #[.bool false, .slice none 0 0] 26)) wr) (fun _ i _ => t.size - (intOf i).toNat)
    case atStart => exact ⟨0, [], Nat.zero_le _, rfl, World.ownsRow_nil _ _ _ _, LB_nil, rfl, Nat.le_refl _, Below.refl _ _⟩
    case round =>
      obtain ⟨k, zs, hk, rfl, hown, hlb, hlv, hlen, hbel⟩ := hrel
      have HBX1 := hide (HBX.out.later hbel (by omega))
      have HW1 := hide (HW.out.trans (hbel.mono (by omega)))
      have hsz : w.heap.size + 1 ≤ wr.heap.size := by have := hbel.size; simp at this; omega
      have HLV := hide hlv; clear hlv
      by_cases hlt : k < t.size
      · have hby := HDEC.out.1 k hlt
        have HDV := hide (show dval t (k + 1) = 10 * dval t k + (((t[k]'hlt).toNat : Int) - 48) by rw [byt_eq hlt]; rfl)
        rw [← byt_eq hlt] at hby
        obtain ⟨hb0, hb1⟩ := hby
        have HBE := hide hbel
        have HOW := hide hown
        clear hbel hown HBX1 HW1
        go_wp2_with fail
        refine (appendDigit_any wr (w.heap.size + 1) _ zs _ HOW.out hlb (by omega) (by omega) (by omega) hsz).mono ?_
        rintro e w2 ⟨v', ys, rfl, hown', hlb', hlv', hlen', hbel'⟩
        have HF := hide (And.intro hown' (And.intro hlb' (And.intro (show lv ys = dval t (k + 1) by rw [hlv', HLV.out, HDV.out]) (HBE.out.trans hbel'))))
        clear hown' hlb' hlv' hbel' HOW HBE HLV HDV
        go_wp2
        go_roundw
        case rel => exact ⟨k + 1, ys, by omega, by go_num, HF.out.1, HF.out.2.1, HF.out.2.2.1, by omega, HF.out.2.2.2⟩
        case measure => simp [intOf]; omega
      · obtain rfl : k = t.size := by omega
        have HL := hide (Lim.owns hown hlb (by omega))
        clear hown hbel
        go_wp2_with fail
        refine (signed_any wr false _ zs t.size HL.out hlen).mono ?_
        rintro e w2 ⟨r, rfl, hr, hb2⟩
        obtain ⟨c0, c1, f0, f1⟩ := HBX1.out.later hb2 (by omega)
        rw [HLV.out] at hr
        have HR := hide hr
        obtain ⟨rn, rs, rz, rfl, hl', -⟩ := hr
        obtain ⟨ro, rcap, rfl, -⟩ := hl'
        have HF := hide (boxed (w := w) HR.out c0 c1 (by simp) (by simp) (HW1.out.trans (hb2.mono HW1.out.size)) (Nat.le_refl _))
        have HG : Hid (ReadPost w (sg false (dval t t.size)) t.size (.returned (.tuple #[.agg #[.bool rn, .slice ro rz.length rcap], .nilIface])) ((w2.setCell ⟨w.heap.size, 0, none⟩ (.bool rn)).setCell ⟨w.heap.size, 1, none⟩ (.slice ro rz.length rcap))) := by
          obtain ⟨v, h1, h2, h3⟩ := HF.out
          obtain rfl : v = .agg #[.bool rn, .slice ro rz.length rcap] := by injection h1 with h1; exact h1.symm
          exact ⟨_, rfl, h2, h3⟩
        clear HL HR HF HBX1 HW1 hb2
        go_wp2
        exact bodyPost_ret (v := .tuple #[.agg #[.bool rn, .slice ro rz.length rcap], .nilIface]) (by simp [results, Tryz.results52, go_sem, c0, c1]) rfl HG.out
  · have f3 : (t.toList == [48]) = false := by simpa using hzz
    clear hzz HT HN
    go_wp2
    go_loopw [6, 32] (fun l i wr => ∃ (k : Nat) (zs : List Int), k ≤ t.size ∧ i = .int .i64 k ∧ wr.ownsRow (w.heap.size + 1) 86 1 l zs.length (zs.map (Value.int .u32)) ∧ LB zs ∧ lv zs = dval t k ∧ zs.length ≤ k ∧ Below (w.heap.size + 1) (w.alloc (.cells #[.bool false, .slice none 0 0] 26)) wr) (fun _ i _ => t.size - (intOf i).toNat)
    case atStart => exact ⟨0, [], Nat.zero_le _, rfl, World.ownsRow_nil _ _ _ _, LB_nil, rfl, Nat.le_refl _, Below.refl _ _⟩
    case round =>
      obtain ⟨k, zs, hk, rfl, hown, hlb, hlv, hlen, hbel⟩ := hrel
      have HBX1 := hide (HBX.out.later hbel (by omega))
      have HW1 := hide (HW.out.trans (hbel.mono (by omega)))
      have hsz : w.heap.size + 1 ≤ wr.heap.size := by have := hbel.size; simp at this; omega
      have HLV := hide hlv; clear hlv
      by_cases hlt : k < t.size
      · have hby := HDEC.out.1 k hlt
        have HDV := hide (show dval t (k + 1) = 10 * dval t k + (((t[k]'hlt).toNat : Int) - 48) by rw [byt_eq hlt]; rfl)
        rw [← byt_eq hlt] at hby
        obtain ⟨hb0, hb1⟩ := hby
        have HBE := hide hbel
        have HOW := hide hown
        clear hbel hown HBX1 HW1
        go_wp2_with fail
        refine (appendDigit_any wr (w.heap.size + 1) _ zs _ HOW.out hlb (by omega) (by omega) (by omega) hsz).mono ?_
        rintro e w2 ⟨v', ys, rfl, hown', hlb', hlv', hlen', hbel'⟩
        have HF := hide (And.intro hown' (And.intro hlb' (And.intro (show lv ys = dval t (k + 1) by rw [hlv', HLV.out, HDV.out]) (HBE.out.trans hbel'))))
        clear hown' hlb' hlv' hbel' HOW HBE HLV HDV
        go_wp2
        go_roundw
        case rel => exact ⟨k + 1, ys, by omega, by go_num, HF.out.1, HF.out.2.1, HF.out.2.2.1, by omega, HF.out.2.2.2⟩
        case measure => simp [intOf]; omega
      · obtain rfl : k = t.size := by omega
        have HL := hide (Lim.owns hown hlb (by omega))
        clear hown hbel
        go_wp2_with fail
        refine (signed_any wr true _ zs t.size HL.out hlen).mono ?_
        rintro e w2 ⟨r, rfl, hr, hb2⟩
        obtain ⟨c0, c1, f0, f1⟩ := HBX1.out.later hb2 (by omega)
        rw [HLV.out] at hr
        have HR := hide hr
        obtain ⟨rn, rs, rz, rfl, hl', -⟩ := hr
        obtain ⟨ro, rcap, rfl, -⟩ := hl'
        have HF := hide (boxed (w := w) HR.out c0 c1 (by simp) (by simp) (HW1.out.trans (hb2.mono HW1.out.size)) (Nat.le_refl _))
        have HG : Hid (ReadPost w (sg true (dval t t.size)) t.size (.returned (.tuple #[.agg #[.bool rn, .slice ro rz.length rcap], .nilIface])) ((w2.setCell ⟨w.heap.size, 0, none⟩ (.bool rn)).setCell ⟨w.heap.size, 1, none⟩ (.slice ro rz.length rcap))) := by
          obtain ⟨v, h1, h2, h3⟩ := HF.out
          obtain rfl : v = .agg #[.bool rn, .slice ro rz.length rcap] := by injection h1 with h1; exact h1.symm
          exact ⟨_, rfl, h2, h3⟩
        clear HL HR HF HBX1 HW1 hb2
        go_wp2
        exact bodyPost_ret (v := .tuple #[.agg #[.bool rn, .slice ro rz.length rcap], .nilIface]) (by simp [results, Tryz.results52, go_sem, c0, c1]) rfl HG.out

end Go.Proofs.YtjblidoilphifabGreatDoor

/- A text, read by the program. -/
namespace Go.Proofs.YtjblidoilphifabGreatDoor
open Go.RowKit Limbs

/-- A text that is a number's. -/
def good (t : ByteArray) (neg : Bool) : Prop := isDec t ∧ ¬ (neg = true ∧ t = ⟨#[48]⟩)

/-- How a text falls into its sign and the rest. -/
def Falls (s t : ByteArray) (neg : Bool) : Prop :=
  (neg = true ∧ 1 < s.size ∧ byt s 0 = 45 ∧ s.extract 1 s.size = t ∧ t.size + 1 = s.size) ∨ (neg = false ∧ t = s ∧ ¬ (1 < s.size ∧ byt s 0 = 45))

theorem data_cons {s : ByteArray} (h : 0 < s.size) : ∃ x xs, s.data.toList = x :: xs ∧ byt s 0 = (x.toNat : Int) := by
  obtain ⟨⟨l⟩⟩ := s
  match l, h with
  | x :: xs, h => exact ⟨x, xs, rfl, by simp [byt, h]; rfl⟩

theorem cut_true {s : ByteArray} (h : 0 < s.size) (h45 : byt s 0 = 45) : Lib.hasPrefix s.data.toList [45] = true ∧ (⟨(Lib.trimPrefix s.data.toList [45]).toArray⟩ : ByteArray) = s.extract 1 s.size := by
  obtain ⟨x, xs, e, hx⟩ := data_cons h
  have hx' : x = 45 := UInt8.toNat_inj.1 (by have : (x.toNat : Int) = 45 := by omega
                                             have : (45 : UInt8).toNat = 45 := rfl
                                             omega)
  have hp : Lib.hasPrefix s.data.toList [45] = true := by rw [e, hx']; rfl
  refine ⟨hp, ?_⟩
  unfold Lib.trimPrefix
  rw [if_pos hp, Lib.extract_eq]
  have : (s.data.toList.drop 1).take (s.size - 1) = s.data.toList.drop 1 := List.take_of_length_le (by rw [List.length_drop]; exact Nat.le_refl _)
  rw [this]; rfl

theorem cut_false {s : ByteArray} (h : ¬ (0 < s.size ∧ byt s 0 = 45)) : Lib.hasPrefix s.data.toList [45] = false ∧ (⟨(Lib.trimPrefix s.data.toList [45]).toArray⟩ : ByteArray) = s := by
  have hp : Lib.hasPrefix s.data.toList [45] = false := by
    by_cases h0 : 0 < s.size
    · obtain ⟨x, xs, e, hx⟩ := data_cons h0
      rw [e]
      have hne : x ≠ 45 := fun e' => h ⟨h0, by rw [hx, e']; rfl⟩
      show ((45 : UInt8) == x && _) = false
      have : ((45 : UInt8) == x) = false := by rw [beq_eq_false_iff_ne]; exact fun e => hne e.symm
      rw [this]; rfl
    · rw [size_zero (show s.size = 0 by omega)]; rfl
  refine ⟨hp, ?_⟩
  unfold Lib.trimPrefix
  rw [if_neg (by rw [hp]; decide)]

/-- What the program says of a text. -/
def ReadPostP (w : World) (t : ByteArray) (neg : Bool) (e : Ending) (w' : World) : Prop :=
  (good t neg → ReadPost w (sg neg (dval t t.size)) t.size e w') ∧ (¬ good t neg → ErrPost w 5 e w')

theorem parse_any (w : World) (s t : ByteArray) (neg : Bool) (hs : s.size ≤ 400) (hF : Falls s t neg) :
    Calls Tryz.prog 52 #[.string s] w fun e w' => ReadPostP w t neg e w' := by
  rcases hF with ⟨rfl, h1, h45, ht, hts⟩ | ⟨rfl, rfl, hn⟩
  · obtain ⟨hp, he⟩ := cut_true (show 0 < s.size by omega) h45
    by_cases hg : good t true
    · exact (parse_good w s t true hs (he.trans ht) hp (by omega) hg.1 hg.2).mono fun e w' h => ⟨fun _ => h, fun h' => absurd hg h'⟩
    · refine (parse_bad w s t true hs (he.trans ht) hp (by omega) ?_).mono fun e w' h => ⟨fun h' => absurd h' hg, fun _ => h⟩
      by_cases hd : isDec t
      · exact .inr (Classical.byContradiction fun h => hg ⟨hd, h⟩)
      · exact .inl hd
  · by_cases h45 : 0 < t.size ∧ byt t 0 = 45
    · obtain ⟨hp, he⟩ := cut_true h45.1 h45.2
      have h1 : t.size = 1 := by
        rcases Nat.lt_or_ge 1 t.size with h | h
        · exact absurd ⟨h, h45.2⟩ hn
        · have := h45.1; omega
      have hg : ¬ good t false := fun hg => by have := (hg.1.1 0 h45.1).1; have := h45.2; omega
      refine (parse_bad w t _ true hs he hp (by rw [ByteArray.size_extract]; omega) (.inl fun hd => ?_)).mono fun e w' h => ⟨fun h' => absurd h' hg, fun _ => h⟩
      have hsz : (t.extract 1 t.size).size = 0 := by rw [ByteArray.size_extract]; omega
      rcases hd.2 with h | h
      · rw [h] at hsz; exact absurd hsz (by decide)
      · exact h.1 hsz
    · obtain ⟨hp, he⟩ := cut_false h45
      by_cases hg : good t false
      · exact (parse_good w t t false hs he hp hs hg.1 hg.2).mono fun e w' h => ⟨fun _ => h, fun h' => absurd hg h'⟩
      · refine (parse_bad w t t false hs he hp hs ?_).mono fun e w' h => ⟨fun h' => absurd h' hg, fun _ => h⟩
        by_cases hd : isDec t
        · exact absurd ⟨hd, fun h => by simp at h⟩ hg
        · exact .inl hd

theorem falls (s : ByteArray) : ∃ t neg, Falls s t neg := by
  by_cases h : 1 < s.size ∧ byt s 0 = 45
  · exact ⟨s.extract 1 s.size, true, .inl ⟨rfl, h.1, h.2, rfl, by rw [ByteArray.size_extract]; omega⟩⟩
  · exact ⟨s, false, .inr ⟨rfl, rfl, h⟩⟩

end Go.Proofs.YtjblidoilphifabGreatDoor

/- A number's text is read as it. -/
namespace Go.Proofs.YtjblidoilphifabGreatDoor
open Go.RowKit Limbs

theorem byt_list (l : List UInt8) (k : Nat) : byt ⟨l.toArray⟩ k = ((l[k]?.map fun b => (b.toNat : Int)).getD 0) := by
  unfold byt
  by_cases h : k < l.length
  · have h' : k < (⟨l.toArray⟩ : ByteArray).size := h
    rw [dif_pos h', List.getElem?_eq_getElem h]
    rfl
  · have h' : ¬ k < (⟨l.toArray⟩ : ByteArray).size := h
    rw [dif_neg h', List.getElem?_eq_none (by omega)]
    rfl

theorem dval_prefix (l m : List UInt8) (k : Nat) (h : k ≤ l.length) : dval ⟨(l ++ m).toArray⟩ k = dval ⟨l.toArray⟩ k := by
  induction k with
  | zero => rfl
  | succ k ih =>
    simp only [dval]
    rw [ih (by omega), byt_list, byt_list, List.getElem?_append_left (by omega)]

theorem dval_snoc (l : List UInt8) (b : UInt8) : dval ⟨(l ++ [b]).toArray⟩ (l.length + 1) = 10 * dval ⟨l.toArray⟩ l.length + ((b.toNat : Int) - 48) := by
  simp only [dval]
  rw [dval_prefix _ _ _ (Nat.le_refl _), byt_list]
  simp

/-- Digits alone; no nought ahead, but of nought; they are the number. -/
theorem decDigits_reads (u : Nat) : (∀ k, k < (Lib.decDigits u).length → 48 ≤ byt ⟨(Lib.decDigits u).toArray⟩ k ∧ byt ⟨(Lib.decDigits u).toArray⟩ k ≤ 57) ∧ (0 < u → byt ⟨(Lib.decDigits u).toArray⟩ 0 ≠ 48) ∧ dval ⟨(Lib.decDigits u).toArray⟩ (Lib.decDigits u).length = u ∧ 0 < (Lib.decDigits u).length := by
  induction u using Nat.strongRecOn with
  | _ u ih =>
    by_cases h : u < 10
    · have e : Lib.decDigits u = [UInt8.ofNat (48 + u)] := by rw [Lib.decDigits, dif_pos h]
      have eb : ((UInt8.ofNat (48 + u)).toNat : Int) = 48 + u := by rw [UInt8.toNat_ofNat']; omega
      rw [e]
      refine ⟨fun k hk => ?_, fun h0 => ?_, ?_, by simp⟩
      · obtain rfl : k = 0 := by simpa using hk
        rw [byt_list, List.getElem?_cons_zero, Option.map_some, Option.getD_some, eb]; omega
      · rw [byt_list, List.getElem?_cons_zero, Option.map_some, Option.getD_some, eb]; omega
      · show 10 * 0 + (byt ⟨[UInt8.ofNat (48 + u)].toArray⟩ 0 - 48) = (u : Int)
        rw [byt_list, List.getElem?_cons_zero, Option.map_some, Option.getD_some, eb]; omega
    · have e : Lib.decDigits u = Lib.decDigits (u / 10) ++ [UInt8.ofNat (48 + u % 10)] := by rw [Lib.decDigits, dif_neg h]
      have eb : ((UInt8.ofNat (48 + u % 10)).toNat : Int) = 48 + (u % 10 : Nat) := by rw [UInt8.toNat_ofNat']; omega
      obtain ⟨i1, i2, i3, i4⟩ := ih (u / 10) (by omega)
      rw [e]
      generalize Lib.decDigits (u / 10) = l at *
      refine ⟨fun k hk => ?_, fun h0 => ?_, ?_, by simp⟩
      · rw [List.length_append, List.length_singleton] at hk
        rcases Nat.lt_succ_iff_lt_or_eq.1 hk with h1 | h1
        · have := i1 k h1
          rw [byt_list] at this ⊢
          rw [List.getElem?_append_left h1]; exact this
        · subst h1
          rw [byt_list, List.getElem?_append_right (Nat.le_refl _), Nat.sub_self, List.getElem?_cons_zero, Option.map_some, Option.getD_some, eb]; omega
      · have := i2 (by omega)
        rw [byt_list] at this ⊢
        rw [List.getElem?_append_left i4]; exact this
      · rw [List.length_append, List.length_singleton, dval_snoc, i3, eb]; omega

theorem decDigits_dec (u : Nat) : isDec ⟨(Lib.decDigits u).toArray⟩ := by
  obtain ⟨h1, h2, h3, h4⟩ := decDigits_reads u
  refine ⟨h1, ?_⟩
  by_cases h : u = 0
  · subst h
    left
    rw [Lib.decDigits, dif_pos (by decide)]
    rfl
  · exact .inr ⟨by show (Lib.decDigits u).length ≠ 0; omega, h2 (by omega)⟩

/-- A number's text falls into its sign and its digits, and these are the number. -/
theorem txt_reads (z : Int) : ∃ t neg, Falls ⟨(txt z).toArray⟩ t neg ∧ good t neg ∧ sg neg (dval t t.size) = z := by
  unfold txt Lib.itoa
  by_cases hz : z < 0
  · rw [if_pos hz]
    obtain ⟨h1, h2, h3, h4⟩ := decDigits_reads z.natAbs
    have hd := decDigits_dec z.natAbs
    refine ⟨⟨(Lib.decDigits z.natAbs).toArray⟩, true, .inl ⟨rfl, ?_, ?_, ?_, ?_⟩, ⟨hd, fun h => ?_⟩, ?_⟩
    · show 1 < (45 :: Lib.decDigits z.natAbs).length
      rw [List.length_cons]; omega
    · rw [byt_list]; rfl
    · rw [Lib.extract_eq]
      show (⟨(((45 :: Lib.decDigits z.natAbs).drop 1).take _).toArray⟩ : ByteArray) = _
      rw [List.drop_succ_cons, List.drop_zero, List.take_of_length_le (by show _ ≤ (45 :: Lib.decDigits z.natAbs).length - 1; simp)]
    · show (Lib.decDigits z.natAbs).length + 1 = (45 :: Lib.decDigits z.natAbs).length
      rfl
    · have := h2 (by omega)
      rw [h.2] at this
      exact this (by decide)
    · show sg true (dval _ (Lib.decDigits z.natAbs).length) = z
      rw [h3]; unfold sg; rw [if_pos rfl]; omega
  · rw [if_neg hz]
    obtain ⟨h1, h2, h3, h4⟩ := decDigits_reads z.toNat
    refine ⟨⟨(Lib.decDigits z.toNat).toArray⟩, false, .inr ⟨rfl, rfl, fun h => ?_⟩, ⟨decDigits_dec _, fun h => by simp at h⟩, ?_⟩
    · have := (h1 0 h4).1
      omega
    · show sg false (dval _ (Lib.decDigits z.toNat).length) = z
      rw [h3]; unfold sg; rw [if_neg (by decide)]; omega

end Go.Proofs.YtjblidoilphifabGreatDoor

/- A vector's text, cut: what is needed to read it. No walk in it. -/
namespace Go.Proofs.YtjblidoilphifabGreatDoor
open Go.RowKit Limbs

theorem txt_no_blank (z : Int) : (32 : UInt8) ∉ txt z := by
  have hd : ∀ u : Nat, (32 : UInt8) ∉ Lib.decDigits u := fun u hm => by
    obtain ⟨k, hk, e⟩ := List.getElem_of_mem hm
    have h := (decDigits_reads u).1 k hk
    rw [byt_list, List.getElem?_eq_getElem hk, e] at h
    have : ((32 : UInt8).toNat : Int) = 32 := rfl
    simp only [Option.map_some, Option.getD_some] at h
    omega
  unfold txt Lib.itoa
  split
  · intro h
    rcases List.mem_cons.1 h with h | h
    · exact absurd h (by decide)
    · exact hd _ h
  · exact hd _

theorem txts_no_blank (zs : List Int) : ∀ x ∈ zs.map txt, (32 : UInt8) ∉ x := fun x hx => by
  obtain ⟨z, -, rfl⟩ := List.mem_map.1 hx
  exact txt_no_blank z

theorem count_join : ∀ xs : List (List UInt8), xs ≠ [] → (∀ x ∈ xs, (32 : UInt8) ∉ x) → Lib.countByte (Lib.join xs [32]) 32 + 1 = xs.length
  | [], h, _ => absurd rfl h
  | [x], _, hx => by
    rw [Lib.join_one]
    unfold Lib.countByte
    rw [List.count_eq_zero.2 (hx x (by simp))]
    rfl
  | x :: y :: r, _, hx => by
    have ih := count_join (y :: r) (by simp) fun z hz => hx z (List.mem_cons_of_mem _ hz)
    rw [join_two]
    unfold Lib.countByte at ih ⊢
    rw [List.count_append, List.count_eq_zero.2 (hx x (by simp)), List.count_cons_self, List.length_cons, ← ih]
    omega

/-- The pieces are the numbers' texts. -/
theorem split_vec (zs : List Int) (h0 : zs ≠ []) : Lib.splitB ⟨#[32]⟩ 0 (Lib.countB ⟨(Lib.join (zs.map txt) [32]).toArray⟩ ⟨#[32]⟩) ⟨(Lib.join (zs.map txt) [32]).toArray⟩ = zs.map btxt ∧ Lib.countB ⟨(Lib.join (zs.map txt) [32]).toArray⟩ ⟨#[32]⟩ + 1 = zs.length := by
  obtain ⟨h1, h2⟩ := split_join 32 (zs.map txt) (by simpa using h0) (txts_no_blank zs)
  rw [List.length_map] at h1 h2
  have e : Lib.countB ⟨(Lib.join (zs.map txt) [32]).toArray⟩ ⟨#[32]⟩ = zs.length - 1 := by
    show Lib.count (Lib.join (zs.map txt) [32]) [32] = _
    omega
  have hl : 0 < zs.length := List.length_pos_iff.2 h0
  refine ⟨?_, by omega⟩
  have hd := Lib.splitB_data ⟨#[32]⟩ 0 (zs.length - 1) ⟨(Lib.join (zs.map txt) [32]).toArray⟩
  rw [e]
  have h3 : (Lib.splitB ⟨#[32]⟩ 0 (zs.length - 1) ⟨(Lib.join (zs.map txt) [32]).toArray⟩).map (·.data.toList) = (zs.map btxt).map (·.data.toList) := by
    rw [hd, btxt_data]
    exact h2
  have inj : Function.Injective (fun b : ByteArray => b.data.toList) := fun a b h => by
    cases a; cases b
    simp only at h
    congr 1
    exact Array.toList_inj.1 h
  exact (List.map_inj_right fun a b h => inj h).1 h3

end Go.Proofs.YtjblidoilphifabGreatDoor

/- A number's text, parsed. -/
namespace Go.Proofs.YtjblidoilphifabGreatDoor
open Go.RowKit Limbs

theorem parse_txt (w : World) (z : Int) (h : (txt z).length ≤ 400) :
    Calls Tryz.prog 52 #[.string ⟨(txt z).toArray⟩] w fun e w' => ∃ n, n ≤ 400 ∧ ReadPost w z n e w' := by
  obtain ⟨t, neg, hF, hg, hz⟩ := txt_reads z
  have hs : (⟨(txt z).toArray⟩ : ByteArray).size ≤ 400 := by show (txt z).toArray.size ≤ 400; simpa using h
  have ht : t.size ≤ 400 := by
    rcases hF with ⟨-, -, -, -, h1⟩ | ⟨-, h1, -⟩
    · omega
    · rw [h1]; exact hs
  refine (parse_any w _ t neg hs hF).mono fun e w' hp => ⟨t.size, ht, ?_⟩
  have := hp.1 hg
  rwa [hz] at this

/-- Two numbers have one text just if they are one. -/
theorem txt_inj {x y : Int} (h : txt x = txt y) : x = y := by
  obtain ⟨t, neg, hF, hg, hz⟩ := txt_reads x
  obtain ⟨t', neg', hF', hg', hz'⟩ := txt_reads y
  rw [← h] at hF'
  have hb : neg = neg' ∧ t = t' := by
    rcases hF with ⟨rfl, h1, h2, h3, -⟩ | ⟨rfl, h1, h2⟩ <;> rcases hF' with ⟨rfl, k1, k2, k3, -⟩ | ⟨rfl, k1, k2⟩
    · exact ⟨rfl, h3.symm.trans k3⟩
    · exact absurd ⟨h1, h2⟩ k2
    · exact absurd ⟨k1, k2⟩ h2
    · exact ⟨rfl, h1.trans k1.symm⟩
  obtain ⟨rfl, rfl⟩ := hb
  rw [← hz, ← hz']

end Go.Proofs.YtjblidoilphifabGreatDoor
