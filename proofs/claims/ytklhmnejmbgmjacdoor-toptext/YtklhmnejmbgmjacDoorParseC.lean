/- A number's text, read. -/
import Derived.Test.YtklhmnejmbgmjacDoorParseA
import Derived.Test.YtklhmnejmbgmjacDoorShelf
namespace Go.Proofs.YtklhmnejmbgmjacDoor
open Go.RowKit Limbs

/-- What the first so many digits are. -/
def dval (s : ByteArray) : Nat → Int
  | 0 => 0
  | k + 1 => 10 * dval s k + (byt s k - 48)

def ErrPost (w : World) (n : Int) (e : Ending) (w' : World) : Prop :=
  e = .returned (.tuple #[.agg #[.bool false, .slice none 0 0], .iface 79 (.int .i64 n)]) ∧ Below w.heap.size w w'

def ReadPost (w : World) (z : Int) (n : Nat) (e : Ending) (w' : World) : Prop :=
  ∃ v, e = .returned (.tuple #[v, .nilIface]) ∧ NumL w' v z n ∧ Below w.heap.size w w'

set_option maxRecDepth 100000 in
set_option maxHeartbeats 1600000 in
theorem parse_long (w : World) (s : ByteArray) (h : 400 < s.size) (hs : s.size ≤ 9223372036854775807) :
    Calls Tryd.prog 11 #[.string s] w fun e w' => ErrPost w 2 e w' := by
  have HF : Hid (ErrPost w 2 (.returned (.tuple #[.agg #[.bool false, .slice none 0 0], .iface 79 (.int .i64 2)])) (w.alloc (.cells #[.bool false, .slice none 0 0] 24))) := ⟨rfl, (Below.refl _ _).alloc (Nat.le_refl _) _⟩
  have hd : decide ((400 : Int) < (s.size : Int)) = true := decide_eq_true (by omega)
  go_enter Tryd.func11, Tryd.ntmps11
  go_wp2
  exact bodyPost_ret (v := .tuple #[.agg #[.bool false, .slice none 0 0], .iface 79 (.int .i64 2)]) (by simp [results, Tryd.results11, go_sem]) rfl HF.out

set_option maxRecDepth 100000 in
set_option maxHeartbeats 1600000 in
theorem parse_bad (w : World) (s t : ByteArray) (neg : Bool) (h : s.size ≤ 400) (ht : (⟨(Lib.trimPrefix s.data.toList [45]).toArray⟩ : ByteArray) = t) (hn : Lib.hasPrefix s.data.toList [45] = neg) (hts : t.size ≤ 400) (hbad : ¬ isDec t ∨ (neg = true ∧ t = ⟨#[48]⟩)) :
    Calls Tryd.prog 11 #[.string s] w fun e w' => ErrPost w 5 e w' := by
  have HF : Hid (ErrPost w 5 (.returned (.tuple #[.agg #[.bool false, .slice none 0 0], .iface 79 (.int .i64 5)])) (w.alloc (.cells #[.bool false, .slice none 0 0] 24))) := ⟨rfl, (Below.refl _ _).alloc (Nat.le_refl _) _⟩
  have hd : decide ((400 : Int) < (s.size : Int)) = false := decide_eq_false (by omega)
  have HT := hide ht; have HN := hide hn; clear ht hn
  have HBAD := hide hbad; clear hbad
  go_enter Tryd.func11, Tryd.ntmps11
  go_wp2_with fail
  refine (Tryd.strings_CutPrefix s ⟨#[45]⟩ _).mono ?_
  rintro e w1 ⟨rfl, rfl⟩
  rw [show (⟨#[45]⟩ : ByteArray).data.toList = [45] from rfl, HT.out, HN.out]
  go_wp2_with fail
  by_cases hdec : isDec t
  · obtain ⟨rfl, rfl⟩ : neg = true ∧ t = ⟨#[48]⟩ := by rcases HBAD.out with h | h; exact absurd hdec h; exact h
    refine (decimal_any _ _ hts true ⟨fun _ => hdec, fun _ => rfl⟩).mono ?_
    rintro e w1 ⟨rfl, rfl⟩
    clear HBAD hdec HT HN
    go_wp2
    exact bodyPost_ret (v := .tuple #[.agg #[.bool false, .slice none 0 0], .iface 79 (.int .i64 5)]) (by simp [results, Tryd.results11, go_sem]) rfl HF.out
  · refine (decimal_any _ _ hts false ⟨fun h => absurd h (by simp), fun h => absurd h hdec⟩).mono ?_
    rintro e w1 ⟨rfl, rfl⟩
    clear HBAD hdec HT HN
    go_wp2
    exact bodyPost_ret (v := .tuple #[.agg #[.bool false, .slice none 0 0], .iface 79 (.int .i64 5)]) (by simp [results, Tryd.results11, go_sem]) rfl HF.out

set_option maxRecDepth 100000 in
set_option maxHeartbeats 1600000 in
theorem parse_good (w : World) (s t : ByteArray) (neg : Bool) (h : s.size ≤ 400) (ht : (⟨(Lib.trimPrefix s.data.toList [45]).toArray⟩ : ByteArray) = t) (hn : Lib.hasPrefix s.data.toList [45] = neg) (hts : t.size ≤ 400) (hdec : isDec t) (hz : ¬ (neg = true ∧ t = ⟨#[48]⟩)) :
    Calls Tryd.prog 11 #[.string s] w fun e w' => ReadPost w (sg neg (dval t t.size)) t.size e w' := by
  have hd : decide ((400 : Int) < (s.size : Int)) = false := decide_eq_false (by omega)
  have HT := hide ht; have HN := hide hn; clear ht hn
  have HDEC := hide hdec; clear hdec
  have hzz : (neg && t.toList == [48]) = false := by
    cases neg with
    | false => rfl
    | true =>
      rw [Bool.true_and, beq_eq_false_iff_ne]
      intro e
      exact hz ⟨rfl, (str_eq t _).1 e⟩
  clear hz
  go_enter Tryd.func11, Tryd.ntmps11
  go_wp2_with fail
  refine (Tryd.strings_CutPrefix s ⟨#[45]⟩ _).mono ?_
  rintro e w1 ⟨rfl, rfl⟩
  rw [show (⟨#[45]⟩ : ByteArray).data.toList = [45] from rfl, HT.out, HN.out]
  have hW : Below w.heap.size w (w.alloc (.cells #[.bool false, .slice none 0 0] 24)) := (Below.refl _ _).alloc (Nat.le_refl _) _
  have hBX := box_new w (.bool false) (.slice none 0 0) 24 w.heap.size rfl
  have HW := hide hW; have HBX := hide hBX; clear hW hBX
  go_wp2_with fail
  refine (decimal_any _ _ hts true ⟨fun _ => HDEC.out, fun _ => rfl⟩).mono ?_
  rintro e w1 ⟨rfl, rfl⟩
  cases neg
  · clear hzz HT HN
    go_wp2
    go_loopw [6, 32] (fun l i wr => ∃ (k : Nat) (zs : List Int), k ≤ t.size ∧ i = .int .i64 k ∧ wr.ownsRow (w.heap.size + 1) 77 1 l zs.length (zs.map (Value.int .u32)) ∧ LB zs ∧ lv zs = dval t k ∧ zs.length ≤ k ∧ Below (w.heap.size + 1) (w.alloc (.cells #[.bool false, .slice none 0 0] 24)) wr) (fun _ i _ => t.size - (intOf i).toNat)
    case atStart => exact ⟨0, [], Nat.zero_le _, rfl, World.ownsRow_nil _ _ _ _, LB_nil, rfl, Nat.le_refl _, Below.refl _ _⟩
    case round =>
      obtain ⟨k, zs, hk, rfl, hown, hlb, hlv, hlen, hbel⟩ := hrel
      have HBX1 := hide (HBX.out.later hbel (by omega))
      have HW1 := hide (HW.out.trans (hbel.mono (by omega)))
      have hsz : w.heap.size + 1 ≤ wr.heap.size := by have := hbel.size; simp at this; omega
      have HLV := hide hlv; clear hlv
      by_cases hlt : k < t.size
      · have hby := HDEC.out.1 k hlt
        have HDV := hide (show dval t (k + 1) = 10 * dval t k + (((t[k]'hlt).toNat : Int) - 48) by rw [byt_eq hlt]; rfl)
        rw [← byt_eq hlt] at hby
        obtain ⟨hb0, hb1⟩ := hby
        have HBE := hide hbel
        have HOW := hide hown
        clear hbel hown HBX1 HW1
        go_wp2_with fail
        refine (appendDigit_any wr (w.heap.size + 1) _ zs _ HOW.out hlb (by omega) (by omega) (by omega) hsz).mono ?_
        rintro e w2 ⟨v', ys, rfl, hown', hlb', hlv', hlen', hbel'⟩
        have HF := hide (And.intro hown' (And.intro hlb' (And.intro (show lv ys = dval t (k + 1) by rw [hlv', HLV.out, HDV.out]) (HBE.out.trans hbel'))))
        clear hown' hlb' hlv' hbel' HOW HBE HLV HDV
        go_wp2
        go_roundw
        case rel => exact ⟨k + 1, ys, by omega, by go_num, HF.out.1, HF.out.2.1, HF.out.2.2.1, by omega, HF.out.2.2.2⟩
        case measure => simp [intOf]; omega
      · obtain rfl : k = t.size := by omega
        have HL := hide (Lim.owns hown hlb (by omega))
        clear hown hbel
        go_wp2_with fail
        refine (signed_any wr false _ zs t.size HL.out hlen).mono ?_
        rintro e w2 ⟨r, rfl, hr, hb2⟩
        obtain ⟨c0, c1, f0, f1⟩ := HBX1.out.later hb2 (by omega)
        rw [HLV.out] at hr
        have HR := hide hr
        obtain ⟨rn, rs, rz, rfl, hl', -⟩ := hr
        obtain ⟨ro, rcap, rfl, -⟩ := hl'
        have HF := hide (boxed (w := w) HR.out c0 c1 (by simp) (by simp) (HW1.out.trans (hb2.mono HW1.out.size)) (Nat.le_refl _))
        have HG : Hid (ReadPost w (sg false (dval t t.size)) t.size (.returned (.tuple #[.agg #[.bool rn, .slice ro rz.length rcap], .nilIface])) ((w2.setCell ⟨w.heap.size, 0, none⟩ (.bool rn)).setCell ⟨w.heap.size, 1, none⟩ (.slice ro rz.length rcap))) := by
          obtain ⟨v, h1, h2, h3⟩ := HF.out
          obtain rfl : v = .agg #[.bool rn, .slice ro rz.length rcap] := by injection h1 with h1; exact h1.symm
          exact ⟨_, rfl, h2, h3⟩
        clear HL HR HF HBX1 HW1 hb2
        go_wp2
        exact bodyPost_ret (v := .tuple #[.agg #[.bool rn, .slice ro rz.length rcap], .nilIface]) (by simp [results, Tryd.results11, go_sem, c0, c1]) rfl HG.out
  · have f3 : (t.toList == [48]) = false := by simpa using hzz
    clear hzz HT HN
    go_wp2
    go_loopw [6, 32] (fun l i wr => ∃ (k : Nat) (zs : List Int), k ≤ t.size ∧ i = .int .i64 k ∧ wr.ownsRow (w.heap.size + 1) 77 1 l zs.length (zs.map (Value.int .u32)) ∧ LB zs ∧ lv zs = dval t k ∧ zs.length ≤ k ∧ Below (w.heap.size + 1) (w.alloc (.cells #[.bool false, .slice none 0 0] 24)) wr) (fun _ i _ => t.size - (intOf i).toNat)
    case atStart => exact ⟨0, [], Nat.zero_le _, rfl, World.ownsRow_nil _ _ _ _, LB_nil, rfl, Nat.le_refl _, Below.refl _ _⟩
    case round =>
      obtain ⟨k, zs, hk, rfl, hown, hlb, hlv, hlen, hbel⟩ := hrel
      have HBX1 := hide (HBX.out.later hbel (by omega))
      have HW1 := hide (HW.out.trans (hbel.mono (by omega)))
      have hsz : w.heap.size + 1 ≤ wr.heap.size := by have := hbel.size; simp at this; omega
      have HLV := hide hlv; clear hlv
      by_cases hlt : k < t.size
      · have hby := HDEC.out.1 k hlt
        have HDV := hide (show dval t (k + 1) = 10 * dval t k + (((t[k]'hlt).toNat : Int) - 48) by rw [byt_eq hlt]; rfl)
        rw [← byt_eq hlt] at hby
        obtain ⟨hb0, hb1⟩ := hby
        have HBE := hide hbel
        have HOW := hide hown
        clear hbel hown HBX1 HW1
        go_wp2_with fail
        refine (appendDigit_any wr (w.heap.size + 1) _ zs _ HOW.out hlb (by omega) (by omega) (by omega) hsz).mono ?_
        rintro e w2 ⟨v', ys, rfl, hown', hlb', hlv', hlen', hbel'⟩
        have HF := hide (And.intro hown' (And.intro hlb' (And.intro (show lv ys = dval t (k + 1) by rw [hlv', HLV.out, HDV.out]) (HBE.out.trans hbel'))))
        clear hown' hlb' hlv' hbel' HOW HBE HLV HDV
        go_wp2
        go_roundw
        case rel => exact ⟨k + 1, ys, by omega, by go_num, HF.out.1, HF.out.2.1, HF.out.2.2.1, by omega, HF.out.2.2.2⟩
        case measure => simp [intOf]; omega
      · obtain rfl : k = t.size := by omega
        have HL := hide (Lim.owns hown hlb (by omega))
        clear hown hbel
        go_wp2_with fail
        refine (signed_any wr true _ zs t.size HL.out hlen).mono ?_
        rintro e w2 ⟨r, rfl, hr, hb2⟩
        obtain ⟨c0, c1, f0, f1⟩ := HBX1.out.later hb2 (by omega)
        rw [HLV.out] at hr
        have HR := hide hr
        obtain ⟨rn, rs, rz, rfl, hl', -⟩ := hr
        obtain ⟨ro, rcap, rfl, -⟩ := hl'
        have HF := hide (boxed (w := w) HR.out c0 c1 (by simp) (by simp) (HW1.out.trans (hb2.mono HW1.out.size)) (Nat.le_refl _))
        have HG : Hid (ReadPost w (sg true (dval t t.size)) t.size (.returned (.tuple #[.agg #[.bool rn, .slice ro rz.length rcap], .nilIface])) ((w2.setCell ⟨w.heap.size, 0, none⟩ (.bool rn)).setCell ⟨w.heap.size, 1, none⟩ (.slice ro rz.length rcap))) := by
          obtain ⟨v, h1, h2, h3⟩ := HF.out
          obtain rfl : v = .agg #[.bool rn, .slice ro rz.length rcap] := by injection h1 with h1; exact h1.symm
          exact ⟨_, rfl, h2, h3⟩
        clear HL HR HF HBX1 HW1 hb2
        go_wp2
        exact bodyPost_ret (v := .tuple #[.agg #[.bool rn, .slice ro rz.length rcap], .nilIface]) (by simp [results, Tryd.results11, go_sem, c0, c1]) rfl HG.out

end Go.Proofs.YtklhmnejmbgmjacDoor
