/- Ten times the limbs, and a digit more; are these digits? -/
import Derived.Test.YtklhmnejmbgmjacDoorSnoc
import Derived.Lib.Strings
namespace Go.Proofs.YtklhmnejmbgmjacDoor
open Go.RowKit Limbs

/-- So many limbs are done. -/
def DInv (w wr : World) (base : Nat) (v : Value) (zs : List Int) (d : Int) (k : Nat) (cy : Int) (ys : List Int) : Prop :=
  wr.ownsRow base 77 1 v zs.length (ys.map (Value.int .u32)) ∧ ys.length = zs.length ∧ LB ys ∧ ys.drop k = zs.drop k ∧ lv (ys.take k) + bp k * cy = 10 * lv (zs.take k) + d ∧ 0 ≤ cy ∧ cy ≤ 255 ∧ Below base w wr

theorem DInv.step {w wr : World} {base g cap : Nat} {zs ys : List Int} {d cy T : Int} {k : Nat} (h : DInv w wr base (.slice (some ⟨g, 0, none⟩) zs.length cap) zs d k cy ys) (hk : k < zs.length) (hT : T = cy + 10 * ys.getD k 0) :
    DInv w (wr.setCell ⟨g, k, none⟩ (.int .u32 (T % 4294967296))) base (.slice (some ⟨g, 0, none⟩) zs.length cap) zs d (k + 1) (T / 4294967296) (ys.set k (T % 4294967296)) := by
  obtain ⟨h1, h2, h3, h4, h5, h6, h7, h8⟩ := h
  have hz := h3 k
  have hst := h1.stored k (.int .u32 (T % 4294967296))
  have he : ys.getD k 0 = zs.getD k 0 := by
    have e1 := drop_cons_getD ys k (by omega)
    have e2 := drop_cons_getD zs k hk
    rw [h4] at e1
    rw [e1] at e2
    exact (List.cons.injEq _ _ _ _ ▸ e2).1
  have hlt := h1.lt g rfl
  refine ⟨by rw [List.map_set]; exact hst.1, by simp [h2], LB_set h3 k (by omega), ?_, ?_, by omega, by omega, h8.setCell (by simp; omega) _⟩
  · rw [drop_set_lt ys k (k + 1) _ (Nat.lt_succ_self k)]
    have e1 := congrArg (List.drop 1) h4
    rwa [List.drop_drop, List.drop_drop] at e1
  · rw [lv_take_succ, take_set_ge ys k k _ (Nat.le_refl _), getD_set _ _ _ _ (by omega), if_pos rfl, lv_take_succ]
    simp only [bp]
    have e1 : 4294967296 * bp k * (T / 4294967296) = bp k * (4294967296 * (T / 4294967296)) := by rw [Int.mul_comm 4294967296, Int.mul_assoc]
    have e2 : bp k * (T % 4294967296) + bp k * (4294967296 * (T / 4294967296)) = bp k * T := by rw [← Int.mul_add]; congr 1; omega
    have e3 : bp k * T = bp k * cy + bp k * (10 * ys.getD k 0) := by rw [hT, Int.mul_add]
    have e4 : bp k * (10 * ys.getD k 0) = 10 * (bp k * zs.getD k 0) := by rw [he, Int.mul_left_comm]
    rw [e1, Int.mul_add]
    omega

/-- More limbs, in memory that is the call's own. -/
def DigitPost (w : World) (base : Nat) (zs : List Int) (d : Int) (e : Ending) (w' : World) : Prop :=
  ∃ v' ys, e = .returned v' ∧ w'.ownsRow base 77 1 v' ys.length (ys.map (Value.int .u32)) ∧ LB ys ∧ lv ys = 10 * lv zs + d ∧ ys.length ≤ zs.length + 1 ∧ Below base w w'

theorem DInv.fin {w wr : World} {base : Nat} {v : Value} {zs ys : List Int} {d : Int} {cy : Int} (h : DInv w wr base v zs d zs.length cy ys) : lv ys + bp zs.length * cy = 10 * lv zs + d := by
  have := h.2.2.2.2.1
  rw [List.take_length, lv_take_ge ys (by rw [h.2.1]; exact Nat.le_refl _)] at this
  exact this

set_option maxRecDepth 100000 in
set_option maxHeartbeats 1600000 in
theorem appendDigit_any (w : World) (base : Nat) (v : Value) (zs : List Int) (d : Int) (h : w.ownsRow base 77 1 v zs.length (zs.map (Value.int .u32))) (hlb : LB zs) (hd0 : 0 ≤ d) (hd1 : d ≤ 255) (hl : zs.length ≤ 100000) (hbs : base ≤ w.heap.size) :
    Calls Tryd.prog 42 #[v, .int .u8 d] w fun e w' => DigitPost w base zs d e w' := by
  obtain ⟨j0, hj, hy0, hy1, hy2⟩ := info_parts Tryd.infoU32
  have H0 := hide h
  obtain ⟨o, cap, rfl⟩ : ∃ o cap, v = .slice o zs.length cap := by
    rcases h.2 with ⟨e, h0⟩ | ⟨g, cap, cur, e, -⟩
    · exact ⟨none, 0, by rw [h0]; exact e⟩
    · exact ⟨_, cap, e⟩
  clear h
  go_enter Tryd.func42, Tryd.ntmps42
  go_wp2
  go_loopw [5, 11] (fun c i wr => ∃ (k : Nat) (cy : Int) (ys : List Int), k ≤ zs.length ∧ i = .int .i64 k ∧ c = .int .u64 cy ∧ DInv w wr base (.slice o zs.length cap) zs d k cy ys) (fun _ i _ => zs.length - (intOf i).toNat)
  case atStart => exact ⟨0, d, zs, Nat.zero_le _, rfl, rfl, H0.out, rfl, hlb, rfl, by simp [lv, bp], hd0, hd1, Below.refl _ _⟩
  case round =>
    clear H0
    obtain ⟨k, cy, ys, hk, rfl, rfl, hinv⟩ := hrel
    have hc0 := hinv.2.2.2.2.2.1
    have hc1 := hinv.2.2.2.2.2.2.1
    by_cases hlt : k < zs.length
    · obtain ⟨g, cap', e, -, hgs⟩ := hinv.1.form (by omega)
      simp only [Value.slice.injEq, true_and] at e
      obtain ⟨rfl, rfl⟩ := e
      have hky : k < ys.length := by have := hinv.2.1; omega
      have hcell := hinv.1.cellAt k (by omega)
      rw [List.getElem?_map, List.getElem?_eq_getElem hky, Option.map_some, show ys[k]'hky = ys.getD k 0 by rw [List.getD_eq_getElem?_getD, List.getElem?_eq_getElem hky]; rfl] at hcell
      have hfr := hinv.1.frozenAt k
      have hz := hinv.2.2.1 k
      have HS := hide (hinv.step hlt rfl)
      clear hinv
      generalize ys.getD k 0 = z at *
      go_wp2
      go_roundw
      case rel => exact ⟨k + 1, _, _, by omega, by go_num, rfl, HS.out⟩
      case measure => simp [intOf]; omega
    · obtain rfl : k = zs.length := by omega
      have HFI := hide hinv.fin
      have hyl := hinv.2.1
      have HI := hide hinv
      by_cases hc : cy = 0
      · subst hc
        have HF : Hid (DigitPost w base zs d (.returned (.slice o zs.length cap)) wr) := by
          obtain ⟨h1, h2, h3, h4, h5, h6, h7, h8⟩ := HI.out
          exact ⟨_, ys, rfl, by rw [h2]; exact h1, h3, by have := HFI.out; omega, by omega, h8⟩
        clear HI hinv HFI
        go_wp2
        go_ret
        exact HF.out
      · have hcd : decide (0 < cy) = true := decide_eq_true (by omega)
        have hown := hinv.1
        have HBL := hide hinv.2.2.2.2.2.2.2
        clear hinv
        go_wp2_with (at_builtin; refine wpList_append_lies _ rfl _ _ 22 rfl base 77 j0 (.int .u32 0) 1 4 Tryd.underlying22 hj hy0 hy1 hy2 rfl (by decide) (.slice o zs.length cap) zs.length (ys.map (Value.int .u32)) rfl (hown.alloc _) ⟨wr.heap.size, 0, none⟩ 1 1 [.int .u32 cy] rfl rfl (World.news_of_block (heap_alloc_new wr _)) (fun u hu => by rw [List.mem_singleton] at hu; rw [hu]; rfl) (by decide) (by unfold maxLen; omega) (by omega) (by simp; have := HBL.out.size; omega) (wr.heap.size + 1) (by simp) ?_)
        intro g cap' w3 hown3 hgrow3 hat3 hlt3
        have HF : Hid (DigitPost w base zs d (.returned (.slice (some ⟨g, 0, none⟩) (zs.length + 1) cap')) w3) := by
          obtain ⟨h1, h2, h3, h4, h5, h6, h7, h8⟩ := HI.out
          refine ⟨_, ys ++ [cy], rfl, by rw [List.length_append, List.map_append, h2]; exact hown3, LB_snoc h3 (by omega), ?_, by simp; omega, h8.trans (below_app h1 (by have := h8.size; omega) hgrow3)⟩
          rw [lv_snoc, h2]; exact HFI.out
        clear hown3 hgrow3 hat3 hlt3 HI hown
        go_wp2
        go_ret
        exact HF.out

/-- A text's byte. -/
def byt (s : ByteArray) (k : Nat) : Int := if h : k < s.size then ((s[k]'h).toNat : Int) else 0

theorem byt_eq {s : ByteArray} {k : Nat} (h : k < s.size) : ((s[k]'h).toNat : Int) = byt s k := by simp [byt, h]

/-- Digits alone, one at least, no nought ahead of others. -/
def isDec (s : ByteArray) : Prop := (∀ k, k < s.size → 48 ≤ byt s k ∧ byt s k ≤ 57) ∧ (s = ⟨#[48]⟩ ∨ (s.size ≠ 0 ∧ byt s 0 ≠ 48))

theorem size_zero {s : ByteArray} (h : s.size = 0) : s = ⟨#[]⟩ := by
  cases s with
  | mk d =>
    congr 1
    exact Array.eq_empty_of_size_eq_zero h

theorem str_eq (s : ByteArray) (l : List UInt8) : s.toList = l ↔ s = ⟨l.toArray⟩ := by
  rw [Lib.toList_data]
  constructor
  · intro h; subst h; cases s; rfl
  · intro h; subst h; rfl

set_option maxRecDepth 100000 in
set_option maxHeartbeats 1600000 in
theorem decimal_any (w : World) (s : ByteArray) (hl : s.size ≤ 400) (b : Bool) (hb : b = true ↔ isDec s) :
    Calls Tryd.prog 41 #[.string s] w fun e w' => e = .returned (.bool b) ∧ w' = w := by
  have HB := hide hb; clear hb
  go_enter Tryd.func41, Tryd.ntmps41
  go_wp2
  go_loop [6] (fun i => ∃ k : Nat, k ≤ s.size ∧ i = .int .i64 k ∧ Hid (∀ j, j < k → 48 ≤ byt s j ∧ byt s j ≤ 57)) (fun i => s.size - (intOf i).toNat)
  case atStart => exact ⟨0, Nat.zero_le _, rfl, fun j hj => absurd hj (by omega)⟩
  case round =>
    obtain ⟨k, hk, rfl, HD⟩ := hrel
    by_cases hlt : k < s.size
    · by_cases hc : 48 ≤ byt s k ∧ byt s k ≤ 57
      · have h1 : decide (((s[k]'hlt).toNat : Int) < 48) = false := by rw [byt_eq hlt]; simp; omega
        have h2 : decide (57 < ((s[k]'hlt).toNat : Int)) = false := by rw [byt_eq hlt]; simp; omega
        have HD' : Hid (∀ j, j < k + 1 → 48 ≤ byt s j ∧ byt s j ≤ 57) := fun j hj => by
          rcases Nat.lt_succ_iff_lt_or_eq.1 hj with h | h
          · exact HD.out j h
          · subst h; exact hc
        clear hc
        go_wp2
        go_round
        case rel => exact ⟨k + 1, by omega, by go_num, HD'⟩
        case measure => simp [intOf]; omega
      · have hbf : b = false := by
          cases b with
          | false => rfl
          | true => exact absurd ((HB.out.1 rfl).1 k hlt) hc
        subst hbf
        by_cases h48 : byt s k < 48
        · have h1 : decide (((s[k]'hlt).toNat : Int) < 48) = true := by rw [byt_eq hlt]; simp; omega
          clear HB hc
          go_wp2
          go_ret
          exact ⟨rfl, rfl⟩
        · have h1 : decide (((s[k]'hlt).toNat : Int) < 48) = false := by rw [byt_eq hlt]; simp; omega
          have h2 : decide (57 < ((s[k]'hlt).toNat : Int)) = true := by rw [byt_eq hlt]; simp; omega
          clear HB hc
          go_wp2
          go_ret
          exact ⟨rfl, rfl⟩
    · obtain rfl : k = s.size := by omega
      have HB' := hide (show b = true ↔ (s = ⟨#[48]⟩ ∨ (s.size ≠ 0 ∧ byt s 0 ≠ 48)) from ⟨fun h => (HB.out.1 h).2, fun h => HB.out.2 ⟨HD.out, h⟩⟩)
      clear HB HD
      by_cases e1 : s = ⟨#[48]⟩
      · obtain rfl : b = true := HB'.out.2 (.inl e1)
        subst e1
        clear HB'
        go_wp2
        go_ret
        exact ⟨rfl, rfl⟩
      · by_cases e0 : s.size = 0
        · obtain rfl := size_zero e0
          have hbf : b = false := by
            cases b with
            | false => rfl
            | true => rcases HB'.out.1 rfl with h | h; exact absurd h e1; exact absurd rfl h.1
          subst hbf
          clear HB'
          go_wp2
          go_ret
          exact ⟨rfl, rfl⟩
        · have h0 : 0 < s.size := by omega
          have f1 : ¬ s.toList = [48] := fun h => e1 ((str_eq s _).1 h)
          have f2 : ¬ s.toList = [] := fun h => e0 (by rw [(str_eq s _).1 h]; rfl)
          have hb2 : b = ((((s[0]'h0).toNat : Int) != 48)) := by
            rw [byt_eq h0]
            cases b with
            | true => rcases HB'.out.1 rfl with h | h; exact absurd h e1; symm; rw [bne_iff_ne]; exact h.2
            | false => symm; rw [bne_eq_false_iff_eq]; by_cases h : byt s 0 = 48; exact h; exact absurd (HB'.out.2 (.inr ⟨e0, h⟩)) (by simp)
          have f3 : (s.toList == [48]) = false := by rw [beq_eq_false_iff_ne]; exact f1
          have f4 : s.toList.isEmpty = false := by rw [List.isEmpty_eq_false_iff]; exact f2
          subst hb2
          clear HB'
          go_wp2
          go_ret
          exact ⟨rfl, rfl⟩

end Go.Proofs.YtklhmnejmbgmjacDoor
