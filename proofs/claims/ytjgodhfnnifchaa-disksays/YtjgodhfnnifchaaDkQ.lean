/- A disk: of a sector's writes the one with a bit is taken out. -/
import Derived.Test.YtjgodhfnnifchaaDkJ
namespace Go.Proofs.Ytjgodhfnnifchaa
open Go.RowKit

theorem wcells_set : ∀ (l : List (Int × List UInt8)), (∀ p ∈ l, p.2.length = 64) → ∀ (q : Nat) (p : Int × List UInt8), q < l.length → p.2.length = 64 → setL (l.flatMap wcells) (q * 65) (wcells p) = (l.set q p).flatMap wcells
  | [], _, q, p, hq, _ => by simp at hq
  | p0 :: l, hok, 0, p, _, hp => by
    have h0 := wcells_len (hok p0 (by simp))
    rw [List.flatMap_cons, List.set_cons_zero, List.flatMap_cons, Nat.zero_mul, setL_all _ _ _ (by rw [h0, wcells_len hp])]
  | p0 :: l, hok, q + 1, p, hq, hp => by
    have h0 := wcells_len (hok p0 (by simp))
    rw [List.flatMap_cons, List.set_cons_succ, List.flatMap_cons, show (q + 1) * 65 = (wcells p0).length + q * 65 by omega, setL_right, wcells_set l (fun p hp => hok p (by simp [hp])) q p (by simpa using hq) hp]

/-- While those behind it move. -/
def movedL (pre post : List (Int × List UInt8)) (p : Int × List UInt8) (k : Nat) : List (Int × List UInt8) := pre ++ (post.take k ++ (p :: post).drop k)

theorem movedL_len (pre post : List (Int × List UInt8)) (p : Int × List UInt8) (k : Nat) (hk : k ≤ post.length) : (movedL pre post p k).length = pre.length + post.length + 1 := by
  unfold movedL
  rw [List.length_append, List.length_append, List.length_take, List.length_drop, List.length_cons]; omega

theorem movedL_at (pre post : List (Int × List UInt8)) (p : Int × List UInt8) (k : Nat) (hk : k < post.length) : (movedL pre post p k)[pre.length + (k + 1)]? = some post[k] := by
  unfold movedL
  rw [List.getElem?_append_right (by omega), show pre.length + (k + 1) - pre.length = k + 1 by omega, List.getElem?_append_right (by rw [List.length_take]; omega), List.length_take, Nat.min_eq_left (by omega), List.getElem?_drop, show k + (k + 1 - k) = k + 1 by omega, List.getElem?_cons_succ, List.getElem?_eq_getElem hk]

theorem movedL_step (pre post : List (Int × List UInt8)) (p : Int × List UInt8) (k : Nat) (hk : k < post.length) : (movedL pre post p k).set (pre.length + k) post[k] = movedL pre post p (k + 1) := by
  unfold movedL
  have h1 : (post.take k).length = k := by rw [List.length_take]; omega
  have h2 : (p :: post).drop k = (p :: post)[k]'(by simp; omega) :: (p :: post).drop (k + 1) := List.drop_eq_getElem_cons _
  rw [List.set_append_right _ _ (by omega), show pre.length + k - pre.length = k by omega, List.set_append_right _ _ (by omega), h1, Nat.sub_self, h2, List.set_cons_zero, List.take_succ_eq_append_getElem hk, List.append_assoc]
  rfl

theorem movedL_mem {pre post : List (Int × List UInt8)} {p q : Int × List UInt8} {k : Nat} (h : q ∈ movedL pre post p k) : q ∈ pre ++ p :: post := by
  unfold movedL at h
  rcases List.mem_append.1 h with h | h
  · exact List.mem_append.2 (.inl h)
  · rcases List.mem_append.1 h with h | h
    · exact List.mem_append.2 (.inr (List.mem_cons_of_mem _ (List.mem_of_mem_take h)))
    · exact List.mem_append.2 (.inr (List.mem_of_mem_drop h))

theorem movedL_end (pre post : List (Int × List UInt8)) (p : Int × List UInt8) : (movedL pre post p post.length).take (pre.length + post.length) = pre ++ post := by
  unfold movedL
  rw [List.take_length, ← List.append_assoc, List.take_append_of_le_length (by simp)]
  exact List.take_of_length_le (by simp)

set_option linter.unusedSimpArgs false in
set_option maxRecDepth 100000 in
set_option maxHeartbeats 1600000 in
theorem indexSome (w : World) (base lg cap : Nat) (pre post : List (Int × List UInt8)) (bit : Int) (data : List UInt8) (bb : Nat) (hown : w.ownsRow base 88 65 (.slice (some ⟨lg, 0, none⟩) (pre ++ (bit, data) :: post).length cap) (pre ++ (bit, data) :: post).length ((pre ++ (bit, data) :: post).flatMap wcells)) (hok : ∀ p ∈ pre ++ (bit, data) :: post, p.2.length = 64) (hno : ∀ p ∈ pre, p.1 ≠ bit) (hc : w.cell? ⟨bb, 0, none⟩ = some (.int .u64 bit)) (hlt : bb < w.heap.size) :
    Calls Try.prog 59 #[.slice (some ⟨lg, 0, none⟩) (pre ++ (bit, data) :: post).length cap, .func (.func 50) #[] #[.pointer (some ⟨bb, 0, none⟩)]] w fun e w' => e = .returned (.int .i64 (pre.length : Int)) ∧ Below w.heap.size w w' := by
  have hn : pre.length < (pre ++ (bit, data) :: post).length := by simp
  have hlm : (pre ++ (bit, data) :: post).length ≤ 9223372036854775807 := by
    rcases hown.2 with ⟨e, -⟩ | ⟨g', cap', cur, e, -, -, h1, h2, -⟩
    · simp at e
    · unfold maxLen at h2; exact Nat.le_trans h1 h2
  have HP : Hid (∀ k (hk : k < pre.length), (pre ++ (bit, data) :: post)[k]? = some pre[k]) := fun k hk => by rw [List.getElem?_append_left hk, List.getElem?_eq_getElem hk]
  have HQ : Hid ((pre ++ (bit, data) :: post)[pre.length]? = some (bit, data)) := by show _ = _; simp
  have HO := hide hown; have HOK := hide hok; have HNO := hide hno; have HC := hide hc
  clear hown hok hno hc
  generalize pre ++ (bit, data) :: post = loose at *
  go_enter Try.func59, Try.ntmps59
  go_wp2
  go_loopw [8] (fun x wr => ∃ k : Nat, k ≤ pre.length ∧ x = .int .i64 k ∧ Hid (Below w.heap.size w wr)) (fun x _ => loose.length - (intOf x).toNat)
  case atStart => exact ⟨0, Nat.zero_le _, rfl, hide (Below.refl _ _)⟩
  case round =>
    obtain ⟨k, hk, rfl, HB⟩ := hrel
    have hkl : k < loose.length := by omega
    by_cases hkp : k < pre.length
    · have HLD := hide (load_write wr base lg _ cap loose (ownsLater HO.out HB.out) HOK.out k pre[k] (HP.out k hkp))
      have hne := HNO.out pre[k] (List.getElem_mem hkp)
      generalize pre[k] = p at *
      obtain ⟨b1, dat⟩ := p
      have hbe : (b1 == bit) = false := beq_false_of_ne hne
      go_wp2_with (show wpList _ _ _ ({ dst := some 15, op := _, type := _, pos := _, after := _, guard := _ } :: _) _ _; refine wpList_loadA rfl 15 rfl (.tmp 14) 88 rfl ⟨lg, k * 65, none⟩ _ rfl HLD.out ?_)
      refine (addC_any wr (dat.map byteC) b1 bit bb ((HB.out.cell (p := ⟨bb, 0, none⟩) hlt).trans HC.out) (Nat.lt_of_lt_of_le hlt HB.out.size)).mono ?_
      rintro e w2 ⟨rfl, hb2⟩
      rw [hbe]
      have HB2 := hide (HB.out.trans (hb2.mono HB.out.size))
      clear hb2 HLD hbe hne HB
      go_wp2
      go_roundw
      case rel => exact ⟨k + 1, by omega, by go_num, HB2⟩
      case measure => simp [intOf]; omega
    · obtain rfl : k = pre.length := by omega
      have HLD := hide (load_write wr base lg _ cap loose (ownsLater HO.out HB.out) HOK.out pre.length (bit, data) HQ.out)
      have hbe : (bit == bit) = true := by simp
      go_wp2_with (show wpList _ _ _ ({ dst := some 15, op := _, type := _, pos := _, after := _, guard := _ } :: _) _ _; refine wpList_loadA rfl 15 rfl (.tmp 14) 88 rfl ⟨lg, pre.length * 65, none⟩ _ rfl HLD.out ?_)
      refine (addC_any wr (data.map byteC) bit bit bb ((HB.out.cell (p := ⟨bb, 0, none⟩) hlt).trans HC.out) (Nat.lt_of_lt_of_le hlt HB.out.size)).mono ?_
      rintro e w2 ⟨rfl, hb2⟩
      rw [hbe]
      have HB2 := hide (HB.out.trans (hb2.mono HB.out.size))
      clear hb2 HLD hbe HB
      go_wp2
      go_ret
      exact ⟨rfl, HB2.out⟩

end Go.Proofs.Ytjgodhfnnifchaa
