/- The reference: what is wrong with a vector; its text. -/
import Derived.Test.YtklhmnejmbgmjabGreatDoorVecT
import Derived.Test.YtklhmnejmbgmjabGreatDoorPieces
import Derived.Test.YtklhmnejmbgmjabGreatDoorRefK
namespace Go.Proofs.YtklhmnejmbgmjabGreatDoor
open Go.RowKit Limbs Digs

def faultV (rs : List Raw) : Int := if rs.length < 1 ∨ 8 < rs.length then 6 else faulty (rs.all Raw.num)

set_option maxRecDepth 100000 in
set_option maxHeartbeats 1600000 in
theorem vecFault_any (w : World) (v : Value) (rs : List Raw) (hv : VecL w v rs) (hmx : rs.length ≤ 1000000) :
    Calls Tryz.prog 11 #[v] w fun e w' => e = .returned (.int .i64 (faultV rs)) ∧ Below w.heap.size w w' := by
  have HV := hide hv
  obtain ⟨ao, cap, rfl, -, hc⟩ := hv
  by_cases h1 : rs.length < 1
  · have e : faultV rs = 6 := if_pos (.inl h1)
    rw [e]
    have hl : (rs.length : Int) < 1 := by omega
    have hld : decide ((rs.length : Int) < 1) = true := decide_eq_true hl
    clear hc e
    go_enter Tryz.func11, Tryz.ntmps11
    go_wp2
    go_ret
    exact ⟨rfl, Below.refl _ _⟩
  · have hl : ¬ ((rs.length : Int) < 1) := by omega
    have hld : decide ((rs.length : Int) < 1) = false := decide_eq_false hl
    by_cases h2 : 8 < rs.length
    · have e : faultV rs = 6 := if_pos (.inr h2)
      rw [e]
      have hl2 : (8 : Int) < (rs.length : Int) := by omega
      have hld2 : decide ((8 : Int) < (rs.length : Int)) = true := decide_eq_true hl2
      clear hc e
      go_enter Tryz.func11, Tryz.ntmps11
      go_wp2
      go_ret
      exact ⟨rfl, Below.refl _ _⟩
    · have e : faultV rs = faulty (rs.all Raw.num) := if_neg (by omega)
      rw [e]
      have hl2 : ¬ ((8 : Int) < (rs.length : Int)) := by omega
      have hld2 : decide ((8 : Int) < (rs.length : Int)) = false := decide_eq_false hl2
      obtain ⟨b, off, rfl, hlt, -⟩ := hc (by omega)
      clear e
      generalize hall : rs.all Raw.num = al
      have HALL : Hid (rs.all Raw.num = al) := hall
      clear hall
      go_enter Tryz.func11, Tryz.ntmps11
      go_wp2
      go_loopw [3] (fun i wr => ∃ k : Nat, k ≤ rs.length ∧ i = .int .i64 k ∧ Hid ((rs.take k).all Raw.num = true) ∧ Below w.heap.size w wr) (fun i _ => rs.length - (intOf i).toNat)
      case atStart => exact ⟨0, Nat.zero_le _, rfl, by show _ = _; simp, Below.refl _ _⟩
      case round =>
        obtain ⟨k, hk, rfl, HG, hbe⟩ := hrel
        by_cases hkl : k < rs.length
        · obtain ⟨_, _, e, -, hc⟩ := HV.out.below hbe (Nat.le_refl _)
          simp only [Value.slice.injEq, true_and] at e
          obtain ⟨rfl, rfl⟩ := e
          obtain ⟨_, _, e, hb2, hc⟩ := hc (by omega)
          simp only [Option.some.injEq, Addr.mk.injEq, and_true] at e
          obtain ⟨rfl, rfl⟩ := e
          obtain ⟨c0, c1, hL⟩ := hc k rs[k] (by simp [hkl])
          clear hc
          have HT : Hid ((rs.take (k + 1)).all Raw.num = rs[k].num) := by
            show _ = _
            rw [List.take_succ_eq_append_getElem hkl, List.all_append, HG.out]; simp
          have HE : Hid (rs[k].num = false → al = false) := fun h => by
            rw [← HALL.out, List.all_eq_false]; exact ⟨rs[k], List.getElem_mem hkl, by simp [h]⟩
          generalize rs[k] = r at *
          obtain ⟨rn, rsl, rz⟩ := r
          have HL := hide hL
          have HBE := hide hbe
          obtain ⟨ro, rcap, e, -⟩ := hL
          simp only at e c0 c1
          subst e
          clear hbe
          go_wp2_with fail
          refine (intFault_any _ _ _ _ HL.out).mono ?_
          rintro e w1 ⟨rfl, hb1⟩
          have HB1 := hide (HBE.out.trans (hb1.mono HBE.out.size))
          clear hb1
          cases hn : isNum rn rz
          · obtain rfl := HE.out hn
            have e : faulty false = 3 := rfl
            rw [e]
            clear HT HE e
            go_wp2
            go_ret
            exact ⟨rfl, HB1.out⟩
          · have e : faulty true = 0 := rfl
            rw [e]
            have HG' := hide (HT.out.trans hn)
            clear HT HE HG e
            go_wp2
            go_roundw
            case rel => exact ⟨k + 1, by omega, by go_num, HG', HB1.out⟩
            case measure => simp [intOf]; omega
        · obtain rfl : k = rs.length := by omega
          obtain rfl : al = true := by have := HG.out; rw [List.take_length, HALL.out] at this; exact this
          have HBE := hide hbe
          clear hbe HG HALL
          go_wp2
          go_ret
          exact ⟨rfl, HBE.out⟩

theorem join_snoc (c : UInt8) (x : List UInt8) : ∀ xs : List (List UInt8), xs ≠ [] → Lib.join (xs ++ [x]) [c] = Lib.join xs [c] ++ c :: x
  | [], h => absurd rfl h
  | [y], _ => by rw [List.singleton_append, join_two, Lib.join_one, Lib.join_one]
  | y :: z :: r, _ => by
    have ih := join_snoc c x (z :: r) (by simp)
    rw [List.cons_append, List.cons_append, join_two, ← List.cons_append, ih, join_two]
    simp

/-- The text of so many numbers, without its end. -/
def ptxt (zs : List Int) : List UInt8 := 40 :: Lib.join (zs.map txt) [32]

theorem ptxt_nil : ptxt [] = [40] := rfl
theorem ptxt_one (z : Int) : ptxt [z] = 40 :: txt z := by unfold ptxt; rw [List.map_singleton, Lib.join_one]
theorem ptxt_snoc (zs : List Int) (z : Int) (h : zs ≠ []) : ptxt (zs ++ [z]) = ptxt zs ++ 32 :: txt z := by
  unfold ptxt
  rw [List.map_append, List.map_singleton, join_snoc _ _ _ (by simpa using h)]
  rfl

theorem bytes_app (a b : List UInt8) : bytes a ++ bytes b = bytes (a ++ b) := by
  apply ByteArray.ext
  simp [bytes]

theorem bytes_size (a : List UInt8) : (bytes a).size = a.length := rfl

theorem join_lenZ (c : UInt8) (m : Nat) : ∀ xs : List (List UInt8), (∀ x ∈ xs, x.length ≤ m) → (Lib.join xs [c]).length ≤ xs.length * (m + 1)
  | [], _ => by simp [Lib.join]
  | [x], h => by
    rw [Lib.join_one]
    have := h x (by simp)
    simp; omega
  | x :: y :: r, h => by
    have ih := join_lenZ c m (y :: r) fun z hz => h z (List.mem_cons_of_mem _ hz)
    have := h x (by simp)
    rw [join_two, List.length_append, List.length_cons, List.length_cons, Nat.add_mul]
    omega

theorem ptxt_len (zs : List Int) (h : ∀ z ∈ zs, (txt z).length ≤ 400) (h8 : zs.length ≤ 8) : (ptxt zs).length ≤ 4000 := by
  unfold ptxt
  have := join_lenZ 32 400 (zs.map txt) (fun x hx => by
    obtain ⟨z, hz, rfl⟩ := List.mem_map.1 hx
    exact h z hz)
  rw [List.length_map] at this
  have : zs.length * 401 ≤ 8 * 401 := Nat.mul_le_mul_right _ h8
  rw [List.length_cons]
  omega

set_option maxRecDepth 100000 in
set_option maxHeartbeats 1600000 in
theorem vecText_any (w : World) (v : Value) (zs : List Int) (n : Nat) (hv : VecN w v zs n) (hn : n ≤ 1000) (h8 : zs.length ≤ 8) (ht : ∀ z ∈ zs, (txt z).length ≤ 400) :
    Calls Tryz.prog 32 #[v] w fun e w' => e = .returned (.string ⟨(vtxt zs).toArray⟩) ∧ Below w.heap.size w w' := by
  have HV := hide hv; have HT := hide ht
  obtain ⟨ao, cap, rfl, -, -⟩ := hv
  clear ht
  go_enter Tryz.func32, Tryz.ntmps32
  go_wp2
  go_loopw [3, 4] (fun s i wr => ∃ k : Nat, k ≤ zs.length ∧ i = .int .i64 k ∧ s = .string (bytes (ptxt (zs.take k))) ∧ Below w.heap.size w wr) (fun _ i _ => zs.length - (intOf i).toNat)
  case atStart => exact ⟨0, Nat.zero_le _, rfl, rfl, Below.refl _ _⟩
  case round =>
    obtain ⟨k, hk, rfl, rfl, hbe⟩ := hrel
    have HBE := hide hbe
    clear hbe
    have hpl : (bytes (ptxt (zs.take k))).size ≤ 4000 := by
      rw [bytes_size]; exact ptxt_len _ (fun z hz => HT.out z (List.mem_of_mem_take hz)) (by rw [List.length_take]; omega)
    by_cases hkl : k < zs.length
    · obtain ⟨ab, aoff, _, e⟩ := HV.out.form (by omega)
      simp only [Value.slice.injEq, true_and] at e
      obtain ⟨rfl, rfl⟩ := e
      obtain ⟨la, an, ao, al, ac, a0, a1, na⟩ := (HV.out.below HBE.out (Nat.le_refl _)).at k hkl
      have NA := hide na
      have hzl : (txt (zs.getD k 0)).length ≤ 400 := HT.out _ (by rw [List.getD_eq_getElem?_getD, List.getElem?_eq_getElem hkl]; exact List.getElem_mem hkl)
      have HTK : Hid (zs.take (k + 1) = zs.take k ++ [zs.getD k 0]) := by
        show _ = _
        rw [List.take_succ_eq_append_getElem hkl, List.getD_eq_getElem?_getD, List.getElem?_eq_getElem hkl]; rfl
      have HKL : Hid ((zs.take k).length = k) := by show _ = _; rw [List.length_take]; omega
      clear na
      generalize zs.getD k 0 = z at *
      by_cases hk0 : k = 0
      · subst hk0
        have HP : Hid (ptxt (zs.take (0 + 1)) = [40] ++ txt z) := by
          show _ = _
          rw [HTK.out, List.take_zero, List.nil_append, ptxt_one]; rfl
        have e40 : bytes (ptxt (zs.take 0)) = ⟨#[40]⟩ := rfl
        rw [e40]
        simp only [Nat.zero_mul, Nat.add_zero] at a0 a1
        clear hpl e40 HTK
        go_wp2_with fail
        refine (from_any wr _ z n NA.out (by omega)).mono ?_
        rintro e w1 ⟨r, rfl, hr, hb1⟩
        have HR := hide hr
        have HB1 := hide (HBE.out.trans (hb1.mono HBE.out.size))
        clear hr hb1
        go_wp2_with fail
        refine (decimal_of w1 r z (3 * n) HR.out (by omega)).mono ?_
        rintro e w2 ⟨rfl, hb2⟩
        have HB2 := hide (HB1.out.trans (hb2.mono HB1.out.size))
        have hz2 : (⟨(txt z).toArray⟩ : ByteArray).size ≤ 400 := hzl
        clear hb2 HB1 HR HBE NA a0 a1
        go_wp2
        go_roundw
        case rel => exact ⟨0 + 1, by omega, by go_num, by rw [HP.out, ← bytes_app]; rfl, HB2.out⟩
        case measure => simp [intOf]; omega
      · have HP : Hid (ptxt (zs.take (k + 1)) = ptxt (zs.take k) ++ [32] ++ txt z) := by
          show _ = _
          rw [HTK.out, ptxt_snoc _ _ (fun e => hk0 (by have := HKL.out; rw [e] at this; simpa using this.symm))]; simp
        have hkp : (0 : Int) < (k : Int) := by omega
        have h32 : (bytes (ptxt (zs.take k)) ++ ⟨#[32]⟩).size ≤ 4001 := by rw [ByteArray.size_append]; show _ + 1 ≤ _; omega
        clear HTK
        generalize ptxt (zs.take k) = X at *
        go_wp2_with fail
        refine (from_any wr _ z n NA.out (by omega)).mono ?_
        rintro e w1 ⟨r, rfl, hr, hb1⟩
        have HR := hide hr
        have HB1 := hide (HBE.out.trans (hb1.mono HBE.out.size))
        clear hr hb1
        go_wp2_with fail
        refine (decimal_of w1 r z (3 * n) HR.out (by omega)).mono ?_
        rintro e w2 ⟨rfl, hb2⟩
        have HB2 := hide (HB1.out.trans (hb2.mono HB1.out.size))
        have hz2 : (⟨(txt z).toArray⟩ : ByteArray).size ≤ 400 := hzl
        clear hb2 HB1 HR HBE NA a0 a1
        go_wp2
        go_roundw
        case rel => exact ⟨k + 1, by omega, by go_num, by rw [HP.out, ← bytes_app, ← bytes_app]; rfl, HB2.out⟩
        case measure => simp [intOf]; omega
    · obtain rfl : k = zs.length := by omega
      have HF : Hid (bytes (ptxt zs) ++ ⟨#[41]⟩ = ⟨(vtxt zs).toArray⟩) := bytes_app (ptxt zs) [41]
      rw [List.take_length] at hpl ⊢
      clear HV
      go_wp2
      go_ret
      exact ⟨by rw [HF.out]; rfl, HBE.out⟩

end Go.Proofs.YtklhmnejmbgmjabGreatDoor
