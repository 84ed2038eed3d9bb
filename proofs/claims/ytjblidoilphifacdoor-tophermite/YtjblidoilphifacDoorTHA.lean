/- TopHermite: the closed fact; the whole way. -/
import Derived.Test.YtjblidoilphifacDoorTHC
import Derived.Test.YtjblidoilphifacDoorVecT
namespace Go.Proofs.YtjblidoilphifacDoor
open Go.RowKit Limbs

theorem txt_three : txt 3 = [51] := by
  unfold txt Lib.itoa
  rw [if_neg (by decide), show (3 : Int).toNat = 3 from rfl, Lib.decDigits, dif_pos (by decide)]
  rfl

theorem closed_text : vtxt [0, 3] = [40, 48, 32, 51, 41] := by
  unfold vtxt
  rw [List.map_cons, List.map_cons, List.map_nil, txt_zero, txt_three]
  rfl

theorem one_row (w : World) (va : Value) (xs : List Int) (n : Nat) (ha : VecN w va xs n) : MatN (w.alloc (.cells #[va] 26)) (.slice (some ⟨w.heap.size, 0, none⟩) 1 1) [xs] n := by
  have hbA : Below w.heap.size w (w.alloc (.cells #[va] 26)) := (Below.refl _ _).alloc (Nat.le_refl _) _
  refine ⟨_, _, rfl, Nat.le_refl _, fun _ => ⟨_, _, rfl, by simp, fun i zs hi => ?_⟩⟩
  have hlt := (List.getElem?_eq_some_iff.1 hi).1
  obtain rfl : i = 0 := by simpa using hlt
  simp only [List.getElem?_cons_zero, Option.some.injEq] at hi
  subst hi
  exact ⟨va, by rw [World.cell?_alloc_new]; rfl, ha.below hbA (Nat.le_refl _)⟩

set_option linter.unusedSimpArgs false in
set_option maxRecDepth 100000 in
set_option maxHeartbeats 6400000 in
theorem topHermite_any (w : World) (ht : Tab w) (vm vk : Value) (nI iv jv : Int) {rss : List (List Raw)} {kn : Bool} {ko : Option Addr} {kc : Nat} {kz : List Int} (hC : MatC w vm rss) (hk : Came w vk kn ko kc kz) :
    Calls Tryd.prog 4 #[vm, .int .i64 nI, .int .i64 iv, .int .i64 jv, vk] w fun e w' => e = .returned (.bool true) ∧ Below w.heap.size w w' := by
  obtain ⟨rfl, hkl, hkc⟩ := hk
  have HT := hide ht; have HC := hide hC; have HKC := hide hkc
  obtain ⟨mo, mcap, rfl, -, -, -⟩ := hC
  clear ht hkc
  obtain ⟨r, hr⟩ : ∃ r : Bool, r = true ↔ LightP rss nI := by
    by_cases h : LightP rss nI
    · exact ⟨true, fun _ => h, fun _ => rfl⟩
    · exact ⟨false, fun h' => (by cases h'), fun h' => absurd h' h⟩
  have HR := hide hr
  clear hr
  have hbx0 : Box (w.alloc (.cells #[.bool kn, .slice ko kz.length kc] 24)) w.heap.size (.bool kn) (.slice ko kz.length kc) := box_new w _ _ _ _ rfl
  have hb0 : Below w.heap.size w (w.alloc (.cells #[.bool kn, .slice ko kz.length kc] 24)) := (Below.refl _ _).alloc (Nat.le_refl _) _
  have HBX0 := hide hbx0; have HB0 := hide hb0
  have HRS : Hid (RowS ((w.alloc (.cells #[.bool kn, .slice ko kz.length kc] 24)).alloc (.cells #[.int .i64 0, .int .i64 (-3)] 3)) (.slice (some ⟨w.heap.size + 1, 0, none⟩) 2 2) [0, -3]) := by
    refine ⟨_, _, rfl, Nat.le_refl _, fun i => ?_, fun _ => ⟨_, _, rfl, by simp, fun i hi => ?_⟩⟩
    · match i with
      | 0 => decide
      | 1 => decide
      | i + 2 => simp
    · have ew : w.heap.size + 1 = (w.alloc (.cells #[.bool kn, .slice ko kz.length kc] 24)).heap.size := by simp
      rw [ew]
      match i, hi with
      | 0, _ => rw [World.cell?_alloc_new]; rfl
      | 1, _ => rw [World.cell?_alloc_new]; rfl
  have HB1 : Hid (Below (w.heap.size + 1) (w.alloc (.cells #[.bool kn, .slice ko kz.length kc] 24)) ((w.alloc (.cells #[.bool kn, .slice ko kz.length kc] 24)).alloc (.cells #[.int .i64 0, .int .i64 (-3)] 3))) := (Below.refl _ _).alloc (by simp) _
  have HOF := hide (ofV_any _ _ [0, -3] HRS.out (by decide))
  clear hbx0 hb0 HRS
  go_enter Tryd.func4, Tryd.ntmps4
  go_wp2_with fail
  refine HOF.out.mono ?_
  rintro e w2 ⟨P, rfl, ho2⟩
  have hb2 : Below (w.heap.size + 1) (w.alloc (.cells #[.bool kn, .slice ko kz.length kc] 24)) w2 := HB1.out.trans (ho2.below.mono (by simp))
  have HV2 := hide ho2.vec
  have HBX2 := hide (HBX0.out.later hb2 (by omega))
  have HB2 := hide (HB0.out.trans (hb2.mono (by omega)))
  have hsz2 : w.heap.size + 1 ≤ w2.heap.size := by have := hb2.size; simpa using this
  rw [show ([0, -3] : List Int).length = 2 from rfl]
  have HM2 := hide (one_row w2 _ [0, -3] 2 HV2.out)
  have HHE : Hid (Calls Tryd.prog 17 #[.slice (some ⟨w2.heap.size, 0, none⟩) 1 1, .int .i64 2] (w2.alloc (.cells #[.slice (some ⟨P, 0, none⟩) 2 2] 26)) fun e w' => HermPost (w2.alloc (.cells #[.slice (some ⟨P, 0, none⟩) 2 2] 26)) 2 2 [[0, -3]] e w') :=
    hermite_any _ _ [[0, -3]] 2 2 HM2.out (fun us h => by rw [List.mem_singleton] at h; rw [h]; rfl) (by decide) (by decide) (by decide) (by decide)
  have HB2a : Hid (Below w2.heap.size w2 (w2.alloc (.cells #[.slice (some ⟨P, 0, none⟩) 2 2] 26))) := (Below.refl _ _).alloc (Nat.le_refl _) _
  clear ho2 hb2 HV2 HOF HM2 HB1 HBX0 HB0
  go_wp2_with fail
  refine HHE.out.mono ?_
  rintro e w3 ⟨u3, hs, p, rfl, h1, h2, h3, h4, h5⟩
  obtain rfl := closed_form h4 h5
  have hb3 : Below w2.heap.size w2 w3 := HB2a.out.trans (h3.mono (by simp))
  obtain ⟨ob, ooff, ocap, rfl, olt, uv, cv, hv⟩ := h1.at 0 (by decide)
  have HBX3 := hide (HBX2.out.later hb3 (by omega))
  have HB3 := hide (HB2.out.trans (hb3.mono HB2.out.size))
  have hsz3 : w.heap.size < w3.heap.size := by have := hb3.size; omega
  have HTX : Hid (Calls Tryd.prog 15 #[uv] w3 fun e w' => e = .returned (.string ⟨#[40, 48, 32, 51, 41]⟩) ∧ Below w3.heap.size w3 w') := by
    have := vtext_any w3 uv [0, 3] _ (HT.out.below HB3.out) hv (by decide) (by decide) (by decide) (by
      rw [List.map_cons, List.map_cons, List.map_nil, txt_zero, txt_three]
      decide)
    rw [closed_text] at this
    exact this
  rw [show ([[0, 3]] : List (List Int)).length = 1 from rfl]
  rw [Nat.add_zero] at cv
  obtain ⟨vo, vcap, rfl, -, -⟩ := hv
  clear h1 h2 h3 h4 h5 HHE hb3 HB2a HB2 HBX2
  go_wp2_with fail
  refine HTX.out.mono ?_
  rintro e w4 ⟨rfl, hb4⟩
  have HBX4 := hide (HBX3.out.later hb4 hsz3)
  have HB4 := hide (HB3.out.trans (hb4.mono HB3.out.size))
  have hsz4 : w.heap.size < w4.heap.size := Nat.lt_of_lt_of_le hsz3 hb4.size
  clear hb4 HTX HB3 HBX3 hsz3
  go_upto_region 4 with fail
  go_cut [13] from 25 (fun v wc => v = .bool r ∧ Below w4.heap.size w4 wc)
  case first =>
    go_wp2_with fail
    refine (lightT_any w4 _ rss nI (HC.out.below HB4.out) r HR.out).mono ?_
    rintro e w5 ⟨rfl, hb5⟩
    have HB5 := hide hb5
    clear hb5
    go_wp2
    go_meet
    case rel => exact ⟨rfl, HB5.out⟩
  case rest =>
  obtain ⟨rfl, hb5⟩ := hcut
  apply_assumption
  exact topHermite_C w _ mo mcap nI iv jv rss kn ko kc kz r (HB4.out.trans (hb5.mono HB4.out.size)) HC.out HR.out hkl HKC.out (HBX4.out.later hb5 hsz4) (Nat.lt_of_lt_of_le hsz4 hb5.size) _ _ _ _ _ _ _ _ _ _ _ _ _ _ _ _ _ _ _ _ _ _ _ _ _ _ _ _ _ _ _ _ _ _ _ _ _ _ _ _ _ _ _ _ _ _ _ _ _ _ _ _ _ _ _ _ _ _ _ _ _ _ _ _ _ _ _ _ _ _ _ _ _ _ _ _ _ _ _ _ _ _ _ _ _ _ _ _ _ _ _ _ _ _ _ _ _ _ _ _ _ _ _ _ _ _ _ _ _ _ _ _ _ _ _ _ _ _ _ _ _ _ _ _ _ _ _ _ _ _ _ _ _ _ _ _ _ _ _ _ _ _ _ _ _ _ _ _ _ _ _ _ _ _ _ _ _ _ _ _ _ _ _ _ _ _ _ _ _ _ _ _ _ _

end Go.Proofs.YtjblidoilphifacDoor
