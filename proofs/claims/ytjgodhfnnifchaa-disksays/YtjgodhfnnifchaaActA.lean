/- Lists of operations and of acts that came in: are they light? -/
import Derived.Test.YtjgodhfnnifchaaDkA
namespace Go.Proofs.Ytjgodhfnnifchaa
open Go.RowKit

/-- An answer that says something if it is yes. -/
def LightOut (w : World) (p : Prop) (e : Ending) (w' : World) : Prop := ∃ b, e = .returned (.bool b) ∧ (b = true → p) ∧ Below w.heap.size w w'

/-- An operation's text, and its list of numbers. -/
def OpAt (w : World) (b o : Nat) : Prop := ∃ (name : ByteArray) (vo : Option Addr) (vl vc : Nat), w.cell? ⟨b, o + 1, none⟩ = some (.string name) ∧ w.cell? ⟨b, o + 3, none⟩ = some (.slice vo vl vc)

def OpsAt (w : World) (v : Value) (n : Nat) : Prop := ∃ ao cap, v = .slice ao n cap ∧ n ≤ 9223372036854775807 ∧ (0 < n → ∃ b off, ao = some ⟨b, off, none⟩ ∧ b < w.heap.size ∧ ∀ i, i < n → OpAt w b (off + i * 4))

theorem OpsAt.below {C : Nat} {w w' : World} {v : Value} {n : Nat} (h : OpsAt w v n) (hb : Below C w w') (hC : w.heap.size ≤ C) : OpsAt w' v n := by
  obtain ⟨ao, cap, e, hn, h⟩ := h
  refine ⟨ao, cap, e, hn, fun h0 => ?_⟩
  obtain ⟨b, off, e, hlt, h⟩ := h h0
  refine ⟨b, off, e, Nat.lt_of_lt_of_le hlt hb.size, fun i hi => ?_⟩
  obtain ⟨name, vo, vl, vc, h1, h2⟩ := h i hi
  exact ⟨name, vo, vl, vc, (hb.cell (p := ⟨b, off + i * 4 + 1, none⟩) (Nat.lt_of_lt_of_le hlt hC)).trans h1, (hb.cell (p := ⟨b, off + i * 4 + 3, none⟩) (Nat.lt_of_lt_of_le hlt hC)).trans h2⟩

set_option linter.unusedSimpArgs false in
set_option maxRecDepth 100000 in
set_option maxHeartbeats 1600000 in
theorem lightOps_any (w : World) (v : Value) (n : Nat) (most : Nat) (h : OpsAt w v n) (hm : most ≤ 1000) :
    Calls Try.prog 31 #[v, .int .i64 (most : Int)] w fun e w' => LightOut w (n ≤ most) e w' := by
  obtain ⟨ao, cap, rfl, hn, h⟩ := h
  have H := hide h
  clear h
  by_cases hl : (most : Int) < n
  · have g1 : decide ((most : Int) < n) = true := decide_eq_true hl
    go_enter Try.func31, Try.ntmps31
    go_wp2
    go_ret
    exact ⟨false, rfl, fun h => (by cases h), Below.refl _ _⟩
  · have g1 : decide ((most : Int) < n) = false := decide_eq_false hl
    go_enter Try.func31, Try.ntmps31
    go_wp2
    go_loopw [5] (fun x wr => ∃ k : Nat, k ≤ n ∧ x = .int .i64 k ∧ wr = w) (fun x _ => n - (intOf x).toNat)
    case atStart => exact ⟨0, Nat.zero_le _, rfl, rfl⟩
    case round =>
      obtain ⟨k, hk, rfl, hw⟩ := hrel
      subst wr
      by_cases hkl : k < n
      · obtain ⟨b, off, rfl, hlt, hc⟩ := H.out (by omega)
        obtain ⟨name, vo, vl, vc, c1, c3⟩ := hc k hkl
        clear hc
        by_cases h1 : 30 < (name.size : Int)
        · have g2 : decide (30 < (name.size : Int)) = true := decide_eq_true h1
          go_wp2
          go_ret
          exact ⟨false, rfl, fun h => (by cases h), Below.refl _ _⟩
        · have g2 : decide (30 < (name.size : Int)) = false := decide_eq_false h1
          by_cases h2 : 10 < (vl : Int)
          · have g3 : decide (10 < (vl : Int)) = true := decide_eq_true h2
            go_wp2
            go_ret
            exact ⟨false, rfl, fun h => (by cases h), Below.refl _ _⟩
          · have g3 : decide (10 < (vl : Int)) = false := decide_eq_false h2
            go_wp2
            go_roundw
            case rel => exact ⟨k + 1, by omega, by go_num, by first | rfl | trivial⟩
            case measure => simp [intOf]; omega
      · obtain rfl : k = n := by omega
        go_wp2
        go_ret
        exact ⟨true, rfl, fun _ => by omega, Below.refl _ _⟩

/-- Acts: where each is, and what is written. -/
def ActsAt (w : World) (v : Value) (al : List (Int × ByteArray)) : Prop :=
  ∃ ao cap, v = .slice ao al.length cap ∧ al.length ≤ 9223372036854775807 ∧ (0 < al.length → ∃ b off, ao = some ⟨b, off, none⟩ ∧ b < w.heap.size ∧ ∀ i p, al[i]? = some p →
    w.cell? ⟨b, off + i * 9 + 1, none⟩ = some (.int .i64 p.1) ∧ w.cell? ⟨b, off + i * 9 + 2, none⟩ = some (.string p.2) ∧ OpAt w b (off + i * 9 + 4) ∧ ∃ ov n, w.cell? ⟨b, off + i * 9 + 8, none⟩ = some ov ∧ OpsAt w ov n)

theorem ActsAt.below {C : Nat} {w w' : World} {v : Value} {al : List (Int × ByteArray)} (h : ActsAt w v al) (hb : Below C w w') (hC : w.heap.size ≤ C) : ActsAt w' v al := by
  obtain ⟨ao, cap, e, hn, h⟩ := h
  refine ⟨ao, cap, e, hn, fun h0 => ?_⟩
  obtain ⟨b, off, e, hlt, h⟩ := h h0
  have hc : ∀ (k : Nat) (u : Value), w.cell? ⟨b, k, none⟩ = some u → w'.cell? ⟨b, k, none⟩ = some u := fun k u hu => (hb.cell (p := ⟨b, k, none⟩) (Nat.lt_of_lt_of_le hlt hC)).trans hu
  refine ⟨b, off, e, Nat.lt_of_lt_of_le hlt hb.size, fun i p hp => ?_⟩
  obtain ⟨h1, h2, ⟨name, vo, vl, vc, h3, h4⟩, ov, n, h5, h6⟩ := h i p hp
  exact ⟨hc _ _ h1, hc _ _ h2, ⟨name, vo, vl, vc, hc _ _ h3, hc _ _ h4⟩, ov, n, hc _ _ h5, h6.below hb hC⟩

set_option linter.unusedSimpArgs false in
set_option maxRecDepth 100000 in
set_option maxHeartbeats 3200000 in
theorem lightActs_any (w : World) (v : Value) (al : List (Int × ByteArray)) (most : Nat) (h : ActsAt w v al) (hm : most ≤ 1000) :
    Calls Try.prog 8 #[v, .int .i64 (most : Int)] w fun e w' => LightOut w (al.length ≤ most ∧ ∀ p ∈ al, p.2.size ≤ 100) e w' := by
  obtain ⟨ao, cap, rfl, hn, h⟩ := h
  have H := hide h
  clear h
  by_cases hl : (most : Int) < al.length
  · have g1 : decide ((most : Int) < al.length) = true := decide_eq_true hl
    go_enter Try.func8, Try.ntmps8
    go_wp2
    go_ret
    exact ⟨false, rfl, fun h => (by cases h), Below.refl _ _⟩
  · have g1 : decide ((most : Int) < al.length) = false := decide_eq_false hl
    go_enter Try.func8, Try.ntmps8
    go_wp2
    go_loopw [5, 6] (fun s x wr => ∃ (k : Nat) (z : Int), k ≤ al.length ∧ x = .int .i64 k ∧ s = .int .i64 z ∧ Hid (∀ p ∈ al.take k, p.2.size ≤ 100) ∧ Hid (Below w.heap.size w wr)) (fun _ x _ => al.length - (intOf x).toNat)
    case atStart => exact ⟨0, 0, Nat.zero_le _, rfl, rfl, hide (by simp), hide (Below.refl _ _)⟩
    case round =>
      obtain ⟨k, z, hk, rfl, rfl, HS, HB⟩ := hrel
      by_cases hkl : k < al.length
      · obtain ⟨b, off, rfl, hlt, hc⟩ := H.out (by omega)
        obtain ⟨-, c2, ⟨name, vo, vl, vc, c5, c7⟩, ov, n, c8, hov⟩ := hc k al[k] (List.getElem?_eq_getElem hkl)
        have HTK : Hid (al.take (k + 1) = al.take k ++ [al[k]]) := List.take_succ_eq_append_getElem hkl
        generalize al[k] = p at *
        obtain ⟨pa, ps⟩ := p
        simp only at c2
        have hcc : ∀ (k : Nat) (u : Value), w.cell? ⟨b, k, none⟩ = some u → wr.cell? ⟨b, k, none⟩ = some u := fun k u hu => (HB.out.cell (p := ⟨b, k, none⟩) hlt).trans hu
        have d2 := hcc _ _ c2
        have d5 := hcc _ _ c5
        have d7 := hcc _ _ c7
        have d8 := hcc _ _ c8
        have HOV := hide (hov.below HB.out (Nat.le_refl _))
        obtain ⟨oo, oc, rfl, hno, -⟩ := hov
        clear hc hcc c2 c5 c7 c8
        by_cases h1 : 100 < (ps.size : Int)
        · have g2 : decide (100 < (ps.size : Int)) = true := decide_eq_true h1
          go_wp2
          go_ret
          exact ⟨false, rfl, fun h => (by cases h), HB.out⟩
        · have g2 : decide (100 < (ps.size : Int)) = false := decide_eq_false h1
          by_cases h2 : 400 < wrap64 (wrap64 (z + (n : Int)) + 1)
          · have g3 : decide (400 < wrap64 (wrap64 (z + (n : Int)) + 1)) = true := decide_eq_true h2
            go_wp2
            go_ret
            exact ⟨false, rfl, fun h => (by cases h), HB.out⟩
          · have g3 : decide (400 < wrap64 (wrap64 (z + (n : Int)) + 1)) = false := decide_eq_false h2
            by_cases h3 : 30 < (name.size : Int)
            · have g4 : decide (30 < (name.size : Int)) = true := decide_eq_true h3
              go_wp2
              go_ret
              exact ⟨false, rfl, fun h => (by cases h), HB.out⟩
            · have g4 : decide (30 < (name.size : Int)) = false := decide_eq_false h3
              by_cases h4 : 10 < (vl : Int)
              · have g5 : decide (10 < (vl : Int)) = true := decide_eq_true h4
                go_wp2
                go_ret
                exact ⟨false, rfl, fun h => (by cases h), HB.out⟩
              · have g5 : decide (10 < (vl : Int)) = false := decide_eq_false h4
                have HS1 := hide h1
                clear h1 h2 h3 h4
                go_wp2_with fail
                refine (lightOps_any wr _ n 20 (by exact HOV.out) (by decide)).mono ?_
                rintro e w2 ⟨bo, rfl, -, hb2⟩
                have HB2 := hide (HB.out.trans (hb2.mono HB.out.size))
                clear hb2 HOV HB
                cases bo with
                | false =>
                  go_wp2
                  go_ret
                  exact ⟨false, rfl, fun h => (by cases h), HB2.out⟩
                | true =>
                  have HS' : Hid (∀ p ∈ al.take (k + 1), p.2.size ≤ 100) := fun q hq => by
                    rw [HTK.out] at hq
                    rcases List.mem_append.1 hq with hq | hq
                    · exact HS.out q hq
                    · rw [List.mem_singleton] at hq
                      rw [hq]
                      have := HS1.out
                      show ps.size ≤ 100
                      omega
                  go_wp2
                  go_roundw
                  case rel => exact ⟨k + 1, _, by omega, by go_num, rfl, HS', HB2⟩
                  case measure => simp [intOf]; omega
      · obtain rfl : k = al.length := by omega
        rw [List.take_length] at HS
        go_wp2
        go_ret
        exact ⟨true, rfl, fun _ => ⟨by omega, HS.out⟩, HB.out⟩

end Go.Proofs.Ytjgodhfnnifchaa
