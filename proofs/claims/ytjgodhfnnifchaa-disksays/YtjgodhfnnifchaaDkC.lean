/- A disk: a sector is read. -/
import Derived.Test.YtjgodhfnnifchaaDkB
import Derived.Laws.IdiomStrings
namespace Go.Proofs.Ytjgodhfnnifchaa
open Go.RowKit

theorem scells_len {s : Sec} (h : s.ok) (v : Value) : (scells s v).length = 65 := by
  simp [scells, h.1]

theorem dcells_at : ∀ (ss : List Sec) (vs : List Value), (∀ s ∈ ss, s.ok) → ∀ (i : Nat) (s : Sec) (v : Value), ss[i]? = some s → vs[i]? = some v → ∀ j, j < 65 → (dcells ss vs)[i * 65 + j]? = (scells s v)[j]?
  | [], _, _, i, s, v, hs, _, _, _ => by simp at hs
  | _ :: _, [], _, i, s, v, _, hv, _, _ => by simp at hv
  | s0 :: ss, v0 :: vs, hok, 0, s, v, hs, hv, j, hj => by
    have e1 : s0 = s := by simpa using hs
    have e2 : v0 = v := by simpa using hv
    subst e1 e2
    have hl := scells_len (hok s0 (by simp)) v0
    rw [dcells, Nat.zero_mul, Nat.zero_add, List.getElem?_append_left (by omega)]
  | s0 :: ss, v0 :: vs, hok, i + 1, s, v, hs, hv, j, hj => by
    have hl := scells_len (hok s0 (by simp)) v0
    rw [dcells, List.getElem?_append_right (by omega), hl, show (i + 1) * 65 + j - 65 = i * 65 + j by omega]
    exact dcells_at ss vs (fun s hs => hok s (by simp [hs])) i s v (by simpa using hs) (by simpa using hv) j hj

theorem owns_cell {W : World} {base : Nat} {e : TypeId} {size : Nat} {g n cap : Nat} {xs : List Value} (h : W.ownsRow base e size (.slice (some ⟨g, 0, none⟩) n cap) n xs) (k : Nat) (u : Value) (hu : xs[k]? = some u) : W.cell? ⟨g, k, none⟩ = some u := by
  rcases h.2 with ⟨e, -⟩ | ⟨g', cap', cur, e, -, hh, -, -, -, ht⟩
  · simp at e
  · simp only [Value.slice.injEq, Option.some.injEq, Addr.mk.injEq, and_true, true_and] at e
    obtain ⟨rfl, rfl⟩ := e
    rw [cell_of_row W g k _ _ _ hh, ← Array.getElem?_toList]
    rw [← ht] at hu
    rw [List.getElem?_take] at hu
    split at hu
    · exact hu
    · cases hu

theorem owns_thaw {W : World} {base : Nat} {e : TypeId} {size : Nat} {g n cap : Nat} {xs : List Value} (h : W.ownsRow base e size (.slice (some ⟨g, 0, none⟩) n cap) n xs) (k : Nat) : W.frozen? ⟨g, k, none⟩ = false := by
  rcases h.2 with ⟨e, -⟩ | ⟨g', cap', cur, e, -, hh, -⟩
  · simp at e
  · simp only [Value.slice.injEq, Option.some.injEq, Addr.mk.injEq, and_true, true_and] at e
    obtain ⟨rfl, rfl⟩ := e
    simp [World.frozen?, hh]

/-- One sector's cells. -/
theorem DiskM.sec {W : World} {base B : Nat} {D : Dsk} {g cap : Nat} {ls : List Value} (h : DiskM W base B D (.slice (some ⟨g, 0, none⟩) D.secs.length cap) ls) (i : Nat) (hi : i < D.secs.length) :
    ∃ v, ls[i]? = some v ∧ W.cell? ⟨g, i * 65 + 64, none⟩ = some v ∧ (∀ j (hj : j < D.secs[i].kept.length), W.cell? ⟨g, i * 65 + j, none⟩ = some (byteC D.secs[i].kept[j])) ∧ W.ownsRow base 88 65 v D.secs[i].loose.length (D.secs[i].loose.flatMap wcells) := by
  have hs : D.secs[i]? = some D.secs[i] := List.getElem?_eq_getElem hi
  have hv : ls[i]? = some (ls[i]'(by rw [h.len]; exact hi)) := List.getElem?_eq_getElem _
  have hok := h.ok D.secs[i] (List.getElem_mem hi)
  refine ⟨_, hv, ?_, fun j hj => ?_, h.loose i _ _ hs hv⟩
  · refine owns_cell h.own _ _ ?_
    rw [dcells_at _ _ h.ok i _ _ hs hv 64 (by omega)]
    unfold scells
    rw [List.getElem?_append_right (by simp [hok.1])]
    simp [hok.1]
  · refine owns_cell h.own _ _ ?_
    rw [dcells_at _ _ h.ok i _ _ hs hv j (by have := hok.1; omega)]
    unfold scells
    rw [List.getElem?_append_left (by simpa using hj), List.getElem?_map, List.getElem?_eq_getElem hj]
    rfl

theorem wcells_at : ∀ (l : List (Int × List UInt8)), (∀ p ∈ l, p.2.length = 64) → ∀ (i : Nat) (p : Int × List UInt8), l[i]? = some p → ∀ j, j < 65 → (l.flatMap wcells)[i * 65 + j]? = (wcells p)[j]?
  | [], _, i, p, hp, _, _ => by simp at hp
  | p0 :: l, hok, 0, p, hp, j, hj => by
    have e1 : p0 = p := by simpa using hp
    subst e1
    have hl : (wcells p0).length = 65 := by simp [wcells, hok p0 (by simp)]
    rw [List.flatMap_cons, Nat.zero_mul, Nat.zero_add, List.getElem?_append_left (by omega)]
  | p0 :: l, hok, i + 1, p, hp, j, hj => by
    have hl : (wcells p0).length = 65 := by simp [wcells, hok p0 (by simp)]
    rw [List.flatMap_cons, List.getElem?_append_right (by omega), hl, show (i + 1) * 65 + j - 65 = i * 65 + j by omega]
    exact wcells_at l (fun p hp => hok p (by simp [hp])) i p (by simpa using hp) j hj

/-- What stands in a sector now. -/
def Sec.seen (s : Sec) : List UInt8 := match s.loose.getLast? with
  | some p => p.2
  | none => s.kept

/-- What is read. -/
def Dsk.readErr (D : Dsk) (at' : Int) : Value := if D.down = true then errno 9 else if 0 ≤ at' ∧ at' < D.secs.length then .nilIface else errno 1

theorem conv_bytes (w : World) (g o : Nat) (l : List UInt8) (hl : l.length = 64) (hc : ∀ j (hj : j < l.length), w.cell? ⟨g, o + j, none⟩ = some (byteC l[j])) :
    (convert 86 9 (.slice (some ⟨g, o, none⟩) 64 64)).run Try.prog w = .ok (.string ⟨l.toArray⟩) w := by
  have h := run_convert_bytes_back (P := Try.prog) w 86 9 5 ⟨g, o, none⟩ 64 l Try.underlying86 Try.underlying5 Try.underlying9 (fun j hj => by
    have e : (⟨g, o, none⟩ : Addr).add j = ⟨g, o + j, none⟩ := by unfold Addr.add; split <;> simp_all
    rw [e]; exact hc j hj)
  rw [hl] at h
  exact h

set_option maxRecDepth 100000 in
set_option maxHeartbeats 1600000 in
theorem read_ok (w : World) (base B : Nat) (D : Dsk) (k : Nat) (s : Sec) (h : DiskO w base B D) (hd : D.down = false) (hs : D.secs[k]? = some s) (h2 : D.secs.length ≤ 200) :
    Calls Try.prog 15 #[.pointer (some ⟨B, 0, none⟩), .int .i64 (k : Int)] w fun e w' => e = .returned (.tuple #[.string ⟨s.seen.toArray⟩, .nilIface]) ∧ Below w.heap.size w w' := by
  have HO := hide h
  obtain ⟨hk, e⟩ := List.getElem?_eq_some_iff.1 hs
  subst e
  clear hs
  obtain ⟨sv, ls, h⟩ := h
  obtain ⟨g, cap, rfl, -, -, hcap⟩ := h.list (by omega)
  obtain ⟨c0, -, -, c3, -⟩ := h.cells
  rw [hd] at c3
  have HM := hide h
  have HSEC : Hid (∀ w1 : World, Below w.heap.size w w1 → ∃ v, w1.cell? ⟨g, k * 65 + 64, none⟩ = some v ∧ (∀ j (hj : j < D.secs[k].kept.length), w1.cell? ⟨g, k * 65 + j, none⟩ = some (byteC D.secs[k].kept[j])) ∧ w1.ownsRow base 88 65 v D.secs[k].loose.length (D.secs[k].loose.flatMap wcells)) := fun w1 hb => by
    obtain ⟨v, -, h⟩ := (HM.out.later hb).sec k hk
    exact ⟨v, h⟩
  have hok := h.ok D.secs[k] (List.getElem_mem hk)
  clear h
  generalize D.secs[k] = s at *
  obtain ⟨kept, loose⟩ := s
  simp only at HSEC
  have hhas : decide (0 ≤ (k : Int) ∧ (k : Int) < D.secs.length) = true := decide_eq_true ⟨by omega, by omega⟩
  go_enter Try.func15, Try.ntmps15
  go_wp2_with fail
  refine (has_any w base B D k HO.out).mono ?_
  rintro e w1 ⟨rfl, hb1⟩
  rw [hhas]
  clear hhas
  have HB := hide hb1
  have HM1 := hide (HM.out.later hb1)
  clear hb1 c0 c3 HM HO
  obtain ⟨c0, -⟩ := HM1.out.cells
  obtain ⟨v, cv, hb, hown⟩ := HSEC.out w1 HB.out
  clear HSEC
  by_cases h0 : loose = []
  · subst h0
    have hcv := conv_bytes w1 g (k * 65) kept hok.1 hb
    have hv : v = .slice none 0 0 ∨ ∃ a c, v = .slice (some a) 0 c := by
      rcases hown.2 with ⟨e, -⟩ | ⟨g', cap', cur, e, -⟩
      · exact .inl e
      · exact .inr ⟨_, _, e⟩
    clear hb hown hok HM1
    rcases hv with rfl | ⟨a, c, rfl⟩
    · go_wp2
      exact bodyPost_ret (v := .tuple #[.string ⟨kept.toArray⟩, .nilIface]) (by simp [results, Try.results15, go_sem]) rfl ⟨rfl, HB.out⟩
    · go_wp2
      exact bodyPost_ret (v := .tuple #[.string ⟨kept.toArray⟩, .nilIface]) (by simp [results, Try.results15, go_sem]) rfl ⟨rfl, HB.out⟩
  · obtain ⟨l, p, rfl⟩ : ∃ l p, loose = l ++ [p] := ⟨loose.dropLast, loose.getLast h0, (List.dropLast_concat_getLast h0).symm⟩
    have hp := (hok.2 p (by simp)).1
    have HSEEN : Hid (Sec.seen ⟨kept, l ++ [p]⟩ = p.2) := by show _ = _; simp [Sec.seen]
    obtain ⟨bit, data⟩ := p
    rcases hown.2 with ⟨-, e⟩ | ⟨lg, lcap, cur, e, -, -, hlc, hlm, -⟩
    · simp at e
    rw [e] at hown
    have hcells : ∀ j (hj : j < data.length), w1.cell? ⟨lg, l.length * 65 + 1 + j, none⟩ = some (byteC data[j]) := fun j hj => by
      refine owns_cell hown _ _ ?_
      simp only at hp
      rw [show l.length * 65 + 1 + j = l.length * 65 + (1 + j) by omega, wcells_at _ (fun p hp => (hok.2 p hp).1) l.length (bit, data) (by simp) (1 + j) (by omega)]
      rw [show (1 + j) = j + 1 by omega]
      simp [wcells, hj]
    have hcv := conv_bytes w1 lg (l.length * 65 + 1) data hp hcells
    rw [List.length_append, List.length_singleton] at e hlc
    subst e
    clear hb hown hok HM1 hcells hp
    have hlm' : l.length + 1 ≤ 9223372036854775807 := by unfold maxLen at hlm; omega
    clear hlm
    go_wp2
    exact bodyPost_ret (v := .tuple #[.string ⟨data.toArray⟩, .nilIface]) (by simp [results, Try.results15, go_sem]) rfl ⟨by rw [HSEEN.out], HB.out⟩

end Go.Proofs.Ytjgodhfnnifchaa
