/- A disk: its small methods. -/
import Derived.Test.YtjgodhfnnifchaaDkA
namespace Go.Proofs.Ytjgodhfnnifchaa
open Go.RowKit

/-- A cell of a disk's own block is written. -/
theorem Kept.set {base b : Nat} {W : World} {cs : Array Value} {t : TypeId} (hb : base ≤ b) (hh : W.heap[b]? = some (.cells cs t (0, 0))) (ht : diskT t) (k : Nat) (v : Value) : Kept base W (W.setCell ⟨b, k, none⟩ v) := by
  refine ⟨rfl, rfl, rfl, by simp, fun c _ ho => heap_setCell_other _ _ _ _ (fun e => ?_)⟩
  simp only at e
  subst e
  rcases ho with ho | ho
  · omega
  · exact ho _ _ _ hh ht

theorem ownsOther {W : World} {base : Nat} {e : TypeId} {size : Nat} {v : Value} {n : Nat} {xs : List Value} (h : W.ownsRow base e size v n xs) {b : Nat} {cs : Array Value} {t : TypeId} (hh : W.heap[b]? = some (.cells cs t (0, 0))) (ht : t ≠ e) (k : Nat) (u : Value) : (W.setCell ⟨b, k, none⟩ u).ownsRow base e size v n xs := by
  refine ⟨h.1, ?_⟩
  rcases h.2 with hn | ⟨g, cap, cur, ev, hbg, hg, rest⟩
  · exact .inl hn
  · refine .inr ⟨g, cap, cur, ev, hbg, (heap_setCell_other _ _ _ _ (fun e => ?_)).trans hg, rest⟩
    simp only at e
    subst e
    rw [hh] at hg
    simp only [Option.some.injEq, Obj.cells.injEq] at hg
    exact ht hg.2.1

/-- A field of the disk is written. -/
theorem DiskM.field {W : World} {base B : Nat} {D D' : Dsk} {sv : Value} {ls : List Value} (h : DiskM W base B D sv ls) (k : Nat) (v : Value) (hs : D'.secs = D.secs) (hn : D'.number < 64) (hl : -9223372036854775808 ≤ D'.left ∧ D'.left ≤ 9223372036854775807)
    (hc : (#[sv, .int .i64 (D.number : Int), .int .i64 D.left, .bool D.down] : Array Value).setIfInBounds k v = #[sv, .int .i64 (D'.number : Int), .int .i64 D'.left, .bool D'.down]) : DiskM (W.setCell ⟨B, k, none⟩ v) base B D' sv ls := by
  obtain ⟨secs, number, left, down⟩ := D'
  simp only at hs hn hl hc
  subst hs
  refine ⟨h.low, ?_, h.len, ownsOther h.own h.head (by decide) _ _, fun i s v hs hv => ownsOther (h.loose i s v hs hv) h.head (by decide) _ _, h.apart, h.ok, hn, hl⟩
  rw [heap_setCell_same W B k _ _ v h.head, hc]

theorem DiskM.shape {W : World} {base B : Nat} {D : Dsk} {sv : Value} {ls : List Value} (h : DiskM W base B D sv ls) : ∃ so cap, sv = .slice so D.secs.length cap := by
  rcases h.own.2 with ⟨rfl, e⟩ | ⟨g, cap, cur, rfl, -⟩
  · exact ⟨none, 0, by rw [e]⟩
  · exact ⟨_, _, rfl⟩

set_option maxRecDepth 100000 in
theorem sectors_any (w : World) (base B : Nat) (D : Dsk) (h : DiskO w base B D) :
    Calls Try.prog 12 #[.pointer (some ⟨B, 0, none⟩)] w fun e w' => e = .returned (.int .i64 (D.secs.length : Int)) ∧ Below w.heap.size w w' := by
  obtain ⟨sv, ls, h⟩ := h
  obtain ⟨so, cap, rfl⟩ := h.shape
  obtain ⟨c0, -⟩ := h.cells
  clear h
  go_enter Try.func12, Try.ntmps12
  go_wp2
  go_ret
  exact ⟨rfl, Below.refl _ _⟩

set_option maxRecDepth 100000 in
theorem has_any (w : World) (base B : Nat) (D : Dsk) (at' : Int) (h : DiskO w base B D) :
    Calls Try.prog 34 #[.pointer (some ⟨B, 0, none⟩), .int .i64 at'] w fun e w' => e = .returned (.bool (decide (0 ≤ at' ∧ at' < D.secs.length))) ∧ Below w.heap.size w w' := by
  obtain ⟨sv, ls, h⟩ := h
  obtain ⟨so, cap, rfl⟩ := h.shape
  obtain ⟨c0, -⟩ := h.cells
  clear h
  generalize D.secs.length = n at *
  by_cases h1 : 0 ≤ at'
  · have g1 : decide (0 ≤ at') = true := decide_eq_true h1
    have e : decide (0 ≤ at' ∧ at' < n) = decide (at' < n) := by simp [h1]
    rw [e]
    clear e
    generalize hb : decide (at' < (n : Int)) = b
    go_enter Try.func34, Try.ntmps34
    go_wp2
    go_ret
    exact ⟨rfl, Below.refl _ _⟩
  · have g1 : decide (0 ≤ at') = false := decide_eq_false h1
    have e : decide (0 ≤ at' ∧ at' < n) = false := by simp [h1]
    rw [e]
    clear e
    go_enter Try.func34, Try.ntmps34
    go_wp2
    go_ret
    exact ⟨rfl, Below.refl _ _⟩

set_option maxRecDepth 100000 in
theorem down_any (w : World) (base B : Nat) (D : Dsk) (h : DiskO w base B D) :
    Calls Try.prog 22 #[.pointer (some ⟨B, 0, none⟩)] w fun e w' => e = .returned (.bool D.down) ∧ Below w.heap.size w w' := by
  obtain ⟨sv, ls, h⟩ := h
  obtain ⟨-, -, -, c3, -⟩ := h.cells
  clear h
  go_enter Try.func22, Try.ntmps22
  go_wp2
  go_ret
  exact ⟨rfl, Below.refl _ _⟩

/-- What a step leaves, and whether it is taken. -/
def Dsk.stepped (D : Dsk) : Dsk := if D.left = 0 then { D with down := true } else if D.down = false ∧ 0 < D.left then { D with left := D.left - 1 } else D

def Dsk.steps (D : Dsk) : Bool := !D.down && !decide (D.left = 0)

/-- An error of that number. -/
@[reducible] def errno (z : Int) : Value := .iface 71 (.int .i64 z)

def stepErr (D : Dsk) : Value := if D.steps = true then .nilIface else errno 9

set_option maxRecDepth 100000 in
theorem step_any (w : World) (base B : Nat) (D : Dsk) (h : DiskO w base B D) :
    Calls Try.prog 35 #[.pointer (some ⟨B, 0, none⟩)] w fun e w' => e = .returned (stepErr D) ∧ DiskO w' base B D.stepped ∧ Kept base w w' := by
  obtain ⟨sv, ls, h⟩ := h
  have H := hide h
  obtain ⟨-, -, c2, c3, hf⟩ := h.cells
  have f2 := hf 2
  have f3 := hf 3
  have HL := hide h.left
  clear h hf
  obtain ⟨secs, number, left, down⟩ := D
  simp only at *
  by_cases h0 : left = 0
  · subst h0
    have HK := hide (Kept.set H.out.low H.out.head (.inl rfl) 3 (.bool true))
    have HD : Hid (DiskO (w.setCell ⟨B, 3, none⟩ (.bool true)) base B ⟨secs, number, 0, true⟩) := ⟨sv, ls, H.out.field 3 _ rfl H.out.num HL.out rfl⟩
    have e : stepErr ⟨secs, number, 0, down⟩ = errno 9 := by simp [stepErr, Dsk.steps]
    have e2 : Dsk.stepped ⟨secs, number, 0, down⟩ = ⟨secs, number, 0, true⟩ := by simp [Dsk.stepped]
    rw [e, e2]
    clear e e2
    have c3' : (w.setCell ⟨B, 3, none⟩ (.bool true)).cell? ⟨B, 3, none⟩ = some (.bool true) := World.cell?_setCell_same (h := c3) ..
    go_enter Try.func35, Try.ntmps35
    go_wp2
    go_ret
    exact ⟨rfl, HD.out, HK.out⟩
  · have g0 : (left == 0) = false := beq_false_of_ne h0
    cases down with
    | true =>
      have e : stepErr ⟨secs, number, left, true⟩ = errno 9 := by simp [stepErr, Dsk.steps]
      have e2 : Dsk.stepped ⟨secs, number, left, true⟩ = ⟨secs, number, left, true⟩ := by simp [Dsk.stepped, h0]
      rw [e, e2]
      clear e e2
      go_enter Try.func35, Try.ntmps35
      go_wp2
      go_ret
      exact ⟨rfl, ⟨_, _, H.out⟩, Kept.refl _ _⟩
    | false =>
      have e : stepErr ⟨secs, number, left, false⟩ = .nilIface := by simp [stepErr, Dsk.steps, h0]
      rw [e]
      clear e
      by_cases h1 : 0 < left
      · have g1 : decide (0 < left) = true := decide_eq_true h1
        have e2 : Dsk.stepped ⟨secs, number, left, false⟩ = ⟨secs, number, left - 1, false⟩ := by simp [Dsk.stepped, h0, h1]
        rw [e2]
        clear e2
        have HK := hide (Kept.set H.out.low H.out.head (.inl rfl) 2 (.int .i64 (left - 1)))
        have HD : Hid (DiskO (w.setCell ⟨B, 2, none⟩ (.int .i64 (left - 1))) base B ⟨secs, number, left - 1, false⟩) := ⟨sv, ls, H.out.field 2 _ rfl H.out.num (by have := HL.out; simp only; omega) rfl⟩
        have hb := HL.out
        go_enter Try.func35, Try.ntmps35
        go_wp2
        go_ret
        exact ⟨rfl, HD.out, HK.out⟩
      · have g1 : decide (0 < left) = false := decide_eq_false h1
        have e2 : Dsk.stepped ⟨secs, number, left, false⟩ = ⟨secs, number, left, false⟩ := by simp [Dsk.stepped, h0, h1]
        rw [e2]
        clear e2
        go_enter Try.func35, Try.ntmps35
        go_wp2
        go_ret
        exact ⟨rfl, ⟨_, _, H.out⟩, Kept.refl _ _⟩

end Go.Proofs.Ytjgodhfnnifchaa
