/- The other disk in memory. -/
import Derived.Test.YtjgodhfnnifchaaDkW
namespace Go.Proofs.Ytjgodhfnnifchaa
open Go.RowKit

/-- A sector, as a string. -/
@[reducible] def strC (l : List UInt8) : Value := .string ⟨l.toArray⟩

def turnC (x : Nat × List UInt8) : List Value := [.int .i64 (x.1 : Int), strC x.2]

/-- The types of its own blocks. -/
def refT (t : TypeId) : Prop := t = 53 ∨ t = 9 ∨ t = 84

structure RefM (W : World) (base B : Nat) (R : RD) (kv nv wv : Value) : Prop where
  low : base ≤ B
  head : W.heap[B]? = some (.cells #[kv, nv, wv, .int .i64 R.fuse, .bool R.down] 53 (0, 0))
  ownK : W.ownsRow base 9 1 kv R.kept.length (R.kept.map strC)
  ownN : W.ownsRow base 9 1 nv R.now.length (R.now.map strC)
  ownW : W.ownsRow base 84 2 wv R.wait.length (R.wait.flatMap turnC)
  apart : ∀ g, kv.ownBlock = some g → nv.ownBlock ≠ some g
  fuse : -9223372036854775808 ≤ R.fuse ∧ R.fuse ≤ 9223372036854775807

def RefO (W : World) (base B : Nat) (R : RD) : Prop := ∃ kv nv wv, RefM W base B R kv nv wv

/-- What is no block of that disk's stays. -/
structure KeptR (base : Nat) (W W' : World) : Prop where
  os : W'.os = W.os
  tape : W'.tape = W.tape
  output : W'.output = W.output
  size : W.heap.size ≤ W'.heap.size
  block : ∀ b, b < W.heap.size → (b < base ∨ ∀ cs t fz, W.heap[b]? = some (.cells cs t fz) → ¬ refT t) → W'.heap[b]? = W.heap[b]?

theorem KeptR.refl (base : Nat) (W : World) : KeptR base W W := ⟨rfl, rfl, rfl, Nat.le_refl _, fun _ _ _ => rfl⟩

theorem KeptR.trans {base : Nat} {a b c : World} (h : KeptR base a b) (k : KeptR base b c) : KeptR base a c :=
  ⟨k.os.trans h.os, k.tape.trans h.tape, k.output.trans h.output, Nat.le_trans h.size k.size, fun i hi ho => by
    have e := h.block i hi ho
    refine (k.block i (Nat.lt_of_lt_of_le hi h.size) ?_).trans e
    rcases ho with ho | ho
    · exact .inl ho
    · exact .inr fun cs t fz hx => ho cs t fz (by rw [← e]; exact hx)⟩

theorem KeptR.below {base : Nat} {W W' : World} (h : KeptR base W W') (hb : base ≤ W.heap.size) : Below base W W' :=
  ⟨h.os, h.tape, h.output, h.size, fun b hlt => h.block b (by omega) (.inl hlt)⟩

theorem KeptR.of_below {base : Nat} {W W' : World} (h : Below W.heap.size W W') : KeptR base W W' :=
  ⟨h.os, h.tape, h.output, h.size, fun b hb _ => h.block b hb⟩

theorem KeptR.set {base b : Nat} {W : World} {cs : Array Value} {t : TypeId} (hb : base ≤ b) (hh : W.heap[b]? = some (.cells cs t (0, 0))) (ht : refT t) (k : Nat) (v : Value) : KeptR base W (W.setCell ⟨b, k, none⟩ v) := by
  refine ⟨rfl, rfl, rfl, by simp, fun c _ ho => heap_setCell_other _ _ _ _ (fun e => ?_)⟩
  simp only at e
  subst e
  rcases ho with ho | ho
  · omega
  · exact ho _ _ _ hh ht

/-- A row stays where blocks of its type stay. -/
theorem ownsStay {W W' : World} {base : Nat} {e : TypeId} {size : Nat} {v : Value} {n : Nat} {xs : List Value} (h : W.ownsRow base e size v n xs) (hk : ∀ (b : Nat) (cs : Array Value) (fz : Nat × Nat), W.heap[b]? = some (.cells cs e fz) → W'.heap[b]? = W.heap[b]?) : W'.ownsRow base e size v n xs := by
  refine ⟨h.1, ?_⟩
  rcases h.2 with hn | ⟨g, cap, cur, ev, hbg, hg, rest⟩
  · exact .inl hn
  · exact .inr ⟨g, cap, cur, ev, hbg, (hk g _ _ hg).trans hg, rest⟩

theorem apartT {t u : TypeId} (h : diskT t) (k : refT u) : t ≠ u := by
  rcases h with rfl | rfl | rfl <;> rcases k with rfl | rfl | rfl <;> decide

theorem KeptR.stay {base : Nat} {W W' : World} (h : KeptR base W W') {t : TypeId} (ht : diskT t) (b : Nat) (cs : Array Value) (fz : Nat × Nat) (hb : W.heap[b]? = some (.cells cs t fz)) : W'.heap[b]? = W.heap[b]? :=
  h.block b (heap_lt hb) (.inr fun cs' t' fz' hx hr => by
    rw [hb] at hx
    simp only [Option.some.injEq, Obj.cells.injEq] at hx
    exact apartT ht hr hx.2.1)

theorem Kept.stay {base : Nat} {W W' : World} (h : Kept base W W') {t : TypeId} (ht : refT t) (b : Nat) (cs : Array Value) (fz : Nat × Nat) (hb : W.heap[b]? = some (.cells cs t fz)) : W'.heap[b]? = W.heap[b]? :=
  h.block b (heap_lt hb) (.inr fun cs' t' fz' hx hr => by
    rw [hb] at hx
    simp only [Option.some.injEq, Obj.cells.injEq] at hx
    exact apartT hr ht hx.2.1.symm)

/-- What is done to the one leaves the other. -/
theorem DiskO.beside {W W' : World} {base base' B : Nat} {D : Dsk} (h : DiskO W base B D) (hk : KeptR base' W W') : DiskO W' base B D := by
  obtain ⟨sv, ls, h⟩ := h
  exact ⟨sv, ls, h.low, (hk.stay (.inl rfl) _ _ _ h.head).trans h.head, h.len, ownsStay h.own (hk.stay (.inr (.inl rfl))), fun i s v hs hv => ownsStay (h.loose i s v hs hv) (hk.stay (.inr (.inr rfl))), h.apart, h.ok, h.num, h.left⟩

theorem RefO.beside {W W' : World} {base base' B : Nat} {R : RD} (h : RefO W base B R) (hk : Kept base' W W') : RefO W' base B R := by
  obtain ⟨kv, nv, wv, h⟩ := h
  exact ⟨kv, nv, wv, h.low, (hk.stay (.inl rfl) _ _ _ h.head).trans h.head, ownsStay h.ownK (hk.stay (.inr (.inl rfl))), ownsStay h.ownN (hk.stay (.inr (.inl rfl))), ownsStay h.ownW (hk.stay (.inr (.inr rfl))), h.apart, h.fuse⟩

theorem RefM.later {W W' : World} {base B : Nat} {R : RD} {kv nv wv : Value} (h : RefM W base B R kv nv wv) (hb : Below W.heap.size W W') : RefM W' base B R kv nv wv :=
  ⟨h.low, (hb.block _ (heap_lt h.head)).trans h.head, ownsLater h.ownK hb, ownsLater h.ownN hb, ownsLater h.ownW hb, h.apart, h.fuse⟩

theorem RefO.later {W W' : World} {base B : Nat} {R : RD} (h : RefO W base B R) (hb : Below W.heap.size W W') : RefO W' base B R := by
  obtain ⟨kv, nv, wv, h⟩ := h
  exact ⟨kv, nv, wv, h.later hb⟩

theorem RefM.cells {W : World} {base B : Nat} {R : RD} {kv nv wv : Value} (h : RefM W base B R kv nv wv) :
    W.cell? ⟨B, 0, none⟩ = some kv ∧ W.cell? ⟨B, 1, none⟩ = some nv ∧ W.cell? ⟨B, 2, none⟩ = some wv ∧ W.cell? ⟨B, 3, none⟩ = some (.int .i64 R.fuse) ∧ W.cell? ⟨B, 4, none⟩ = some (.bool R.down) ∧ ∀ k, W.frozen? ⟨B, k, none⟩ = false := by
  refine ⟨?_, ?_, ?_, ?_, ?_, fun k => by simp [World.frozen?, h.head]⟩
  · rw [cell_of_row W B 0 _ _ _ h.head]; rfl
  · rw [cell_of_row W B 1 _ _ _ h.head]; rfl
  · rw [cell_of_row W B 2 _ _ _ h.head]; rfl
  · rw [cell_of_row W B 3 _ _ _ h.head]; rfl
  · rw [cell_of_row W B 4 _ _ _ h.head]; rfl

/-- A field is written that is no list. -/
theorem RefM.field {W : World} {base B : Nat} {R : RD} {kv nv wv : Value} (h : RefM W base B R kv nv wv) (k : Nat) (v : Value) (f : Int) (d : Bool) (hf : -9223372036854775808 ≤ f ∧ f ≤ 9223372036854775807)
    (hc : (#[kv, nv, wv, .int .i64 R.fuse, .bool R.down] : Array Value).setIfInBounds k v = #[kv, nv, wv, .int .i64 f, .bool d]) : RefM (W.setCell ⟨B, k, none⟩ v) base B { R with fuse := f, down := d } kv nv wv := by
  refine ⟨h.low, ?_, ownsOther h.ownK h.head (by decide) _ _, ownsOther h.ownN h.head (by decide) _ _, ownsOther h.ownW h.head (by decide) _ _, h.apart, hf⟩
  rw [heap_setCell_same W B k _ _ v h.head, hc]

def stepF (R : RD) : Int := if R.steps = true then 0 else 9

set_option maxRecDepth 100000 in
theorem step_ref (w : World) (base B : Nat) (R : RD) (h : RefO w base B R) :
    Calls Try.prog 37 #[.pointer (some ⟨B, 0, none⟩)] w fun e w' => e = .returned (.int .i64 (stepF R)) ∧ RefO w' base B R.stepped ∧ KeptR base w w' := by
  obtain ⟨kv, nv, wv, h⟩ := h
  have H := hide h
  obtain ⟨-, -, -, c3, c4, hf⟩ := h.cells
  have f3 := hf 3
  have f4 := hf 4
  have HL := hide h.fuse
  clear h hf
  obtain ⟨kept, now, wait, fuse, down⟩ := R
  simp only at *
  cases down with
  | true =>
    have e : stepF ⟨kept, now, wait, fuse, true⟩ = 9 := by simp [stepF, RD.steps]
    have e2 : RD.stepped ⟨kept, now, wait, fuse, true⟩ = ⟨kept, now, wait, fuse, true⟩ := by simp [RD.stepped]
    rw [e, e2]
    clear e e2
    go_enter Try.func37, Try.ntmps37
    go_wp2
    go_ret
    exact ⟨rfl, ⟨_, _, _, H.out⟩, KeptR.refl _ _⟩
  | false =>
    by_cases h0 : fuse = 0
    · subst h0
      have e : stepF ⟨kept, now, wait, 0, false⟩ = 9 := by simp [stepF, RD.steps]
      have e2 : RD.stepped ⟨kept, now, wait, 0, false⟩ = ⟨kept, now, wait, -1, true⟩ := by simp [RD.stepped]
      rw [e, e2]
      clear e e2
      have hm := H.out.field 4 (.bool true) 0 true HL.out rfl
      have hm2 := hm.field 3 (.int .i64 (-1)) (-1) true (by decide) rfl
      have HK := hide ((KeptR.set H.out.low H.out.head (.inl rfl) 4 (.bool true)).trans (KeptR.set hm.low hm.head (.inl rfl) 3 (.int .i64 (-1))))
      have HD : Hid (RefO ((w.setCell ⟨B, 4, none⟩ (.bool true)).setCell ⟨B, 3, none⟩ (.int .i64 (-1))) base B ⟨kept, now, wait, -1, true⟩) := ⟨_, _, _, hm2⟩
      obtain ⟨-, -, -, d3, -, hf⟩ := hm.cells
      have g3 := hf 3
      clear hm hm2 hf
      go_enter Try.func37, Try.ntmps37
      go_wp2
      go_ret
      exact ⟨rfl, HD.out, HK.out⟩
    · have g0 : (fuse == 0) = false := beq_false_of_ne h0
      have e : stepF ⟨kept, now, wait, fuse, false⟩ = 0 := by simp [stepF, RD.steps, h0]
      rw [e]
      clear e
      by_cases h1 : 0 < fuse
      · have g1 : decide (0 < fuse) = true := decide_eq_true h1
        have e2 : RD.stepped ⟨kept, now, wait, fuse, false⟩ = ⟨kept, now, wait, fuse - 1, false⟩ := by simp [RD.stepped, h0, h1]
        rw [e2]
        clear e2
        have HK := hide (KeptR.set H.out.low H.out.head (.inl rfl) 3 (.int .i64 (fuse - 1)))
        have HD : Hid (RefO (w.setCell ⟨B, 3, none⟩ (.int .i64 (fuse - 1))) base B ⟨kept, now, wait, fuse - 1, false⟩) := ⟨_, _, _, H.out.field 3 _ (fuse - 1) false (by have := HL.out; omega) rfl⟩
        have hb := HL.out
        go_enter Try.func37, Try.ntmps37
        go_wp2
        go_ret
        exact ⟨rfl, HD.out, HK.out⟩
      · have g1 : decide (0 < fuse) = false := decide_eq_false h1
        have e2 : RD.stepped ⟨kept, now, wait, fuse, false⟩ = ⟨kept, now, wait, fuse, false⟩ := by simp [RD.stepped, h0, h1]
        rw [e2]
        clear e2
        go_enter Try.func37, Try.ntmps37
        go_wp2
        go_ret
        exact ⟨rfl, ⟨_, _, _, H.out⟩, KeptR.refl _ _⟩

end Go.Proofs.Ytjgodhfnnifchaa
