/- pack.unpacked: what bytes say. -/
import Derived.Test.YtnhbfehfipafoaaGreatDoorBpC
import Derived.Test.YtnhbfehfipafoaaGreatDoorUpP
namespace Go.Proofs.YtnhbfehfipafoaaGreatDoor
open Go.RowKit

def s16 (x : Int) : Int := if x < 32768 then x else x - 65536

def unB (s : ByteArray) : Option OpV :=
 if s.size < 2 then none
 else if s.size < (byt s 1).toNat + 4 then none
 else if s.size - ((byt s 1).toNat + 4) ≠ 2 * (byt s ((byt s 1).toNat + 3)).toNat then none
 else some ⟨byt s 0, s.extract 2 ((byt s 1).toNat + 2), byt s ((byt s 1).toNat + 2), (List.range (byt s ((byt s 1).toNat + 3)).toNat).map fun i => s16 (byt (s.extract ((byt s 1).toNat + 4) s.size) (2 * i) + 256 * byt (s.extract ((byt s 1).toNat + 4) s.size) (2 * i + 1))⟩

def RowAt (base : Nat) (W : World) (o : Option Addr) (n c : Nat) (ks : List Int) : Prop := W.ownsRow base 3 1 (.slice o n c) ks.length (ks.map (Value.int .i64)) ∧ ∀ k ∈ ks, -32768 ≤ k ∧ k ≤ 32767

def UnPost (w : World) (s : ByteArray) (e : Ending) (w' : World) : Prop :=
 ((unB s = none ∧ e = .returned (.tuple #[.agg #[.int .i64 0, .string ⟨#[]⟩, .int .i64 0, .slice none 0 0], .bool false])) ∨
  ∃ (o : OpV) (vo : Option Addr) (vc : Nat), unB s = some o ∧ e = .returned (.tuple #[.agg #[.int .i64 o.kind, .string o.name, .int .i64 o.n, .slice vo o.v.length vc], .bool true]) ∧ ∃ base, w.heap.size ≤ base ∧ RowAt base w' vo o.v.length vc o.v) ∧ Below w.heap.size w w'

theorem byt_nat (s : ByteArray) (k : Nat) : ∃ n : Nat, byt s k = n ∧ n ≤ 255 := by
 unfold byt
 split
 ·rename_i h
  exact ⟨(s[k]'h).toNat, rfl, by have := (s[k]'h).toNat_lt; omega⟩
 ·exact ⟨0, rfl, by decide⟩

theorem wrap_small {x : Int} (h1 : -9223372036854775808 ≤ x) (h2 : x ≤ 9223372036854775807) : IntKind.i64.wrap x = x := by
 rw [IntKind.wrap_i64]
 omega

theorem or16 {x y : Nat} (hx : x ≤ 255) (hy : y ≤ 255) : bits BinOp.or IntKind.u16 (IntKind.u16.wrap (x : Int)) (IntKind.u16.wrap (IntKind.u16.wrap (y : Int) * 256)) = (x : Int) + 256 * (y : Int) := by
 have h1 : IntKind.u16.wrap (x : Int) = (x : Int) := by show (x : Int) % 2 ^ 16 = _; omega
 have h2 : IntKind.u16.wrap (y : Int) = (y : Int) := by show (y : Int) % 2 ^ 16 = _; omega
 have h3 : IntKind.u16.wrap ((y : Int) * 256) = ((256 * y : Nat) : Int) := by show (y : Int) * 256 % 2 ^ 16 = _; omega
 rw [h1, h2, h3]
 show IntKind.u16.wrap ((BitVec.ofInt 16 (x : Int) ||| BitVec.ofInt 16 ((256 * y : Nat) : Int)).toNat : Nat) = _
 rw [BitVec.toNat_or, BitVec.ofInt_natCast, BitVec.ofInt_natCast, BitVec.toNat_ofNat, BitVec.toNat_ofNat, Nat.mod_eq_of_lt (by omega), Nat.mod_eq_of_lt (by omega)]
 have h4 : x ||| 256 * y = 256 * y + x := by
  rw [Nat.or_comm]
  exact (Nat.two_pow_add_eq_or_of_lt (i := 8) (by omega) y).symm
 rw [h4]
 show ((256 * y + x : Nat) : Int) % 2 ^ 16 = _
 omega

def BoxQ (W : World) (B : Nat) (u0 u1 u2 u3 : Value) : Prop := FourV W B u0 u1 u2 u3 ∧ ∀ k, W.frozen? ⟨B, k, none⟩ = false

theorem BoxQ.later {W W' : World} {B : Nat} {u0 u1 u2 u3 : Value} (h : BoxQ W B u0 u1 u2 u3) (hb : Below W.heap.size W W') : BoxQ W' B u0 u1 u2 u3 :=
 ⟨h.1.later hb, fun k => (hb.frozen (p := ⟨B, k, none⟩) h.1.2.2.2.2).trans (h.2 k)⟩

theorem BoxQ.new (W : World) (u0 u1 u2 u3 : Value) (t : TypeId) : BoxQ (W.alloc (.cells #[u0, u1, u2, u3] t)) W.heap.size u0 u1 u2 u3 := ⟨FourV.new W u0 u1 u2 u3 t, fun k => by simp⟩

theorem BoxQ.laterC {W W' : World} {B C : Nat} {u0 u1 u2 u3 : Value} (h : BoxQ W B u0 u1 u2 u3) (hb : Below C W W') (hC : B < C) : BoxQ W' B u0 u1 u2 u3 :=
 ⟨⟨(hb.cell (p := ⟨B, 0, none⟩) hC).trans h.1.1, (hb.cell (p := ⟨B, 1, none⟩) hC).trans h.1.2.1, (hb.cell (p := ⟨B, 2, none⟩) hC).trans h.1.2.2.1, (hb.cell (p := ⟨B, 3, none⟩) hC).trans h.1.2.2.2.1, Nat.lt_of_lt_of_le h.1.2.2.2.2 hb.size⟩, fun k => (hb.frozen (p := ⟨B, k, none⟩) hC).trans (h.2 k)⟩

theorem BoxQ.set3 {W : World} {B : Nat} {u0 u1 u2 u3 : Value} (h : BoxQ W B u0 u1 u2 u3) (v : Value) : BoxQ (W.setCell ⟨B, 3, none⟩ v) B u0 u1 u2 v := by
 obtain ⟨⟨h0, h1, h2, h3, h4⟩, h5⟩ := h
 have n0 : (⟨B, 0, none⟩ : Addr) ≠ ⟨B, 3, none⟩ := fun e => by simp at e
 have n1 : (⟨B, 1, none⟩ : Addr) ≠ ⟨B, 3, none⟩ := fun e => by simp at e
 have n2 : (⟨B, 2, none⟩ : Addr) ≠ ⟨B, 3, none⟩ := fun e => by simp at e
 exact ⟨⟨(World.cell?_setCell_other _ _ _ _ n0.symm).trans h0, (World.cell?_setCell_other _ _ _ _ n1.symm).trans h1, (World.cell?_setCell_other _ _ _ _ n2.symm).trans h2, World.cell?_setCell_same _ _ _ h3, by simpa using h4⟩, fun k => by simpa using h5 k⟩

theorem below_fill4 {C : Nat} {w W : World} {B : Nat} (h : Below C w W) (hB : C ≤ B) (u0 u1 u2 u3 : Value) : Below C w ((((W.setCell ⟨B, 0, none⟩ u0).setCell ⟨B, 1, none⟩ u1).setCell ⟨B, 2, none⟩ u2).setCell ⟨B, 3, none⟩ u3) :=
 (((h.setCell (p := ⟨B, 0, none⟩) hB u0).setCell (p := ⟨B, 1, none⟩) hB u1).setCell (p := ⟨B, 2, none⟩) hB u2).setCell (p := ⟨B, 3, none⟩) hB u3

theorem RowAt.len {base : Nat} {W : World} {o : Option Addr} {n c : Nat} {ks : List Int} (h : RowAt base W o n c ks) : n = ks.length := by
 obtain ⟨o', c', e, -⟩ := owns_form h.1
 simp only [Value.slice.injEq] at e
 exact e.2.1

theorem RowAt.later {base : Nat} {W W' : World} {o : Option Addr} {n c : Nat} {ks : List Int} (h : RowAt base W o n c ks) (hb : Below W.heap.size W W') : RowAt base W' o n c ks := ⟨ownsRow_later h.1 hb, h.2⟩

theorem RowAt.row {base : Nat} {W : World} {o : Option Addr} {n c : Nat} {ks : List Int} (h : RowAt base W o n c ks) : RowS W (.slice o n c) ks := by
 obtain ⟨o', c', e, hn⟩ := owns_form h.1
 have hl := h.len
 subst hl
 obtain ⟨ho, hk⟩ := h
 refine ⟨o, c, rfl, by simp only [Value.slice.injEq] at e; omega, fun i => ?_, fun h0 => ?_⟩
 ·by_cases hi : i < ks.length
  ·rw [getD_at hi]
   have := hk _ (List.getElem_mem hi)
   omega
  ·rw [List.getD_eq_getElem?_getD, List.getElem?_eq_none (by omega)]
   decide
 ·rcases ho.2 with ⟨e, -⟩ | ⟨g, cap, cur, e, -, hg, -⟩
  ·simp only [Value.slice.injEq] at e
   omega
  ·simp only [Value.slice.injEq, true_and] at e
   obtain ⟨rfl, rfl⟩ := e
   refine ⟨g, 0, rfl, heap_lt hg, fun i hi => ?_⟩
   have := World.ownsRow.cells (g := g) ho rfl i _ (show (ks.map (Value.int .i64))[i]? = some (.int .i64 (ks.getD i 0)) by rw [List.getElem?_map, List.getElem?_eq_getElem hi, getD_at hi]; rfl)
   rw [Go.WideShapes.add_plain] at this
   exact this

theorem RowAt.set {base : Nat} {W : World} {o : Option Addr} {n c : Nat} {ks : List Int} (h : RowAt base W o n c ks) {p : Addr} (hp : p.block < base) (v : Value) : RowAt base (W.setCell p v) o n c ks := by
 refine ⟨⟨h.1.1, ?_⟩, h.2⟩
 rcases h.1.2 with hn | ⟨g, cap, cur, e, hbg, hg, hr⟩
 ·exact .inl hn
 ·exact .inr ⟨g, cap, cur, e, hbg, (heap_setCell_other _ _ _ _ (by omega)).trans hg, hr⟩

theorem BoxQ.setOther {W : World} {B : Nat} {u0 u1 u2 u3 : Value} (h : BoxQ W B u0 u1 u2 u3) {p : Addr} (hp : p.block ≠ B) (v : Value) : BoxQ (W.setCell p v) B u0 u1 u2 u3 := by
 obtain ⟨⟨h0, h1, h2, h3, h4⟩, h5⟩ := h
 have n : ∀ k, p ≠ (⟨B, k, none⟩ : Addr) := fun k e => hp (by rw [e])
 exact ⟨⟨(World.cell?_setCell_other _ _ _ _ (n 0)).trans h0, (World.cell?_setCell_other _ _ _ _ (n 1)).trans h1, (World.cell?_setCell_other _ _ _ _ (n 2)).trans h2, (World.cell?_setCell_other _ _ _ _ (n 3)).trans h3, by simpa using h4⟩, fun k => by simpa using h5 k⟩

theorem wrap_i16 {V : Int} (h0 : 0 ≤ V) (h1 : V ≤ 65535) : IntKind.i16.wrap V = s16 V := by
 have h : IntKind.i16.wrap V = (V + 32768) % 65536 - 32768 := by
  simp [IntKind.wrap, IntKind.bits, IntKind.signed]
  split <;> omega
 rw [h]
 unfold s16
 split <;> omega

theorem s16_range {V : Int} (h0 : 0 ≤ V) (h1 : V ≤ 65535) : -32768 ≤ s16 V ∧ s16 V ≤ 32767 := by
 unfold s16
 split <;> omega

theorem Tryz.infoIntP : (Tryz.prog.info? 3).map (fun i => (i.zero, i.size, i.bytes)) = some (some (.int .i64 0), 1, 8) := by kernel_rfl

theorem RowAt.snoc {W : World} {base : Nat} {o : Option Addr} {n c : Nat} {ks : List Int} (h : RowAt base W o n c ks) (hbase : base ≤ W.heap.size) (z : Int) (hz : -32768 ≤ z ∧ z ≤ 32767) (hn : n ≤ 1000) :
  ∃ o' c' W', (Builtin.append_ #[41, 41] 41 #[.slice o n c, .slice (some ⟨W.heap.size, 0, none⟩) 1 1]).run Tryz.prog (W.alloc (.cells #[.int .i64 z] 3)) = .ok (.slice o' (n + 1) c') W' ∧ RowAt base W' o' (n + 1) c' (ks ++ [z]) ∧ Below base W W' := by
 obtain ⟨j0, hj, hy0, hy1, hy2⟩ := info_got Tryz.infoIntP
 have hl := h.len
 subst hl
 obtain ⟨o', c', W', hr, hown, hb⟩ := own_snoc W base hbase 41 41 3 j0 (.int .i64 0) 1 8 (by kernel_rfl) hj hy0 hy1 hy2 rfl (by decide) _ _ _ h.1 #[.int .i64 z] 3 rfl (fun y hy => by
  rw [List.mem_singleton] at hy
  rw [hy]; rfl) (by unfold maxLen; omega) (by omega)
 refine ⟨o', c', W', hr, ⟨?_, fun k hk => ?_⟩, hb⟩
 ·rw [List.map_append, List.length_append]
  exact hown
 ·rcases List.mem_append.1 hk with h1 | h1
  ·exact h.2 k h1
  ·rw [List.mem_singleton.1 h1]; exact hz

set_option linter.unusedSimpArgs false in
set_option maxRecDepth 100000 in
set_option maxHeartbeats 1600000 in
theorem unpacked_any (w : World) (s : ByteArray) (hs : s.size ≤ 1000000) : Calls Tryz.prog 142 #[.string s] w fun e w' => UnPost w s e w' := by
 obtain ⟨q, hq⟩ : ∃ q, unB s = q := ⟨_, rfl⟩
 have HQ := hide hq
 have HB := hide (alloc_below w (.cells #[.int .i64 0, .string ⟨#[]⟩, .int .i64 0, .slice none 0 0] 43))
 have X2 := hide (BoxQ.new w (.int .i64 0) (.string ⟨#[]⟩) (.int .i64 0) (.slice none 0 0) 43)
 obtain ⟨⟨r0, r1, r2, r3, -⟩, hfz⟩ := X2.out
 have z0 := hfz 0; have z1 := hfz 1; have z2 := hfz 2; have z3 := hfz 3
 clear hfz
 clear hq
 by_cases h2 : s.size < 2
 ·have HN : Hid (unB s = none) := by show _ = _; unfold unB; rw [if_pos h2]
  have g2 : decide ((s.size : Int) < 2) = true := decide_eq_true (by omega)
  clear h2
  go_enter Tryz.func142, Tryz.ntmps142
  go_wp2
  exact bodyPost_ret (v := .tuple #[.agg #[.int .i64 0, .string ⟨#[]⟩, .int .i64 0, .slice none 0 0], .bool false]) (by simp [results, Tryz.results142, go_sem, r0, r1, r2, r3]) rfl ⟨.inl ⟨HN.out, rfl⟩, by first | exact HB.out | exact below_fill4 HB.out (Nat.le_refl _) _ _ _ _⟩
 have g2 : decide ((s.size : Int) < 2) = false := decide_eq_false (by omega)
 have b1 := byt_eq (s := s) (k := 1) (by omega)
 have b0 := byt_eq (s := s) (k := 0) (by omega)
 obtain ⟨nl, hnl, hnl255⟩ := byt_nat s 1
 obtain ⟨kd, hkd, hkd255⟩ := byt_nat s 0
 rw [hnl] at b1
 rw [hkd] at b0
 have HNL := hide hnl; have HKD := hide hkd
 have h2' : 2 ≤ s.size := by omega
 clear hnl hkd
 obtain ⟨bh, hbh⟩ : ∃ bh, bh = nl + 2 := ⟨_, rfl⟩
 have gadd : 2 + (nl : Int) = (bh : Int) := by omega
 by_cases h4 : s.size < bh + 2
 ·have HN : Hid (unB s = none) := by show _ = _; unfold unB; rw [if_neg (by omega), HNL.out, Int.toNat_natCast, if_pos (by omega)]
  have g4 : decide ((s.size : Int) < (bh : Int) + 2) = true := decide_eq_true (by omega)
  go_enter Tryz.func142, Tryz.ntmps142
  go_wp2
  exact bodyPost_ret (v := .tuple #[.agg #[.int .i64 0, .string ⟨#[]⟩, .int .i64 0, .slice none 0 0], .bool false]) (by simp [results, Tryz.results142, go_sem, r0, r1, r2, r3]) rfl ⟨.inl ⟨HN.out, rfl⟩, by first | exact HB.out | exact below_fill4 HB.out (Nat.le_refl _) _ _ _ _⟩
 ·have g4 : decide ((s.size : Int) < (bh : Int) + 2) = false := decide_eq_false (by omega)
  have bn := byt_eq (s := s) (k := bh) (by omega)
  obtain ⟨c1, hc1⟩ : ∃ c1, c1 = bh + 1 := ⟨_, rfl⟩
  obtain ⟨c2, hc2⟩ : ∃ c2, c2 = bh + 2 := ⟨_, rfl⟩
  have hp2 : c1 < s.size := by omega
  have bm := byt_eq (s := s) (k := c1) hp2
  obtain ⟨nn, hnn, hnn255⟩ := byt_nat s bh
  obtain ⟨mm, hmm, hmm255⟩ := byt_nat s c1
  rw [hnn] at bn
  rw [hmm] at bm
  have HNN := hide hnn; have HMM := hide hmm; have HBH := hide hbh
  have hb2 : bh + 2 ≤ s.size := by omega
  have hb3 : 2 ≤ bh := by omega
  have hb4 : bh ≤ 257 := by omega
  have hp0 : 0 < s.size := by omega
  have hp1 : bh < s.size := by omega
  have hp5 : c2 ≤ s.size := by omega
  have HC1 := hide hc1; have HC2 := hide hc2
  have hp3 : bh ≤ s.size := by omega
  have hp4 : (2 : Int) ≤ (bh : Int) := by omega
  have wk : IntKind.i64.wrap ((kd : Nat) : Int) = (kd : Int) := wrap_small (by omega) (by omega)
  have wn : IntKind.i64.wrap ((nn : Nat) : Int) = (nn : Int) := wrap_small (by omega) (by omega)
  have wm : IntKind.i64.wrap ((mm : Nat) : Int) = (mm : Int) := wrap_small (by omega) (by omega)
  have w1 : IntKind.i64.wrap ((bh : Int) + 1) = (c1 : Int) := (wrap_small (by omega) (by omega)).trans (by omega)
  have w2 : IntKind.i64.wrap ((bh : Int) + 2) = (c2 : Int) := (wrap_small (by omega) (by omega)).trans (by omega)
  clear hnn hmm hbh
  clear hc1 hc2
  go_enter Tryz.func142, Tryz.ntmps142
  go_wp2_with fail
  generalize w.alloc (.cells #[.int .i64 0, .string ⟨#[]⟩, .int .i64 0, .slice none 0 0] 43) = W0 at *
  refine up_start (A := fun j => decide (j = 11 ∨ j = 12)) (S := fun _ => True) (by kernel_rfl) trivial (fun hHeld => ?_)
  refine up_pure (v := ?_) 0 24 rfl rfl (by kernel_rfl) (by kernel_rfl) (by kernel_rfl) (by kernel_rfl) (fun _ _ _ h => h) (by rfl) ?_ ?_
  rotate_left
  ·(intro w; go_simp; with_reducible rfl)
  simp only [Act.put, List.setIfInBounds_toArray, List.set_cons_zero, List.set_cons_succ]
  refine up_pure (v := ?_) 1 25 rfl rfl (by kernel_rfl) (by kernel_rfl) (by kernel_rfl) (by kernel_rfl) (fun _ _ _ h => h) (by rfl) ?_ ?_
  rotate_left
  ·(intro w; go_simp; with_reducible rfl)
  simp only [Act.put, List.setIfInBounds_toArray, List.set_cons_zero, List.set_cons_succ]
  refine up_pure (v := ?_) 2 26 rfl rfl (by kernel_rfl) (by kernel_rfl) (by kernel_rfl) (by kernel_rfl) (fun _ _ _ h => h) (by rfl) ?_ ?_
  rotate_left
  ·(intro w; go_simp; with_reducible rfl)
  simp only [Act.put, List.setIfInBounds_toArray, List.set_cons_zero, List.set_cons_succ]
  refine up_pure (v := ?_) 3 27 rfl rfl (by kernel_rfl) (by kernel_rfl) (by kernel_rfl) (by kernel_rfl) (fun _ _ _ h => h) (by rfl) ?_ ?_
  rotate_left
  ·(intro w; go_simp; with_reducible rfl)
  simp only [Act.put, List.setIfInBounds_toArray, List.set_cons_zero, List.set_cons_succ]
  refine up_pure (v := ?_) 4 28 rfl rfl (by kernel_rfl) (by kernel_rfl) (by kernel_rfl) (by kernel_rfl) (fun _ _ _ h => h) (by rfl) ?_ ?_
  rotate_left
  ·(intro w; go_simp; with_reducible rfl)
  simp only [Act.put, List.setIfInBounds_toArray, List.set_cons_zero, List.set_cons_succ]
  refine up_pure (v := ?_) 5 29 rfl rfl (by kernel_rfl) (by kernel_rfl) (by kernel_rfl) (by kernel_rfl) (fun _ _ _ h => h) (by rfl) ?_ ?_
  rotate_left
  ·(intro w; go_simp; with_reducible rfl)
  simp only [Act.put, List.setIfInBounds_toArray, List.set_cons_zero, List.set_cons_succ]
  refine up_pure (v := ?_) 6 30 rfl rfl (by kernel_rfl) (by kernel_rfl) (by kernel_rfl) (by kernel_rfl) (fun _ _ _ h => h) (by rfl) ?_ ?_
  rotate_left
  ·(intro w; go_simp; with_reducible rfl)
  simp only [Act.put, List.setIfInBounds_toArray, List.set_cons_zero, List.set_cons_succ]
  refine up_pure (v := ?_) 7 31 rfl rfl (by kernel_rfl) (by kernel_rfl) (by kernel_rfl) (by kernel_rfl) (fun _ _ _ h => h) (by rfl) ?_ ?_
  rotate_left
  ·(intro w; go_simp; with_reducible rfl)
  simp only [Act.put, List.setIfInBounds_toArray, List.set_cons_zero, List.set_cons_succ]
  refine up_pure (v := ?_) 8 32 rfl rfl (by kernel_rfl) (by kernel_rfl) (by kernel_rfl) (by kernel_rfl) (fun _ _ _ h => h) (by rfl) ?_ ?_
  rotate_left
  ·(intro w; go_simp; with_reducible rfl)
  simp only [Act.put, List.setIfInBounds_toArray, List.set_cons_zero, List.set_cons_succ]
  refine up_pure (v := ?_) 9 33 rfl rfl (by kernel_rfl) (by kernel_rfl) (by kernel_rfl) (by kernel_rfl) (fun _ _ _ h => h) (by rfl) ?_ ?_
  rotate_left
  ·(intro w; go_simp; with_reducible rfl)
  simp only [Act.put, List.setIfInBounds_toArray, List.set_cons_zero, List.set_cons_succ]
  refine up_pure (v := ?_) 10 34 rfl rfl (by kernel_rfl) (by kernel_rfl) (by kernel_rfl) (by kernel_rfl) (fun _ _ _ h => h) (by rfl) ?_ ?_
  rotate_left
  ·(intro w; go_simp; with_reducible rfl)
  simp only [Act.put, List.setIfInBounds_toArray, List.set_cons_zero, List.set_cons_succ]
  refine up_one 11 (by kernel_rfl) rfl (fun K hK => ?_)
  go_simp
  refine hK.out _ _ (fun _ => trivial) ?_
  clear hK K
  try simp only [Act.put, List.setIfInBounds_toArray, List.set_cons_zero, List.set_cons_succ]
  refine up_one 12 (by kernel_rfl) rfl (fun K hK => ?_)
  go_simp
  refine hK.out _ _ (fun _ => trivial) ?_
  clear hK K
  try simp only [Act.put, List.setIfInBounds_toArray, List.set_cons_zero, List.set_cons_succ]
  refine up_done (by kernel_rfl) ?_
  go_wp2_with fail
  refine wp_region_held_drew (S := (fun _ => True)) (by kernel_rfl) trivial (fun hHeld => ?_)
  refine held_run (v := ?_) 0 35 rfl rfl (by kernel_rfl) (by kernel_rfl) (by kernel_rfl) (fun _ _ _ h => h) (by rfl) ?_ trivial ?_
  rotate_left
  ·(intro w hSw; (try dsimp only at hSw); go_simp; with_reducible rfl)
  simp only [Act.put, List.setIfInBounds_toArray, List.set_cons_zero, List.set_cons_succ]
  refine held_run (v := ?_) 1 36 rfl rfl (by kernel_rfl) (by kernel_rfl) (by kernel_rfl) (fun _ _ _ h => h) (by rfl) ?_ trivial ?_
  rotate_left
  ·(intro w hSw; (try dsimp only at hSw); go_simp; with_reducible rfl)
  simp only [Act.put, List.setIfInBounds_toArray, List.set_cons_zero, List.set_cons_succ]
  refine held_run (v := ?_) 2 37 rfl rfl (by kernel_rfl) (by kernel_rfl) (by kernel_rfl) (fun _ _ _ h => h) (by rfl) ?_ trivial ?_
  rotate_left
  ·(intro w hSw; (try dsimp only at hSw); go_simp; with_reducible rfl)
  simp only [Act.put, List.setIfInBounds_toArray, List.set_cons_zero, List.set_cons_succ]
  refine held_run (v := ?_) 3 38 rfl rfl (by kernel_rfl) (by kernel_rfl) (by kernel_rfl) (fun _ _ _ h => h) (by rfl) ?_ trivial ?_
  rotate_left
  ·(intro w hSw; (try dsimp only at hSw); go_simp; with_reducible rfl)
  simp only [Act.put, List.setIfInBounds_toArray, List.set_cons_zero, List.set_cons_succ]
  refine held_run (v := ?_) 4 39 rfl rfl (by kernel_rfl) (by kernel_rfl) (by kernel_rfl) (fun _ _ _ h => h) (by rfl) ?_ trivial ?_
  rotate_left
  ·(intro w hSw; (try dsimp only at hSw); go_simp; with_reducible rfl)
  simp only [Act.put, List.setIfInBounds_toArray, List.set_cons_zero, List.set_cons_succ]
  refine held_run (v := ?_) 5 40 rfl rfl (by kernel_rfl) (by kernel_rfl) (by kernel_rfl) (fun _ _ _ h => h) (by rfl) ?_ trivial ?_
  rotate_left
  ·(intro w hSw; (try dsimp only at hSw); go_simp; with_reducible rfl)
  simp only [Act.put, List.setIfInBounds_toArray, List.set_cons_zero, List.set_cons_succ]
  refine held_run (v := ?_) 6 41 rfl rfl (by kernel_rfl) (by kernel_rfl) (by kernel_rfl) (fun _ _ _ h => h) (by rfl) ?_ trivial ?_
  rotate_left
  ·(intro w hSw; (try dsimp only at hSw); go_simp; with_reducible rfl)
  simp only [Act.put, List.setIfInBounds_toArray, List.set_cons_zero, List.set_cons_succ]
  refine held_run (v := ?_) 7 42 rfl rfl (by kernel_rfl) (by kernel_rfl) (by kernel_rfl) (fun _ _ _ h => h) (by rfl) ?_ trivial ?_
  rotate_left
  ·(intro w hSw; (try dsimp only at hSw); go_simp; with_reducible rfl)
  simp only [Act.put, List.setIfInBounds_toArray, List.set_cons_zero, List.set_cons_succ]
  refine held_run (v := ?_) 8 43 rfl rfl (by kernel_rfl) (by kernel_rfl) (by kernel_rfl) (fun _ _ _ h => h) (by rfl) ?_ trivial ?_
  rotate_left
  ·(intro w hSw; (try dsimp only at hSw); go_simp; with_reducible rfl)
  simp only [Act.put, List.setIfInBounds_toArray, List.set_cons_zero, List.set_cons_succ]
  refine held_run (v := ?_) 9 6 rfl rfl (by kernel_rfl) (by kernel_rfl) (by kernel_rfl) (fun _ _ _ h => h) (by rfl) ?_ trivial ?_
  rotate_left
  ·(intro w hSw; (try dsimp only at hSw); go_simp; with_reducible rfl)
  simp only [Act.put, List.setIfInBounds_toArray, List.set_cons_zero, List.set_cons_succ]
  refine held_run (v := ?_) 10 7 rfl rfl (by kernel_rfl) (by kernel_rfl) (by kernel_rfl) (fun _ _ _ h => h) (by rfl) ?_ trivial ?_
  rotate_left
  ·(intro w hSw; (try dsimp only at hSw); go_simp; with_reducible rfl)
  simp only [Act.put, List.setIfInBounds_toArray, List.set_cons_zero, List.set_cons_succ]
  refine wpAnyH_done (by kernel_rfl) ?_ _
  have hbA := ((alloc_below W0 (.cells #[.int .i64 (kd : Int), .string (s.extract 2 bh), .int .i64 (nn : Int), .slice none 0 0] 43)).drew).drew
  have X5 := hide ((BoxQ.new W0 (.int .i64 (kd : Int)) (.string (s.extract 2 bh)) (.int .i64 (nn : Int)) (.slice none 0 0) 43).later ((Below.refl _ _).drew.drew))
  have X2b := hide (X2.out.later hbA); have HBb := hide (HB.out.trans (hbA.mono HB.out.size))
  have hW0 : w.heap.size < W0.heap.size := X2.out.1.2.2.2.2
  clear X2 HB hbA r0 r1 r2 r3 z0 z1 z2 z3
  generalize (W0.alloc (.cells #[.int .i64 (kd : Int), .string (s.extract 2 bh), .int .i64 (nn : Int), .slice none 0 0] 43)).drew.drew = W1 at *
  generalize W0.heap.size = B5 at *
  obtain ⟨t, ht⟩ : ∃ t, s.extract c2 s.size = t := ⟨_, rfl⟩
  have hts : t.size = s.size - c2 := by rw [← ht, ByteArray.size_extract]; omega
  obtain ⟨nm, hnm⟩ : ∃ nm, s.extract 2 bh = nm := ⟨_, rfl⟩
  obtain ⟨tl, htl⟩ : ∃ tl, t.size = tl := ⟨_, rfl⟩
  rw [ht]
  rw [hnm] at X5
  try rw [hnm]
  have HT := hide ht; have HTS := hide hts; have HNM := hide hnm; have HTL := hide htl
  clear ht hts hnm htl bn bm b0 b1 hp0 hp1 hp2 hp3 hp4 hp5 wk wn wm w1 w2 gadd g2 g4
  obtain ⟨⟨r0, r1, r2, r3, -⟩, hfz⟩ := X2b.out
  have z0 := hfz 0; have z1 := hfz 1; have z2 := hfz 2; have z3 := hfz 3
  clear hfz
  by_cases h8 : t.size = 2 * mm
  ·have g8 : ((t.size : Int) != 2 * (mm : Int)) = false := by rw [bne_eq_false_iff_eq]; omega
   have H8 := hide h8
   clear h8
   go_wp2_with fail
   clear r0 r1 r2 r3 z0 z1 z2 z3 g8
   go_loopw [51] (fun i wr => ∃ (k : Nat) (vo : Option Addr) (vc : Nat), k ≤ mm ∧ i = .int .i64 k ∧ Hid (BoxQ wr B5 (.int .i64 (kd : Int)) (.string nm) (.int .i64 (nn : Int)) (.slice vo k vc)) ∧ Hid (RowAt (B5 + 1) wr vo k vc ((List.range k).map (fun i => s16 (byt t (2 * i) + 256 * byt t (2 * i + 1))))) ∧ Hid (BoxQ wr w.heap.size (.int .i64 0) (.string ⟨#[]⟩) (.int .i64 0) (.slice none 0 0)) ∧ Hid (Below w.heap.size w wr)) (fun i _ => mm - (intOf i).toNat)
   case atStart => exact ⟨0, none, 0, Nat.zero_le _, rfl, X5, hide ⟨World.ownsRow_nil _ _ _ _, fun k hk => by simp at hk⟩, X2b, HBb⟩
   case round =>
    clear X5 X2b HBb
    obtain ⟨k, vo, vc, hk, rfl, X5, HRW, X2, HB⟩ := hrel
    by_cases hkl : k < mm
    ·obtain ⟨e0, he0⟩ : ∃ e0, e0 = 2 * k := ⟨_, rfl⟩
     obtain ⟨e1, he1⟩ : ∃ e1, e1 = 2 * k + 1 := ⟨_, rfl⟩
     have hp0 : e0 < t.size := by have := H8.out; omega
     have hp1 : e1 < t.size := by have := H8.out; omega
     have w0 : IntKind.i64.wrap (2 * (k : Int)) = (e0 : Int) := (wrap_small (by omega) (by omega)).trans (by omega)
     have w1 : IntKind.i64.wrap ((e0 : Int) + 1) = (e1 : Int) := (wrap_small (by omega) (by omega)).trans (by omega)
     have b0 := byt_eq (s := t) (k := e0) hp0
     have b1 := byt_eq (s := t) (k := e1) hp1
     obtain ⟨x, hx, hx255⟩ := byt_nat t e0
     obtain ⟨y, hy, hy255⟩ := byt_nat t e1
     rw [hx] at b0
     rw [hy] at b1
     have HE0 := hide he0; have HE1 := hide he1; have HX := hide hx; have HY := hide hy
     clear he0 he1 hx hy
     go_wp2_with fail
     refine wp_region_held_drew (S := (fun _ => True)) (by kernel_rfl) trivial (fun hHeld => ?_)
     refine held_run (v := ?_) 0 54 rfl rfl (by kernel_rfl) (by kernel_rfl) (by kernel_rfl) (fun _ _ _ h => h) (by rfl) ?_ trivial ?_
     rotate_left
     ·(intro w hSw; (try dsimp only at hSw); go_simp; with_reducible rfl)
     simp only [Act.put, List.setIfInBounds_toArray, List.set_cons_zero, List.set_cons_succ]
     refine held_run (v := ?_) 1 55 rfl rfl (by kernel_rfl) (by kernel_rfl) (by kernel_rfl) (fun _ _ _ h => h) (by rfl) ?_ trivial ?_
     rotate_left
     ·(intro w hSw; (try dsimp only at hSw); go_simp; with_reducible rfl)
     simp only [Act.put, List.setIfInBounds_toArray, List.set_cons_zero, List.set_cons_succ]
     refine held_run (v := ?_) 2 56 rfl rfl (by kernel_rfl) (by kernel_rfl) (by kernel_rfl) (fun _ _ _ h => h) (by rfl) ?_ trivial ?_
     rotate_left
     ·(intro w hSw; (try dsimp only at hSw); go_simp; with_reducible rfl)
     simp only [Act.put, List.setIfInBounds_toArray, List.set_cons_zero, List.set_cons_succ]
     refine held_run (v := ?_) 3 57 rfl rfl (by kernel_rfl) (by kernel_rfl) (by kernel_rfl) (fun _ _ _ h => h) (by rfl) ?_ trivial ?_
     rotate_left
     ·(intro w hSw; (try dsimp only at hSw); go_simp; with_reducible rfl)
     simp only [Act.put, List.setIfInBounds_toArray, List.set_cons_zero, List.set_cons_succ]
     refine held_run (v := ?_) 4 58 rfl rfl (by kernel_rfl) (by kernel_rfl) (by kernel_rfl) (fun _ _ _ h => h) (by rfl) ?_ trivial ?_
     rotate_left
     ·(intro w hSw; (try dsimp only at hSw); go_simp; with_reducible rfl)
     simp only [Act.put, List.setIfInBounds_toArray, List.set_cons_zero, List.set_cons_succ]
     refine held_run (v := ?_) 5 59 rfl rfl (by kernel_rfl) (by kernel_rfl) (by kernel_rfl) (fun _ _ _ h => h) (by rfl) ?_ trivial ?_
     rotate_left
     ·(intro w hSw; (try dsimp only at hSw); go_simp; with_reducible rfl)
     simp only [Act.put, List.setIfInBounds_toArray, List.set_cons_zero, List.set_cons_succ]
     refine held_run (v := ?_) 6 60 rfl rfl (by kernel_rfl) (by kernel_rfl) (by kernel_rfl) (fun _ _ _ h => h) (by rfl) ?_ trivial ?_
     rotate_left
     ·(intro w hSw; (try dsimp only at hSw); go_simp; with_reducible rfl)
     simp only [Act.put, List.setIfInBounds_toArray, List.set_cons_zero, List.set_cons_succ]
     refine held_run (v := ?_) 7 61 rfl rfl (by kernel_rfl) (by kernel_rfl) (by kernel_rfl) (fun _ _ _ h => h) (by rfl) ?_ trivial ?_
     rotate_left
     ·(intro w hSw; (try dsimp only at hSw); go_simp; with_reducible rfl)
     simp only [Act.put, List.setIfInBounds_toArray, List.set_cons_zero, List.set_cons_succ]
     refine held_run (v := ?_) 8 62 rfl rfl (by kernel_rfl) (by kernel_rfl) (by kernel_rfl) (fun _ _ _ h => h) (by rfl) ?_ trivial ?_
     rotate_left
     ·(intro w hSw; (try dsimp only at hSw); go_simp; with_reducible rfl)
     simp only [Act.put, List.setIfInBounds_toArray, List.set_cons_zero, List.set_cons_succ]
     refine held_run (v := ?_) 9 63 rfl rfl (by kernel_rfl) (by kernel_rfl) (by kernel_rfl) (fun _ _ _ h => h) (by rfl) ?_ trivial ?_
     rotate_left
     ·(intro w hSw; (try dsimp only at hSw); go_simp; with_reducible rfl)
     simp only [Act.put, List.setIfInBounds_toArray, List.set_cons_zero, List.set_cons_succ]
     refine held_run (v := ?_) 10 64 rfl rfl (by kernel_rfl) (by kernel_rfl) (by kernel_rfl) (fun _ _ _ h => h) (by rfl) ?_ trivial ?_
     rotate_left
     ·(intro w hSw; (try dsimp only at hSw); go_simp; with_reducible rfl)
     simp only [Act.put, List.setIfInBounds_toArray, List.set_cons_zero, List.set_cons_succ]
     refine held_run (v := ?_) 11 65 rfl rfl (by kernel_rfl) (by kernel_rfl) (by kernel_rfl) (fun _ _ _ h => h) (by rfl) ?_ trivial ?_
     rotate_left
     ·(intro w hSw; (try dsimp only at hSw); go_simp; with_reducible rfl)
     simp only [Act.put, List.setIfInBounds_toArray, List.set_cons_zero, List.set_cons_succ]
     refine held_run (v := ?_) 12 66 rfl rfl (by kernel_rfl) (by kernel_rfl) (by kernel_rfl) (fun _ _ _ h => h) (by rfl) ?_ trivial ?_
     rotate_left
     ·(intro w hSw; (try dsimp only at hSw); go_simp; with_reducible rfl)
     simp only [Act.put, List.setIfInBounds_toArray, List.set_cons_zero, List.set_cons_succ]
     refine held_run (v := ?_) 13 9 rfl rfl (by kernel_rfl) (by kernel_rfl) (by kernel_rfl) (fun _ _ _ h => h) (by rfl) ?_ trivial ?_
     rotate_left
     ·(intro w hSw; (try dsimp only at hSw); go_simp; with_reducible rfl)
     simp only [Act.put, List.setIfInBounds_toArray, List.set_cons_zero, List.set_cons_succ]
     refine wpAnyH_done (by kernel_rfl) ?_ _
     rw [or16 hx255 hy255]
     have HV : Hid (s16 ((x : Int) + 256 * (y : Int)) = s16 (byt t (2 * k) + 256 * byt t (2 * k + 1))) := by
      show _ = _
      rw [← HE1.out, ← HE0.out, HX.out, HY.out]
     have hVr : 0 ≤ (x : Int) + 256 * (y : Int) ∧ (x : Int) + 256 * (y : Int) ≤ 65535 := by omega
     clear b0 b1 w0 w1 hp0 hp1 hx255 hy255 HX HY
     generalize (x : Int) + 256 * (y : Int) = V at *
     obtain ⟨⟨-, -, -, r3, -⟩, hfz⟩ := X5.out
     have z3 := hfz 3
     clear hfz
     obtain ⟨z, hz⟩ : ∃ z, s16 V = z := ⟨_, rfl⟩
     have hzr := s16_range hVr.1 hVr.2
     have hw1 : IntKind.i16.wrap V = z := (wrap_i16 hVr.1 hVr.2).trans hz
     rw [hz] at HV hzr
     have hw2 : IntKind.i64.wrap z = z := wrap_small (by omega) (by omega)
     have hw3 : wrap64 z = z := by first | (unfold wrap64; omega) | go_num
     have hbs : B5 < wr.heap.size := X5.out.1.2.2.2.2
     obtain ⟨o', c', W', hr4, hrow, hbE⟩ := RowAt.snoc (W := wr.drew) (base := B5 + 1) ⟨ownsRow_later HRW.out.1 (Below.refl _ _).drew, HRW.out.2⟩ (by show B5 + 1 ≤ wr.heap.size; omega) z hzr (by omega)
     have hr5 : (Builtin.append_ #[41, 41] 41 #[.slice vo k vc, .slice (some ⟨wr.heap.size, 0, none⟩) 1 1]).run Tryz.prog (wr.alloc (.cells #[.int .i64 z] 3)).drew = .ok (.slice o' (k + 1) c') W' := hr4
     have HR5 := hide hr5
     have hbF : Below (B5 + 1) wr W' := (Below.refl (B5 + 1) wr).drew.trans hbE
     have x5 := X5.out.laterC hbF (Nat.lt_succ_self B5)
     have X5b := hide (x5.set3 (.slice o' (k + 1) c'))
     have X2c := hide ((X2.out.laterC hbF (by omega)).setOther (p := ⟨B5, 3, none⟩) (by show B5 ≠ w.heap.size; omega) (.slice o' (k + 1) c'))
     have HRWb : Hid (RowAt (B5 + 1) (W'.setCell ⟨B5, 3, none⟩ (.slice o' (k + 1) c')) o' (k + 1) c' ((List.range (k + 1)).map (fun i => s16 (byt t (2 * i) + 256 * byt t (2 * i + 1))))) := by
      show RowAt _ _ _ _ _ _
      rw [List.range_succ, List.map_append, List.map_cons, List.map_nil, ← HV.out]
      exact hrow.set (p := ⟨B5, 3, none⟩) (Nat.lt_succ_self B5) _
     have HBc := hide ((HB.out.trans (hbF.mono (by omega))).setCell (p := ⟨B5, 3, none⟩) (by show w.heap.size ≤ B5; omega) (.slice o' (k + 1) c'))
     obtain ⟨⟨-, -, -, y3, -⟩, hfy⟩ := x5
     have y4 := hfy 3
     have f3 := ((alloc_below wr (.cells #[.int .i64 z] 3)).cell (p := ⟨B5, 3, none⟩) hbs).trans r3
     clear hr4 hr5 hrow hbE hbF hfy hVr hzr hz HV HRW X2 HB X5 HE0 HE1
     go_wp2_with (at_builtin; refine Lib.wpList_append_run _ rfl _ _ _ _ rfl _ _ rfl rfl _ _ HR5.out ?_)
     go_roundw
     case rel => exact ⟨k + 1, _, _, by omega, by go_num, X5b, HRWb, X2c, HBc⟩
     case measure => simp [intOf]; omega
    ·obtain rfl : k = mm := by omega
     have hlen : ((List.range k).map (fun i => s16 (byt t (2 * i) + 256 * byt t (2 * i + 1)))).length = k := by simp
     have HLEN := hide hlen
     have HUN : Hid (unB s = some ⟨kd, nm, nn, (List.range k).map (fun i => s16 (byt t (2 * i) + 256 * byt t (2 * i + 1)))⟩) := by
      have h1 := HBH.out; have h3 := HC1.out; have h4 := HC2.out; have h5 := HTS.out; have h6 := H8.out
      show _ = _
      unfold unB
      rw [if_neg (by omega), HNL.out, Int.toNat_natCast, if_neg (by omega), show nl + 3 = c1 by omega, HMM.out, Int.toNat_natCast, if_neg (by omega), HKD.out, show nl + 2 = bh by omega, HNN.out, HNM.out, show nl + 4 = c2 by omega, HT.out]
     have hbs : B5 < wr.heap.size := X5.out.1.2.2.2.2
     have hRow : ∀ v0 v1 v2 v3, RowAt (B5 + 1) ((((wr.setCell ⟨w.heap.size, 0, none⟩ v0).setCell ⟨w.heap.size, 1, none⟩ v1).setCell ⟨w.heap.size, 2, none⟩ v2).setCell ⟨w.heap.size, 3, none⟩ v3) vo k vc ((List.range k).map (fun i => s16 (byt t (2 * i) + 256 * byt t (2 * i + 1)))) := fun v0 v1 v2 v3 =>
      ((((HRW.out.set (p := ⟨w.heap.size, 0, none⟩) (by show w.heap.size < B5 + 1; omega) v0).set (p := ⟨w.heap.size, 1, none⟩) (by show w.heap.size < B5 + 1; omega) v1).set (p := ⟨w.heap.size, 2, none⟩) (by show w.heap.size < B5 + 1; omega) v2).set (p := ⟨w.heap.size, 3, none⟩) (by show w.heap.size < B5 + 1; omega) v3)
     have HROW := hide hRow
     obtain ⟨⟨c0', c1', c2', c3', -⟩, -⟩ := X5.out
     obtain ⟨⟨r0, r1, r2, r3, -⟩, hfz⟩ := X2.out
     have z0 := hfz 0; have z1 := hfz 1; have z2 := hfz 2; have z3 := hfz 3
     clear hfz hRow hlen
     go_wp2
     exact bodyPost_ret (v := .tuple #[.agg #[.int .i64 (kd : Int), .string nm, .int .i64 (nn : Int), .slice vo k vc], .bool true]) (by simp [results, Tryz.results142, go_sem, r0, r1, r2, r3]) rfl ⟨.inr ⟨_, vo, vc, HUN.out, by rw [HLEN.out], B5 + 1, by omega, by rw [HLEN.out]; exact HROW.out _ _ _ _⟩, below_fill4 HB.out (Nat.le_refl _) _ _ _ _⟩
  ·have g8 : ((t.size : Int) != 2 * (mm : Int)) = true := by rw [bne_iff_ne]; omega
   have HN : Hid (unB s = none) := by show _ = _; unfold unB; rw [if_neg (by omega), HNL.out, Int.toNat_natCast, if_neg (by have := HBH.out; omega), show nl + 3 = c1 by have := HBH.out; have := HC1.out; omega, HMM.out, Int.toNat_natCast, if_pos (by have h1 := HTS.out; have := HBH.out; have := HC2.out; omega)]
   clear h8
   go_wp2
   exact bodyPost_ret (v := .tuple #[.agg #[.int .i64 0, .string ⟨#[]⟩, .int .i64 0, .slice none 0 0], .bool false]) (by simp [results, Tryz.results142, go_sem, r0, r1, r2, r3]) rfl ⟨.inl ⟨HN.out, rfl⟩, by first | exact HBb.out | exact below_fill4 HBb.out (Nat.le_refl _) _ _ _ _⟩

end Go.Proofs.YtnhbfehfipafoaaGreatDoor
