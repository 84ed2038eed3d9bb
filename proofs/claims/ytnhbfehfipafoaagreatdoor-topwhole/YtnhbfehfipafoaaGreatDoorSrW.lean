/- A session in memory; what it says of itself. -/
import Derived.Test.YtnhbfehfipafoaaGreatDoorStA
namespace Go.Proofs.YtnhbfehfipafoaaGreatDoor
open Go.RowKit

structure KeptE (ex : Nat → Prop) (base : Own) (W W' : World) : Prop where
 os : W'.os = W.os
 tape : W'.tape = W.tape
 output : W'.output = W.output
 size : W.heap.size ≤ W'.heap.size
 block : ∀ b, b < W.heap.size → ¬ ex b → (¬ base.mine b ∨ ∀ cs t fz, W.heap[b]? = some (.cells cs t fz) → ¬ stoT t) → W'.heap[b]? = W.heap[b]?

theorem KeptE.of_keptS {ex : Nat → Prop} {base : Own} {W W' : World} (h : KeptS base W W') : KeptE ex base W W' := ⟨h.os, h.tape, h.output, h.size, fun b hb _ hx => h.block b hb hx⟩

theorem KeptE.of_below {ex : Nat → Prop} {base : Own} {W W' : World} (h : Below W.heap.size W W') : KeptE ex base W W' := .of_keptS (.of_below h)

theorem KeptE.of_but {ex : Nat → Prop} {base : Own} {M : Nat} {W W' : World} (h : ButB W.heap.size M W W') (hM : ex M) : KeptE ex base W W' := ⟨h.os, h.tape, h.output, h.size, fun b hb hn _ => h.block b hb (fun e => hn (e ▸ hM))⟩

theorem KeptE.trans {ex : Nat → Prop} {base : Own} {W W' W'' : World} (h : KeptE ex base W W') (k : KeptE ex base W' W'') : KeptE ex base W W'' where
 os := k.os.trans h.os
 tape := k.tape.trans h.tape
 output := k.output.trans h.output
 size := Nat.le_trans h.size k.size
 block := fun b hb hn hx => by
  have h1 := h.block b hb hn hx
  refine (k.block b (Nat.lt_of_lt_of_le hb h.size) hn ?_).trans h1
  rcases hx with hx | hx
  ·exact .inl hx
  ·exact .inr fun cs t fz e => hx cs t fz (by rw [← h1]; exact e)

theorem KeptE.mono {ex ex' : Nat → Prop} {base : Own} {W W' : World} (h : KeptE ex base W W') (he : ∀ b, b < W.heap.size → ex b → ex' b) : KeptE ex' base W W' :=
 ⟨h.os, h.tape, h.output, h.size, fun b hb hn hx => h.block b hb (fun e => hn (he b hb e)) hx⟩

theorem KeptE.below {ex : Nat → Prop} {base : Own} {K : Nat} {w W W' : World} (h : KeptE ex base W W') (hb : Below K w W) (hK : ∀ b, base.mine b → K ≤ b) (hK2 : K ≤ W.heap.size) (he : ∀ b, ex b → K ≤ b) : Below K w W' :=
 ⟨h.os.trans hb.os, h.tape.trans hb.tape, h.output.trans hb.output, Nat.le_trans hb.size h.size, fun k hk => (h.block k (by omega) (fun e => by have := he k e; omega) (.inl (fun hm => by have := hK k hm; omega))).trans (hb.block k hk)⟩

theorem KeptE.stays {ex : Nat → Prop} {base : Own} {W W' : World} (hk : KeptE ex base W W') {b : Nat} {cs : Array Value} {t : TypeId} {fz : Nat × Nat} (hb : W.heap[b]? = some (.cells cs t fz)) (ht : ¬ stoT t) (hn : ¬ ex b) : W'.heap[b]? = some (.cells cs t fz) :=
 (hk.block b (heap_lt hb) hn (.inr fun cs' t' fz' hx => by
  rw [hb] at hx
  simp only [Option.some.injEq, Obj.cells.injEq] at hx
  rw [← hx.2.1]
  exact ht)).trans hb

def SesB (W : World) (X S : Nat) (dv : Value) : Prop := W.heap[X]? = some (.cells #[.pointer (some ⟨S, 0, none⟩), dv] 111 (0, 0))

theorem SesB.later {W W' : World} {X S : Nat} {dv : Value} (x : SesB W X S dv) (hb : Below W.heap.size W W') : SesB W' X S dv := (hb.block _ (heap_lt x)).trans x

theorem SesB.cells {W : World} {X S : Nat} {dv : Value} (x : SesB W X S dv) : W.cell? ⟨X, 0, none⟩ = some (.pointer (some ⟨S, 0, none⟩)) ∧ W.cell? ⟨X, 1, none⟩ = some dv ∧ ∀ k, W.frozen? ⟨X, k, none⟩ = false := by
 refine ⟨?_, ?_, fun k => by simp [World.frozen?, show W.heap[X]? = _ from x]⟩
 all_goals rw [cell_of_row W X _ _ _ _ x]; rfl

theorem SesB.set {W : World} {X S : Nat} {dv : Value} (x : SesB W X S dv) (v : Value) : SesB (W.setCell ⟨X, 1, none⟩ v) X S v := heap_setCell_same W X 1 _ _ v x

theorem ses_sto : ¬ stoT 111 := by unfold stoT logT diskT; decide
theorem ses_kin : ¬ kinT 111 := by unfold kinT; decide

def DeeB (W : World) (T : Nat) (ov cv : Value) : Prop := W.heap[T]? = some (.cells #[ov, cv] 113 (0, 0))

theorem DeeB.later {W W' : World} {T : Nat} {ov cv : Value} (x : DeeB W T ov cv) (hb : Below W.heap.size W W') : DeeB W' T ov cv := (hb.block _ (heap_lt x)).trans x

theorem DeeB.cells {W : World} {T : Nat} {ov cv : Value} (x : DeeB W T ov cv) : W.cell? ⟨T, 0, none⟩ = some ov ∧ W.cell? ⟨T, 1, none⟩ = some cv ∧ ∀ k, W.frozen? ⟨T, k, none⟩ = false := by
 refine ⟨?_, ?_, fun k => by simp [World.frozen?, show W.heap[T]? = _ from x]⟩
 all_goals rw [cell_of_row W T _ _ _ _ x]; rfl

theorem dee_sto : ¬ stoT 113 := by unfold stoT logT diskT; decide
theorem dee_kin : ¬ kinT 113 := by unfold kinT; decide

set_option linter.unusedSimpArgs false in
set_option maxRecDepth 100000 in
set_option maxHeartbeats 1600000 in
theorem begun_any (w : World) (X S : Nat) (dv : Value) (b : Bool) (x : SesB w X S dv) (hb : (b = false ∧ dv = .pointer none) ∨ (b = true ∧ ∃ T, dv = .pointer (some ⟨T, 0, none⟩))) :
  Calls Tryz.prog 36 #[.pointer (some ⟨X, 0, none⟩)] w fun e w' => e = .returned (.bool b) ∧ w' = w := by
 obtain ⟨c0, c1, -⟩ := x.cells
 clear x
 rcases hb with ⟨rfl, rfl⟩ | ⟨rfl, T, rfl⟩
 ·go_enter Tryz.func36, Tryz.ntmps36
  go_wp2
  go_ret
  exact ⟨rfl, rfl⟩
 ·go_enter Tryz.func36, Tryz.ntmps36
  go_wp2
  go_ret
  exact ⟨rfl, rfl⟩

def XopP (w : World) (base : Own) (B : Nat) (D : Dsk) (m : Nat) (h : Hd) (l : List Nmd) (en : Nat) (e : Ending) (w' : World) : Prop :=
 ∃ X S, e = .returned (.tuple #[.pointer (some ⟨X, 0, none⟩), .nilIface]) ∧ w.heap.size ≤ X ∧ SesB w' X S (.pointer none) ∧ StoreP w' base S B D m h l en ∧ Below w.heap.size w w'

set_option linter.unusedSimpArgs false in
set_option maxRecDepth 100000 in
set_option maxHeartbeats 1600000 in
theorem xopen_any (w : World) (base : Own) (B : Nat) (D : Dsk) (m : Nat) (h : Hd) (l : List Nmd) (en : Nat) (hd : DiskO w base B D) (i : StoI D m h l en) (hm : m ≤ 200) (h86 : 86 ≤ m) (ht : TabP w) (hx : MaxL w) (hbase : base.h ≤ w.heap.size) :
  Calls Tryz.prog 25 #[.pointer (some ⟨B, 0, none⟩)] w fun e w' => XopP w base B D m h l en e w' := by
 have HO := hide (open_any w base B D m h l en hd i hm h86 ht hx hbase)
 clear hd i ht hx hbase
 go_enter Tryz.func25, Tryz.ntmps25
 go_wp2_with fail
 refine HO.out.mono ?_
 rintro e w1 ⟨S, rfl, hS, hp, hb1⟩
 have hbA := alloc_below w1 (.cells #[.pointer (some ⟨S, 0, none⟩), .pointer none] 111)
 have HFIN : Hid (XopP w base B D m h l en (.returned (.tuple #[.pointer (some ⟨w1.heap.size, 0, none⟩), .nilIface])) (w1.alloc (.cells #[.pointer (some ⟨S, 0, none⟩), .pointer none] 111))) :=
  ⟨_, S, rfl, hb1.size, heap_alloc_new w1 _, hp.later hbA, hb1.trans (hbA.mono hb1.size)⟩
 clear hS hp hb1 hbA HO
 go_wp2
 go_ret2
 exact HFIN.out

set_option linter.unusedSimpArgs false in
set_option maxRecDepth 100000 in
set_option maxHeartbeats 1600000 in
theorem view0_any (w : World) (X S B : Nat) (h : Hd) (o : Option Addr) (n k : Nat) (lp : Value) (x : SesB w X S (.pointer none)) (y : StoB w S B h (.slice o n k) lp) :
  Calls Tryz.prog 37 #[.pointer (some ⟨X, 0, none⟩)] w fun e w' => e = .returned (.agg #[.slice o n k]) ∧ Below w.heap.size w w' := by
 have hb1 := alloc_below w (.cells #[.slice none 0 0] 53)
 have X1 := hide (x.later hb1); have Y1 := hide (y.later hb1); have HB1 := hide hb1
 obtain ⟨c0, c1, -⟩ := X1.out.cells
 have hz := CtB.new w (.slice none 0 0)
 have HZ := hide hz
 clear x y hb1 hz
 go_enter Tryz.func37, Tryz.ntmps37
 go_wp2_with fail
 generalize w.alloc (.cells #[.slice none 0 0] 53) = w1 at *
 refine (begun_any w1 X S _ false X1.out (.inl ⟨rfl, rfl⟩)).mono ?_
 rintro e w2 ⟨rfl, hw2⟩
 subst hw2
 go_wp2_with fail
 refine (scat_any _ S B h o n k lp Y1.out).mono ?_
 rintro e w3 ⟨rfl, hb3⟩
 have hz3 := HZ.out.later hb3
 obtain ⟨z0, z1⟩ := hz3.cells
 have y0 : (w3.setCell ⟨w.heap.size, 0, none⟩ (.slice o n k)).cell? ⟨w.heap.size, 0, none⟩ = some (.slice o n k) := World.cell?_setCell_same _ _ _ z0
 have HB3 := hide ((HB1.out.trans (hb3.mono HB1.out.size)).setCell (p := ⟨w.heap.size, 0, none⟩) (Nat.le_refl _) (.slice o n k))
 clear hb3 hz3 HB1 X1 Y1 HZ c0 c1
 go_wp2
 exact bodyPost_ret (v := .agg #[.slice o n k]) (by simp [results, Tryz.results37, go_sem, y0]) rfl ⟨rfl, HB3.out⟩

set_option linter.unusedSimpArgs false in
set_option maxRecDepth 100000 in
set_option maxHeartbeats 1600000 in
theorem view1_any (w : World) (X S T : Nat) (ov : Value) (o : Option Addr) (n k : Nat) (x : SesB w X S (.pointer (some ⟨T, 0, none⟩))) (y : DeeB w T ov (.slice o n k)) :
  Calls Tryz.prog 37 #[.pointer (some ⟨X, 0, none⟩)] w fun e w' => e = .returned (.agg #[.slice o n k]) ∧ Below w.heap.size w w' := by
 have hb1 := alloc_below w (.cells #[.slice none 0 0] 53)
 have X1 := hide (x.later hb1); have Y1 := hide (y.later hb1); have HB1 := hide hb1
 obtain ⟨c0, c1, -⟩ := X1.out.cells
 obtain ⟨d0, d1, -⟩ := Y1.out.cells
 obtain ⟨z0, z1⟩ := (CtB.new w (.slice none 0 0)).cells
 clear x y hb1
 go_enter Tryz.func37, Tryz.ntmps37
 go_wp2_with fail
 generalize w.alloc (.cells #[.slice none 0 0] 53) = w1 at *
 refine (begun_any w1 X S _ true X1.out (.inr ⟨rfl, T, rfl⟩)).mono ?_
 rintro e w2 ⟨rfl, hw2⟩
 subst hw2
 have y0 : (w2.setCell ⟨w.heap.size, 0, none⟩ (.slice o n k)).cell? ⟨w.heap.size, 0, none⟩ = some (.slice o n k) := World.cell?_setCell_same _ _ _ z0
 have HB3 := hide (HB1.out.setCell (p := ⟨w.heap.size, 0, none⟩) (Nat.le_refl _) (.slice o n k))
 clear HB1 X1 Y1
 go_wp2
 exact bodyPost_ret (v := .agg #[.slice o n k]) (by simp [results, Tryz.results37, go_sem, y0]) rfl ⟨rfl, HB3.out⟩

def BegP (w : World) (X S : Nat) (o : Option Addr) (n k : Nat) (e : Ending) (w' : World) : Prop :=
 ∃ T, e = .returned .nilIface ∧ w.heap.size ≤ T ∧ SesB w' X S (.pointer (some ⟨T, 0, none⟩)) ∧ DeeB w' T (.slice none 0 0) (.slice o n k) ∧ ButB w.heap.size X w w'

set_option linter.unusedSimpArgs false in
set_option maxRecDepth 100000 in
set_option maxHeartbeats 1600000 in
theorem begin0_any (w : World) (X S B : Nat) (h : Hd) (o : Option Addr) (n k : Nat) (lp : Value) (x : SesB w X S (.pointer none)) (y : StoB w S B h (.slice o n k) lp) :
  Calls Tryz.prog 26 #[.pointer (some ⟨X, 0, none⟩)] w fun e w' => BegP w X S o n k e w' := by
 have X1 := hide x; have Y1 := hide y
 have HXL : Hid (X < w.heap.size) := heap_lt (show w.heap[X]? = _ from x)
 obtain ⟨c0, c1, -⟩ := x.cells
 clear x y
 go_enter Tryz.func26, Tryz.ntmps26
 go_wp2_with fail
 refine (begun_any w X S _ false X1.out (.inl ⟨rfl, rfl⟩)).mono ?_
 rintro e w2 ⟨rfl, hw2⟩
 subst hw2
 go_wp2_with fail
 refine (scat_any _ S B h o n k lp Y1.out).mono ?_
 rintro e w3 ⟨rfl, hb3⟩
 have hbA := alloc_below w3 (.cells #[.slice none 0 0, .slice o n k] 113)
 have x4 := (X1.out.later hb3).later hbA
 have hT : DeeB (w3.alloc (.cells #[.slice none 0 0, .slice o n k] 113)) w3.heap.size (.slice none 0 0) (.slice o n k) := heap_alloc_new w3 _
 obtain ⟨z0, z1, zz⟩ := x4.cells
 have z2 := zz 1
 have hbb := hb3.trans (hbA.mono hb3.size)
 have HFIN : Hid (BegP w2 X S o n k (.returned .nilIface) ((w3.alloc (.cells #[.slice none 0 0, .slice o n k] 113)).setCell ⟨X, 1, none⟩ (.pointer (some ⟨w3.heap.size, 0, none⟩)))) :=
  ⟨w3.heap.size, rfl, hb3.size, x4.set _, (heap_setCell_other _ _ _ _ (fun e => by have h1 : w3.heap.size = X := e; have := HXL.out; have := hb3.size; omega)).trans hT, (ButB.of hbb).set 1 _⟩
 clear hb3 hbA x4 hT zz hbb X1 Y1 c0 c1
 go_wp2
 go_ret
 exact HFIN.out

end Go.Proofs.YtnhbfehfipafoaaGreatDoor
