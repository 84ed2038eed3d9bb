/- Operations that came in; are they light? -/
import Derived.Test.YtnhbfehfipafoaaGreatDoorBpZ
import Derived.Test.YtnhbfehfipafoaaGreatDoorStrM

namespace Go.Proofs.YtnhbfehfipafoaaGreatDoor
open Go.RowKit

structure OpC where
 o : OpV
 vo : Option Addr
 vc : Nat

def OpC.row (q : OpC) : Value := .slice q.vo q.o.v.length q.vc

def OpC.val (q : OpC) : Value := .agg #[.int .i64 q.o.kind, .string q.o.name, .int .i64 q.o.n, .slice q.vo q.o.v.length q.vc]

def OpsN (w : World) (v : Value) (os : List OpC) : Prop :=
 ∃ ao cap, v = .slice ao os.length cap ∧ os.length ≤ cap ∧ (0 < os.length → ∃ b off, ao = some ⟨b, off, none⟩ ∧ b < w.heap.size ∧
  ∀ i q, os[i]? = some q → w.cell? ⟨b, off + i * 4, none⟩ = some (.int .i64 q.o.kind) ∧ w.cell? ⟨b, off + i * 4 + 1, none⟩ = some (.string q.o.name) ∧ w.cell? ⟨b, off + i * 4 + 2, none⟩ = some (.int .i64 q.o.n) ∧ w.cell? ⟨b, off + i * 4 + 3, none⟩ = some q.row ∧ RowS w q.row q.o.v)

theorem OpsN.below {w w' : World} {v : Value} {os : List OpC} (h : OpsN w v os) (hb : Below w.heap.size w w') : OpsN w' v os := by
 obtain ⟨ao, cap, e, hn, hh⟩ := h
 refine ⟨ao, cap, e, hn, fun h0 => ?_⟩
 obtain ⟨b, off, e', hlt, hc⟩ := hh h0
 refine ⟨b, off, e', Nat.lt_of_lt_of_le hlt hb.size, fun i q hq => ?_⟩
 obtain ⟨a0, a1, a2, a3, a4⟩ := hc i q hq
 exact ⟨(hb.cell (p := ⟨b, off + i * 4, none⟩) hlt).trans a0, (hb.cell (p := ⟨b, off + i * 4 + 1, none⟩) hlt).trans a1, (hb.cell (p := ⟨b, off + i * 4 + 2, none⟩) hlt).trans a2, (hb.cell (p := ⟨b, off + i * 4 + 3, none⟩) hlt).trans a3, a4.below hb (Nat.le_refl _)⟩

def lightO (o : OpV) : Bool := decide (o.name.size ≤ 30 ∧ o.v.length ≤ 10)

def lightL (os : List OpC) (m : Nat) : Bool := decide (os.length ≤ m) && os.all (fun q => lightO q.o)

theorem lightL_ok {os : List OpC} {m : Nat} (h : lightL os m = true) : os.length ≤ m ∧ ∀ q ∈ os, q.o.name.size ≤ 30 ∧ q.o.v.length ≤ 10 := by
 unfold lightL lightO at h
 simp only [Bool.and_eq_true, decide_eq_true_eq, List.all_eq_true] at h
 exact h

set_option linter.unusedSimpArgs false in
set_option maxRecDepth 100000 in
set_option maxHeartbeats 1600000 in
theorem lightOps_any (w : World) (v : Value) (os : List OpC) (m : Nat) (h : OpsN w v os) (hm : m ≤ 1000) :
  Calls Tryz.prog 40 #[v, .int .i64 (m : Int)] w fun e w' => e = .returned (.bool (lightL os m)) ∧ w' = w := by
 have HO := hide h
 obtain ⟨ao, cap, rfl, hcap, -⟩ := h
 generalize hr : lightL os m = r
 have HR := hide hr
 clear hr
 by_cases hml : m < os.length
 ·have g0 : decide ((m : Int) < (os.length : Int)) = true := decide_eq_true (by omega)
  obtain rfl : r = false := by rw [← HR.out]; unfold lightL; rw [decide_eq_false (by omega), Bool.false_and]
  go_enter Tryz.func40, Tryz.ntmps40
  go_wp2
  go_ret
  exact ⟨rfl, rfl⟩
 have g0 : decide ((m : Int) < (os.length : Int)) = false := decide_eq_false (by omega)
 have HA : Hid (os.all (fun q => lightO q.o) = r) := by rw [← HR.out]; unfold lightL; rw [decide_eq_true (by omega), Bool.true_and]; rfl
 clear HR
 go_enter Tryz.func40, Tryz.ntmps40
 go_wp2_with fail
 go_loopw [5] (fun i wr => ∃ k : Nat, k ≤ os.length ∧ i = .int .i64 k ∧ Hid ((os.drop k).all (fun q => lightO q.o) = r) ∧ wr = w) (fun i _ => os.length - (intOf i).toNat)
 case atStart => exact ⟨0, Nat.zero_le _, rfl, HA, rfl⟩
 case round =>
  clear HA
  obtain ⟨k, hk, rfl, HA, rfl⟩ := hrel
  by_cases hkl : k < os.length
  ·have ha := HA.out
   rw [List.drop_eq_getElem_cons hkl, List.all_cons] at ha
   obtain ⟨_, _, e, -, hh⟩ := HO.out
   simp only [Value.slice.injEq, true_and] at e
   obtain ⟨rfl, rfl⟩ := e
   obtain ⟨b, off, rfl, hlt, hc⟩ := hh (by omega)
   obtain ⟨a0, a1, a2, a3, -⟩ := hc k os[k] (List.getElem?_eq_getElem hkl)
   have HAA := hide ha
   clear hh hc ha HA
   generalize os[k] = q at *
   obtain ⟨⟨kd, nm, n, vs⟩, vo, vc⟩ := q
   simp only [OpC.row] at a3
   dsimp only at a0 a1 a2 a3 HAA
   by_cases h30 : nm.size ≤ 30
   ·have g1 : decide (30 < (nm.size : Int)) = false := decide_eq_false (by omega)
    by_cases h10 : vs.length ≤ 10
    ·have g2 : decide (10 < (vs.length : Int)) = false := decide_eq_false (by omega)
     have HA : Hid ((os.drop (k + 1)).all (fun q => lightO q.o) = r) := by
      have := HAA.out
      unfold lightO at this
      dsimp only at this
      rw [decide_eq_true ⟨h30, h10⟩, Bool.true_and] at this
      exact this
     clear HAA h30 h10
     go_wp2
     go_roundw
     case rel => exact ⟨k + 1, by omega, by go_num, HA, by first | rfl | trivial⟩
     case measure => simp [intOf]; omega
    ·have g2 : decide (10 < (vs.length : Int)) = true := decide_eq_true (by omega)
     obtain rfl : r = false := by
      have := HAA.out
      unfold lightO at this
      dsimp only at this
      rw [decide_eq_false (fun h => h10 h.2), Bool.false_and] at this
      exact this.symm
     clear HAA h30 h10
     go_wp2
     go_ret
     exact ⟨rfl, rfl⟩
   ·have g1 : decide (30 < (nm.size : Int)) = true := decide_eq_true (by omega)
    obtain rfl : r = false := by
     have := HAA.out
     unfold lightO at this
     dsimp only at this
     rw [decide_eq_false (fun h => h30 h.1), Bool.false_and] at this
     exact this.symm
    clear HAA h30
    go_wp2
    go_ret
    exact ⟨rfl, rfl⟩
  ·obtain rfl : k = os.length := by omega
   obtain rfl : r = true := by rw [← HA.out, List.drop_length]; rfl
   clear HA
   go_wp2
   go_ret
   exact ⟨rfl, rfl⟩

end Go.Proofs.YtnhbfehfipafoaaGreatDoor

/- A log: a deed is added. -/
namespace Go.Proofs.YtnhbfehfipafoaaGreatDoor
open Go.RowKit

def packF : List OpV → Nat
 | [] => 0
 | o :: t => if opF o ≠ 0 then opF o else packF t

theorem packF_all : ∀ {os : List OpV}, packF os = 0 → ∀ o ∈ os, opF o = 0
 | o :: t, h, x, hx => by
  unfold packF at h
  split at h
  ·rename_i h1; exact absurd h h1
  ·rename_i h1
   rcases List.mem_cons.1 hx with rfl | hx
   ·simpa using h1
   ·exact packF_all h x hx

def PackP (w : World) (os : List OpV) (e : Ending) (w' : World) : Prop :=
 ((packF os ≠ 0 ∧ e = .returned (.tuple #[.slice none 0 0, errV (packF os)])) ∨ (packF os = 0 ∧ ∃ P, e = .returned (.tuple #[.slice (some ⟨P, 0, none⟩) os.length os.length, .nilIface]) ∧ StrB w' P (os.map opS))) ∧ Below w.heap.size w w'

def FillS (w wr : World) (P : Nat) (bs : List ByteArray) (k : Nat) : Prop :=
 wr.heap[P]? = some (.cells (Lib.cellsOf (bs.take k) bs.length) 9) ∧ Below w.heap.size w wr

theorem FillS.store {w wr : World} {P : Nat} {bs : List ByteArray} {k : Nat} (h : FillS w wr P bs k) (hP : w.heap.size ≤ P) {b : ByteArray} (hb : bs[k]? = some b) : FillS w (wr.setCell ⟨P, k, none⟩ (.string b)) P bs (k + 1) := by
 obtain ⟨h1, h2⟩ := h
 obtain ⟨hk, e0⟩ := List.getElem?_eq_some_iff.1 hb
 have hl : (bs.take k).length = k := by rw [List.length_take]; omega
 have hs := heap_setCell_same wr P k _ _ (.string b) h1
 refine ⟨?_, h2.setCell (by exact hP) _⟩
 have e : (Lib.cellsOf (bs.take k) bs.length).setIfInBounds k (.string b) = Lib.cellsOf (bs.take (k + 1)) bs.length := by
  have := Lib.cellsOf_set (done := bs.take k) (N := bs.length) (by omega) b
  rw [hl] at this
  rw [this, List.take_succ_eq_append_getElem hk, e0]
 rw [← e]
 exact hs

theorem FillS.cell {w wr : World} {P : Nat} {bs : List ByteArray} {k : Nat} (h : FillS w wr P bs k) (hk : k < bs.length) : wr.cell? ⟨P, k, none⟩ = some (.string ByteArray.empty) ∧ wr.frozen? ⟨P, k, none⟩ = false := by
 have hl : (bs.take k).length = k := by rw [List.length_take]; omega
 refine ⟨?_, by simp [World.frozen?, h.1]⟩
 rw [cell_of_row wr P k _ _ _ h.1]
 have := Lib.cellsOf_next (done := bs.take k) (N := bs.length) (by omega)
 rw [hl] at this
 exact this

theorem FillS.full {w wr : World} {P : Nat} {bs : List ByteArray} (h : FillS w wr P bs bs.length) : StrB wr P bs := by
 have h1 := h.1
 rw [List.take_length] at h1
 unfold StrB
 rw [h1]
 simp [Lib.cellsOf]

set_option linter.unusedSimpArgs false in
set_option maxRecDepth 100000 in
set_option maxHeartbeats 1600000 in
theorem packed_any (w : World) (v : Value) (os : List OpC) (h : OpsN w v os) (hl : os.length ≤ 100) :
  Calls Tryz.prog 69 #[v] w fun e w' => PackP w (os.map (·.o)) e w' := by
 have HO := hide h
 obtain ⟨ao, cap, rfl, -⟩ := h
 obtain ⟨n, hn⟩ : ∃ n, os.length = n := ⟨_, rfl⟩
 have hmk := run_mkSP n (by omega)
 obtain ⟨bs, hbs⟩ : ∃ bs, (os.map (·.o)).map opS = bs := ⟨_, rfl⟩
 have hbl : bs.length = n := by rw [← hbs]; simp [hn]
 have HI : Hid (FillS w (w.alloc (.cells (Lib.cellsOf [] n) 9)) w.heap.size bs 0) := by
  have h1 : (w.alloc (.cells (Lib.cellsOf [] n) 9)).heap[w.heap.size]? = _ := heap_alloc_new w _
  exact ⟨by rw [hbl, List.take_zero]; exact h1, (Below.refl _ _).alloc (Nat.le_refl _) _⟩
 obtain ⟨F, hF⟩ : ∃ F, packF (os.map (·.o)) = F := ⟨_, rfl⟩
 have HBS := hide hbs; have HBL := hide hbl; have HN := hide hn; have HF := hide hF
 have HF0 : Hid (packF ((os.map (·.o)).drop 0) = F) := by show _ = _; rw [List.drop_zero]; exact hF
 rw [hn]
 clear hbs hbl hF hn
 go_enter Tryz.func69, Tryz.ntmps69
 go_wp2
 clear hmk
 go_loopw [13] (fun i wr => ∃ k : Nat, k ≤ n ∧ i = .int .i64 k ∧ Hid (FillS w wr w.heap.size bs k) ∧ Hid (packF ((os.map (·.o)).drop k) = F)) (fun i _ => n - (intOf i).toNat)
 case atStart => exact ⟨0, Nat.zero_le _, rfl, HI, HF0⟩
 case round =>
  clear HI HF0
  obtain ⟨k, hk, rfl, HI, HFK⟩ := hrel
  by_cases hkl : k < n
  ·have hkb : k < os.length := by rw [HN.out]; exact hkl
   obtain ⟨_, _, e, -, hh⟩ := HO.out.below HI.out.2
   rw [HN.out] at e
   simp only [Value.slice.injEq, true_and] at e
   obtain ⟨rfl, rfl⟩ := e
   obtain ⟨b, off, rfl, hltw, hc⟩ := hh (by omega)
   obtain ⟨q, hq⟩ : ∃ q, os[k]? = some q := ⟨_, List.getElem?_eq_getElem hkb⟩
   obtain ⟨a0, a1, a2, a3, a4⟩ := hc k q hq
   have hbk : bs[k]? = some (opS q.o) := by rw [← HBS.out, List.getElem?_map, List.getElem?_map, hq]; rfl
   have hfk := HFK.out
   rw [List.drop_eq_getElem_cons (by rw [List.length_map]; exact hkb), List.getElem_map] at hfk
   have e5 : os[k]'hkb = q := (List.getElem?_eq_some_iff.1 hq).2
   rw [e5] at hfk
   unfold packF at hfk
   have HFQ := hide hfk; have HBK := hide hbk
   clear hh hc hq hfk hbk e5 HFK
   obtain ⟨⟨kd, nm, nn, vs⟩, vo, vc⟩ := q
   simp only [OpC.row] at a3 a4
   dsimp only at a0 a1 a2 a3 a4 HFQ HBK
   have HRV := hide a4
   clear a4
   go_wp2_with fail
   refine (packOp_any wr ⟨kd, nm, nn, vs⟩ vo vc HRV.out).mono ?_
   rintro e w1 ⟨rfl, hb1⟩
   have HI1 := hide (show FillS w w1 w.heap.size bs k from ⟨(hb1.block _ (heap_lt HI.out.1)).trans HI.out.1, HI.out.2.trans (hb1.mono HI.out.2.size)⟩)
   obtain ⟨f0, f1⟩ := HI1.out.cell (by rw [HBL.out]; exact hkl)
   have HB1 := hide HI1.out.2
   clear hb1 HI a0 a1 a2 a3 HRV
   by_cases h0 : opF ⟨kd, nm, nn, vs⟩ = 0
   ·have hfq := HFQ.out
    rw [if_neg (fun h => h h0)] at hfq
    have HFN := hide hfq
    have HN1 := hide (HI1.out.store (Nat.le_refl _) HBK.out)
    rw [h0]
    have e0 : errV 0 = .nilIface := rfl
    rw [e0]
    obtain ⟨S, hS⟩ : ∃ S, opS ⟨kd, nm, nn, vs⟩ = S := ⟨_, rfl⟩
    rw [hS] at HN1 ⊢
    clear h0 e0 hS hfq HFQ HBK HI1
    go_wp2
    go_roundw
    case rel => exact ⟨k + 1, by omega, by go_num, HN1, HFN⟩
    case measure => simp [intOf]; omega
   ·have hfq := HFQ.out
    rw [if_pos h0] at hfq
    have e0 : errV (opF ⟨kd, nm, nn, vs⟩) = .iface 80 (.int .i64 ((opF ⟨kd, nm, nn, vs⟩ : Nat) : Int)) := if_neg h0
    have h0' : F ≠ 0 := by rw [← hfq]; exact h0
    rw [e0, hfq]
    have HF1 := hide h0'
    obtain ⟨S, hS⟩ : ∃ S, opS ⟨kd, nm, nn, vs⟩ = S := ⟨_, rfl⟩
    rw [hS]
    clear h0 h0' e0 hfq HFQ hS f0 f1
    go_wp2
    exact bodyPost_ret (v := .tuple #[.slice none 0 0, .iface 80 (.int .i64 (F : Int))]) (by simp [results, Tryz.results69, go_sem]) rfl ⟨.inl ⟨by rw [HF.out]; exact HF1.out, by rw [HF.out]; unfold errV; rw [if_neg HF1.out]⟩, HB1.out⟩
  ·obtain rfl : k = n := by omega
   have hfk := HFK.out
   rw [List.drop_of_length_le (by rw [List.length_map, HN.out]; exact Nat.le_refl _)] at hfk
   have HF0 : Hid (F = 0) := hfk.symm
   have hfull := HI.out
   have hbl := HBL.out
   rw [← hbl] at hfull
   have HFU := hide hfull.full
   have HBW := hide HI.out.2
   clear hfk hfull hbl HI HFK
   go_wp2
   exact bodyPost_ret (v := .tuple #[.slice (some ⟨w.heap.size, 0, none⟩) k k, .nilIface]) (by simp [results, Tryz.results69, go_sem]) rfl ⟨.inr ⟨HF.out.trans HF0.out, w.heap.size, by rw [List.length_map, HN.out], by rw [HBS.out]; exact HFU.out⟩, HBW.out⟩

def logT (t : TypeId) : Prop := diskT t ∨ t = 132

structure KeptW (base : Own) (W W' : World) : Prop where
 os : W'.os = W.os
 tape : W'.tape = W.tape
 output : W'.output = W.output
 size : W.heap.size ≤ W'.heap.size
 block : ∀ b, b < W.heap.size → (¬ base.mine b ∨ ∀ cs t fz, W.heap[b]? = some (.cells cs t fz) → ¬ logT t) → W'.heap[b]? = W.heap[b]?

theorem KeptW.refl (base : Own) (W : World) : KeptW base W W := ⟨rfl, rfl, rfl, Nat.le_refl _, fun _ _ _ => rfl⟩

theorem KeptW.of {base : Own} {W W' : World} (h : Kept base W W') : KeptW base W W' :=
 ⟨h.os, h.tape, h.output, h.size, fun b hb ho => h.block b hb (ho.imp id (fun h cs t fz hx hd => h cs t fz hx (.inl hd)))⟩

theorem KeptW.of_below {base : Own} {W W' : World} (h : Below W.heap.size W W') : KeptW base W W' := KeptW.of (Kept.of_below h)

theorem KeptW.trans {base : Own} {a b c : World} (h : KeptW base a b) (k : KeptW base b c) : KeptW base a c :=
 ⟨k.os.trans h.os, k.tape.trans h.tape, k.output.trans h.output, Nat.le_trans h.size k.size, fun i hi ho => by
  have e := h.block i hi ho
  refine (k.block i (Nat.lt_of_lt_of_le hi h.size) ?_).trans e
  rcases ho with ho | ho
  ·exact .inl ho
  ·exact .inr fun cs t fz hx => ho cs t fz (by rw [← e]; exact hx)⟩

theorem KeptW.below {base : Own} {K : Nat} {W W' : World} (h : KeptW base W W') (hb : K ≤ W.heap.size) (hK : ∀ b, base.mine b → K ≤ b) : Below K W W' :=
 ⟨h.os, h.tape, h.output, h.size, fun b hlt => h.block b (by omega) (.inl fun hm => by have := hK b hm; omega)⟩

theorem LogM.set {W : World} {L B : Nat} {fr many first en : Int} (h : LogM W L B fr many first en) (en' : Int) : LogM (W.setCell ⟨L, 4, none⟩ (.int .i64 en')) L B fr many first en' := by
 unfold LogM at h ⊢
 rw [heap_setCell_same W L 4 _ _ _ h]
 rfl

theorem KeptW.setEnd {base : Own} {L B : Nat} {W : World} {fr many first en : Int} (h : LogM W L B fr many first en) (hb : base.mine L) (v : Value) : KeptW base W (W.setCell ⟨L, 4, none⟩ v) := by
 refine ⟨rfl, rfl, rfl, by simp, fun c _ ho => heap_setCell_other _ _ _ _ (fun e => ?_)⟩
 simp only at e
 subst e
 rcases ho with ho | ho
 ·exact ho hb
 ·exact ho _ _ _ h (.inr rfl)

theorem DiskO.setLog {base : Own} {L B C : Nat} {W : World} {D : Dsk} {fr many first en : Int} (h : DiskO W base C D) (hl : LogM W L B fr many first en) (v : Value) : DiskO (W.setCell ⟨L, 4, none⟩ v) base C D := by
 obtain ⟨sv, ls, h⟩ := h
 exact ⟨sv, ls, h.aside hl log_type (fun c hc => heap_setCell_other _ _ _ _ (fun e => hc e))⟩

end Go.Proofs.YtnhbfehfipafoaaGreatDoor

/- A log: a deed is added: all of it. -/
namespace Go.Proofs.YtnhbfehfipafoaaGreatDoor
open Go.RowKit

def uncloseB (R : Dsk × Bool × Bool) : Bool := R.2.1 && (!R.2.2 || R.1.steps)

def okV (b : Bool) : Value := if b = true then .nilIface else errno 9

theorem uncloseR_val (R : Dsk × Bool × Bool) : (uncloseR R).1 = okV (uncloseB R) := by
 obtain ⟨D, ok, wp⟩ := R
 cases ok <;> cases wp <;> cases hs : D.steps <;> simp [uncloseR, uncloseB, okV, stepErr, hs]

def andB (D : Dsk) (ok : Bool) : Bool := ok && D.steps

theorem andFlush_val (D : Dsk) (ok : Bool) : (andFlush D ok).1 = okV (andB D ok) := by
 cases ok <;> cases hs : D.steps <;> simp [andFlush, andB, okV, stepErr, hs]

def closedD (first : Int) (fr en n : Nat) (D : Dsk) : Dsk := putD D ((fr + (en + n) : Nat) : Int) (secB (secT 99 (first + (en + n : Nat)) (fourB n)))

def addD (first : Int) (fr en mn : Nat) (os : List OpV) (D : Dsk) : Dsk × Bool :=
 if uncloseB (wipesD first fr (mn - en) en D false) = false then ((uncloseR (wipesD first fr (mn - en) en D false)).2, false)
 else if andB (writesD first fr en (os.map opS) (uncloseR (wipesD first fr (mn - en) en D false)).2).1 (writesD first fr en (os.map opS) (uncloseR (wipesD first fr (mn - en) en D false)).2).2 = false then
  ((andFlush (writesD first fr en (os.map opS) (uncloseR (wipesD first fr (mn - en) en D false)).2).1 (writesD first fr en (os.map opS) (uncloseR (wipesD first fr (mn - en) en D false)).2).2).2, false)
 else
  ((andFlush (closedD first fr en os.length (andFlush (writesD first fr en (os.map opS) (uncloseR (wipesD first fr (mn - en) en D false)).2).1 (writesD first fr en (os.map opS) (uncloseR (wipesD first fr (mn - en) en D false)).2).2).2) (andFlush (writesD first fr en (os.map opS) (uncloseR (wipesD first fr (mn - en) en D false)).2).1 (writesD first fr en (os.map opS) (uncloseR (wipesD first fr (mn - en) en D false)).2).2).2.steps).2,
   andB (closedD first fr en os.length (andFlush (writesD first fr en (os.map opS) (uncloseR (wipesD first fr (mn - en) en D false)).2).1 (writesD first fr en (os.map opS) (uncloseR (wipesD first fr (mn - en) en D false)).2).2).2) (andFlush (writesD first fr en (os.map opS) (uncloseR (wipesD first fr (mn - en) en D false)).2).1 (writesD first fr en (os.map opS) (uncloseR (wipesD first fr (mn - en) en D false)).2).2).2.steps)

theorem uncloseR_well {R : Dsk × Bool × Bool} {m k : Nat} (h : Well R.1 m k) : Well (uncloseR R).2 m k := by
 unfold uncloseR
 split
 ·exact h
 ·split
  ·exact h
  ·exact h.flush

theorem andFlush_well {D : Dsk} {ok : Bool} {m k : Nat} (h : Well D m k) : Well (andFlush D ok).2 m k := by
 unfold andFlush
 split
 ·exact h.flush
 ·exact h

theorem addD_well {first : Int} {fr en mn m k : Nat} {os : List OpV} {D : Dsk} (h : Well D m k) : Well (addD first fr en mn os D).1 m (k + (mn - en) + os.length + 1) := by
 have h1 := uncloseR_well (wipesD_well first fr m (mn - en) en k D false h)
 have h2 := andFlush_well (ok := (writesD first fr en (os.map opS) (uncloseR (wipesD first fr (mn - en) en D false)).2).2) (writesD_well first fr m (os.map opS) en _ _ h1)
 rw [List.length_map] at h2
 unfold addD
 split
 ·exact h1.mono (by omega)
 ·split
  ·exact h2.mono (by omega)
  ·exact andFlush_well (h2.put _ _)

def addF (os : List OpV) (room : Nat) : Nat := if 12 < os.length then 2 else if room ≤ os.length then 10 else packF os

def AddP (w : World) (base : Own) (B L : Nat) (D : Dsk) (fr en mn : Nat) (first : Int) (os : List OpV) (e : Ending) (w' : World) : Prop :=
 ((addF os (mn - en) ≠ 0 ∧ e = .returned (errno (addF os (mn - en) : Nat)) ∧ DiskO w' base B D ∧ LogM w' L B fr mn first en) ∨
  (addF os (mn - en) = 0 ∧ e = .returned (okV (addD first fr en mn os D).2) ∧ DiskO w' base B (addD first fr en mn os D).1 ∧ LogM w' L B fr mn first (if (addD first fr en mn os D).2 = true then ((en + os.length + 1 : Nat) : Int) else (en : Int)))) ∧ KeptW base w w'

set_option linter.unusedSimpArgs false in
set_option maxRecDepth 100000 in
set_option maxHeartbeats 1600000 in
theorem logAdd_any (w : World) (base : Own) (B L : Nat) (D : Dsk) (m k fr en mn : Nat) (first : Int) (v : Value) (os : List OpC) (hd : DiskO w base B D) (hl : LogM w L B fr mn first en) (hw : Well D m k) (hk : k ≤ 500) (hm : m ≤ 200) (hin : fr + mn ≤ m) (he : en ≤ mn) (hf : 0 ≤ first ∧ first ≤ 8589934592) (hbase : base.h ≤ w.heap.size) (hL : base.mine L) (ho : OpsN w v os) :
  Calls Tryz.prog 51 #[.pointer (some ⟨L, 0, none⟩), v] w fun e w' => AddP w base B L D fr en mn first (os.map (·.o)) e w' := by
 have HO := hide ho; have HD := hide hd; have HL := hide hl; have HW := hide hw
 obtain ⟨ao, cap, rfl, -⟩ := ho
 obtain ⟨ov, hov⟩ : ∃ ov, os.map (·.o) = ov := ⟨_, rfl⟩
 obtain ⟨n, hn⟩ : ∃ n, os.length = n := ⟨_, rfl⟩
 have hon : ov.length = n := by rw [← hov, List.length_map]; exact hn
 have HOV := hide hov; have HN := hide hon; have HNO := hide hn
 rw [hov, hn]
 clear hd hl hw hov hn
 by_cases h12 : 12 < n
 ·have g12 : decide (12 < (n : Int)) = true := decide_eq_true (by omega)
  have HF : Hid (addF ov (mn - en) = 2) := by show _ = _; unfold addF; rw [if_pos (by omega)]
  clear h12 hon
  go_enter Tryz.func51, Tryz.ntmps51
  go_wp2
  go_ret
  exact ⟨.inl ⟨by rw [HF.out]; decide, by rw [HF.out]; rfl, HD.out, HL.out⟩, KeptW.refl _ _⟩
 ·have g12 : decide (12 < (n : Int)) = false := decide_eq_false (by omega)
  have HRM := hide (room_any w L B fr first mn en HL.out he (by omega))
  obtain ⟨rm, hrm⟩ : ∃ rm, mn - en = rm := ⟨_, rfl⟩
  rw [hrm] at HRM
  have HRQ := hide hrm
  clear hrm
  have HS12 : Hid (n ≤ 12) := by show n ≤ 12; omega
  clear h12
  go_enter Tryz.func51, Tryz.ntmps51
  go_wp2_with fail
  refine HRM.out.mono ?_
  rintro e w1 ⟨rfl, hb1⟩
  have HD1 := hide (HD.out.later hb1); have HL1 := hide (HL.out.later hb1); have HO1 := hide (HO.out.below hb1); have HK1 : Hid (KeptW base w w1) := KeptW.of_below hb1
  have HB1 := hide (Nat.le_trans hbase hb1.size)
  clear HRM hb1 HD HL HO
  by_cases hr : rm ≤ n
  ·have gr : decide ((rm : Int) ≤ (n : Int)) = true := decide_eq_true (by omega)
   have gr2 : decide (rm ≤ n) = true := decide_eq_true hr
   have HF : Hid (addF ov (mn - en) = 10) := by
    have h1 := HS12.out; have h2 := HN.out; have h3 := HRQ.out
    show _ = _
    unfold addF
    rw [if_neg (by omega), if_pos (by omega)]
   clear hr hon
   go_wp2
   go_ret
   exact ⟨.inl ⟨by rw [HF.out]; decide, by rw [HF.out]; rfl, HD1.out, HL1.out⟩, HK1.out⟩
  ·have gr : decide ((rm : Int) ≤ (n : Int)) = false := decide_eq_false (by omega)
   have gr2 : decide (rm ≤ n) = false := decide_eq_false hr
   have HF : Hid (addF ov (mn - en) = packF ov) := by
    have h1 := HS12.out; have h2 := HN.out; have h3 := HRQ.out
    show _ = _
    unfold addF
    rw [if_neg (by omega), if_neg (by omega)]
   have HRN : Hid (n < rm) := by show n < rm; omega
   clear hr hon
   go_wp2_with fail
   have hpk := packed_any w1 (.slice ao n cap) os (by rw [← HNO.out]; have := HO1.out; exact this) (by have := HNO.out; have := HS12.out; omega)
   rw [HOV.out] at hpk
   refine hpk.mono ?_
   rintro e w2 ⟨h | ⟨h0, P, rfl, hsb⟩, hb2⟩
   ·obtain ⟨h0, rfl⟩ := h
    have HD2 := hide (HD1.out.later hb2); have HL2 := hide (HL1.out.later hb2); have HK2 := hide (HK1.out.trans (KeptW.of_below hb2))
    have e0 : errV (packF ov) = .iface 80 (.int .i64 ((packF ov : Nat) : Int)) := if_neg h0
    have H0 := hide h0
    rw [e0]
    clear hpk hb2 HD1 HL1 HK1 h0 e0
    go_wp2
    go_ret
    exact ⟨.inl ⟨by rw [HF.out]; exact H0.out, by rw [HF.out]; rfl, HD2.out, HL2.out⟩, HK2.out⟩
   ·have HD2 := hide (HD1.out.later hb2); have HL2 := hide (HL1.out.later hb2); have HK2 := hide (HK1.out.trans (KeptW.of_below hb2)); have HS2 := hide hsb
    have HB2 := hide (Nat.le_trans HB1.out hb2.size)
    have HF0 : Hid (addF ov (mn - en) = 0) := HF.out.trans h0
    have HALL := hide (packF_all h0)
    rw [HN.out]
    clear hpk hb2 hsb HD1 HL1 HK1 h0 HF
    go_wp2_with fail
    refine (unclose_any w2 base B L D m k fr en mn first HD2.out HL2.out HW.out (by omega) hm hin he hf HB2.out).mono ?_
    rintro e w3 ⟨rfl, hd3, hk3⟩
    rw [uncloseR_val]
    obtain ⟨R, hR⟩ : ∃ R, wipesD first fr (mn - en) en D false = R := ⟨_, rfl⟩
    have hRw : Well R.1 m (k + (mn - en)) := by rw [← hR]; exact wipesD_well first fr m (mn - en) en k D false HW.out
    rw [hR] at hd3 ⊢
    have HR := hide hR; have HRW := hide (uncloseR_well hRw)
    have HD3 := hide hd3; have HL3 := hide (HL2.out.kept hk3); have HK3 := hide (HK2.out.trans (KeptW.of hk3)); have HS3 := hide (HS2.out.kept hk3); have HB3 := hide (Nat.le_trans HB2.out hk3.size)
    clear hd3 hk3 HD2 HL2 HK2 HS2 hR hRw HB2
    cases hu : uncloseB R with
    | false =>
     have HAD : Hid (addD first fr en mn ov D = ((uncloseR R).2, false)) := by show _ = _; unfold addD; rw [HR.out, if_pos hu]
     have e0 : okV false = errno 9 := rfl
     rw [e0]
     clear hu e0
     go_wp2
     go_ret
     exact ⟨.inr ⟨HF0.out, by rw [HAD.out]; rfl, by rw [HAD.out]; exact HD3.out, by rw [HAD.out]; exact HL3.out⟩, HK3.out⟩
    | true =>
     have HU := hide hu
     have e0 : okV true = .nilIface := rfl
     rw [e0]
     clear hu e0
     obtain ⟨D1, hD1⟩ : ∃ D1, (uncloseR R).2 = D1 := ⟨_, rfl⟩
     rw [hD1] at HD3 HRW
     have HD1E := hide hD1
     clear hD1
     have hsz : ∀ b ∈ ov.map opS, b.size ≤ 58 := fun b hb => by
      obtain ⟨o, ho, rfl⟩ := List.mem_map.1 hb
      have h0 := HALL.out o ho
      unfold opS
      rw [if_pos h0]
      show (opB o).toArray.size ≤ 58
      rw [List.size_toArray]
      have := opB_small h0
      omega
     have hwa := writeAll_any w3 base B L P D1 m (k + (mn - en)) fr en mn first (ov.map opS) HD3.out HL3.out HRW.out (by omega) hm (by rw [List.length_map, HN.out]; have h1 := HRN.out; have h2 := HRQ.out; omega) hf hsz HS3.out HB3.out
     have hXw := writesD_well first fr m (ov.map opS) en _ D1 HRW.out
     rw [List.length_map, HN.out] at hwa hXw
     have HWA := hide hwa; have HXW := hide (andFlush_well (ok := (writesD first fr en (ov.map opS) D1).2) hXw)
     clear hwa hXw hsz HD3 HS3
     go_wp2_with fail
     refine HWA.out.mono ?_
     rintro e w4 ⟨rfl, hd4, hk4⟩
     rw [andFlush_val]
     obtain ⟨X, hX⟩ : ∃ X, writesD first fr en (ov.map opS) D1 = X := ⟨_, rfl⟩
     rw [hX] at hd4 HXW ⊢
     have HX := hide hX
     have HD4 := hide hd4; have HL4 := hide (HL3.out.kept hk4); have HK4 := hide (HK3.out.trans (KeptW.of hk4)); have HB4 := hide (Nat.le_trans HB3.out hk4.size)
     clear hd4 hk4 hX HL3 HK3 HB3 HWA
     cases hxb : andB X.1 X.2 with
     | false =>
      have HAD : Hid (addD first fr en mn ov D = ((andFlush X.1 X.2).2, false)) := by
       show _ = _
       unfold addD
       rw [HR.out, if_neg (by rw [HU.out]; decide), HD1E.out, HX.out, if_pos hxb]
      have e0 : okV false = errno 9 := rfl
      rw [e0]
      clear hxb e0
      go_wp2
      go_ret
      exact ⟨.inr ⟨HF0.out, by rw [HAD.out]; rfl, by rw [HAD.out]; exact HD4.out, by rw [HAD.out]; exact HL4.out⟩, HK4.out⟩
     | true =>
      obtain ⟨D2, hD2⟩ : ∃ D2, (andFlush X.1 X.2).2 = D2 := ⟨_, rfl⟩
      rw [hD2] at HD4 HXW
      have HAD : Hid (addD first fr en mn ov D = ((andFlush (closedD first fr en n D2) D2.steps).2, andB (closedD first fr en n D2) D2.steps)) := by
       show _ = _
       unfold addD
       rw [HR.out, if_neg (by rw [HU.out]; decide), HD1E.out, HX.out, if_neg (by rw [hxb]; decide), hD2, HN.out]
      have e0 : okV true = .nilIface := rfl
      rw [e0]
      clear hxb e0 hD2
      have HCL := hide (logClose_any w4 base B L D2 m (k + (mn - en) + n) fr en n mn first HD4.out HL4.out HXW.out (by have := HS12.out; omega) hm (by have h1 := HRN.out; have h2 := HRQ.out; omega) hf HB4.out)
      go_wp2_with fail
      refine HCL.out.mono ?_
      rintro e w5 ⟨rfl, hd5, hk5⟩
      have hcd : putD D2 ((fr + (en + n) : Nat) : Int) (secB (secT 99 (first + (en + n : Nat)) (fourB n))) = closedD first fr en n D2 := rfl
      rw [hcd] at hd5 ⊢
      rw [andFlush_val]
      have HD5 := hide hd5; have HL5 := hide (HL4.out.kept hk5); have HK5 := hide (HK4.out.trans (KeptW.of hk5))
      clear hd5 hk5 hcd HCL HD4 HL4 HK4 HB4
      cases hyb : andB (closedD first fr en n D2) D2.steps with
      | false =>
       rw [hyb] at HAD
       have e0 : okV false = errno 9 := rfl
       rw [e0]
       clear hyb e0
       go_wp2
       go_ret
       exact ⟨.inr ⟨HF0.out, by rw [HAD.out]; rfl, by rw [HAD.out]; exact HD5.out, by rw [HAD.out]; exact HL5.out⟩, HK5.out⟩
      | true =>
       rw [hyb] at HAD
       have e0 : okV true = .nilIface := rfl
       rw [e0]
       clear hyb e0
       obtain ⟨-, -, -, -, c4, c5⟩ := HL5.out.cells
       obtain ⟨E2, hE2⟩ : ∃ E2, en + n + 1 = E2 := ⟨_, rfl⟩
       have hc1 : (en : Int) + ((n : Int) + 1) = (E2 : Int) := by omega
       have hc2 : IntKind.i64.wrap (E2 : Int) = (E2 : Int) := wrap_small (by have := HS12.out; omega) (by have := HS12.out; omega)
       have HLF : Hid (LogM (w5.setCell ⟨L, 4, none⟩ (.int .i64 (E2 : Int))) L B fr mn first E2) := HL5.out.set _
       have HDF := hide (HD5.out.setLog HL5.out (.int .i64 (E2 : Int)))
       have HKF := hide (HK5.out.trans (KeptW.setEnd HL5.out hL (.int .i64 (E2 : Int))))
       have HE2 := hide hE2
       have hn12 : (n : Int) ≤ 12 := by have := HS12.out; omega
       clear hE2 HD5 HL5 HK5
       go_wp2
       go_ret
       exact ⟨.inr ⟨HF0.out, by rw [HAD.out]; rfl, by rw [HAD.out]; exact HDF.out, by rw [HAD.out, HN.out, HE2.out]; exact HLF.out⟩, HKF.out⟩

end Go.Proofs.YtnhbfehfipafoaaGreatDoor
