/- The one form of rows: it is in the one form, generates the same, and its numbers are not too great. -/
import Derived.Test.YtcnllfnikajddaaTl2
import Derived.Test.YtcnllfnikajddaaMats
import Derived.Test.YtcnllfnikajddaaHold
import Derived.ProofKit
import Derived.Lib.SmallJoins
import Derived.ChangeOld
import Derived.Test.YtcnllfnikajddaaMix
import Derived.Deep.SlicePairs

namespace Go.Proofs.Ytcnllfnikajddaa
open Go.RowKit Limbs

def Fresh (base : Nat) (u : Value) : Prop := ∀ a l c, u = .slice (some a) l c → base ≤ a.block

theorem Fresh.mono {base base' : Nat} {u : Value} (h : Fresh base u) (hb : base' ≤ base) : Fresh base' u := fun a l c e => Nat.le_trans hb (h a l c e)

theorem owns_fresh {W : World} {base : Nat} {e : TypeId} {size : Nat} {v : Value} {n : Nat} {xs : List Value} (h : W.ownsRow base e size v n xs) : Fresh base v := fun a l c hv => by
 rcases h.2 with ⟨rfl, -⟩ | ⟨g, cap, cur, rfl, hb, -⟩
 ·cases hv
 ·simp only [Value.slice.injEq, Option.some.injEq] at hv
  obtain ⟨rfl, -⟩ := hv
  exact hb

theorem one_bound {l : List (List Int)} {n nv : Nat} {R : Nat → Option (List Int)} (hp : Pos R) (hE : Ech R n n) (ha : Alikes n (RowsOf R) (InL l)) (hl : ∀ us ∈ l, us.length = n) (hb : ∀ us ∈ l, ∀ j, j < n → ab (us.getD j 0) < bp nv) {Q : Nat} (hQ : n ≤ Q ∨ l.length ≤ Q) (hn : Q ≤ 16) :
  ∀ i a r, i ≤ n → n - i ≤ a → tidyN R n i a = some r → ∀ j, j < r.length → ab (r.getD j 0) < bp (Q * nv + 2) := by
 obtain ⟨q, hq, hq2, hbd⟩ := tidy_bound hp hE ha l.length (fun k b => (l.getD k []).getD b 0) (bp nv) (by have := bp_pos nv; omega) (fun a b ha hb' => Int.le_of_lt (hb _ (getD_mem ha) b hb'))
  (fun v hv hvl => by
   obtain ⟨k, hk, e⟩ := List.getElem_of_mem hv
   exact ⟨k, hk, fun b _ => by rw [getD_row hk, e]⟩)
  (fun k hk => ⟨l.getD k [], getD_mem hk, hl _ (getD_mem hk), fun _ _ => rfl⟩)
 intro i a r hi ha' e j hj
 have e' : tidyN R n n a = some r := by rw [tidyN_stays hi (Nat.le_refl _) ha']; exact e
 have hlen := (hE.all (Nat.le_refl n) n).len a r e'
 have h1 := hbd a r e' j (by omega)
 have h2 := facP_lt (v := nv) (show q ≤ Q by omega) hn
 exact Int.lt_of_le_of_lt h1 h2

theorem tidy_none (n k : Nat) : tidyN (fun _ => none) n k = fun _ => none := by
 induction k with
 | zero => rfl
 | succ k ih =>
  show tidyAt (tidyN (fun _ => none) n k) n (n - 1 - k) = _
  rw [ih]
  funext i
  unfold tidyAt
  split <;> rfl

structure OneI (w wr : World) (sb n S0 : Nat) (rows : Nat → Option (List Int)) (ms : List (List Int)) (k : Nat) : Prop where
 st : StairO w wr sb n rows n (fun _ => S0)
 tid : ∃ rows0, Ech rows0 n n ∧ Pos rows0 ∧ rows = tidyN rows0 n n
 gen : Alikes n (RowsOf rows) (InL (ms.take k))

theorem OneI.ech {w wr : World} {sb n S0 : Nat} {rows : Nat → Option (List Int)} {ms : List (List Int)} {k : Nat} (h : OneI w wr sb n S0 rows ms k) : Ech rows n n := by
 obtain ⟨r0, h1, -, rfl⟩ := h.tid
 exact h1.all (Nat.le_refl n) n

theorem StairO.pos {w W : World} {sb m : Nat} {rows : Nat → Option (List Int)} {len : Nat} {ns : Nat → Nat} (h : StairO w W sb m rows len ns) (hE : Ech rows len m) : Pos rows := fun i r e => by
 obtain ⟨P, -, -, -, -, h5⟩ := h.row i (hE.lt i r e) r e
 exact h5

theorem made_one (m i : Nat) (hi : i < m) : (madeCells #[.slice none 0 0] m)[i]? = some (.slice none 0 0) := by
 simp [madeCells, hi, Nat.mod_one]

theorem StairO.made (w W : World) (hb : Below w.heap.size w W) (m len : Nat) (ns : Nat → Nat) : StairO w (W.alloc (.cells (madeCells #[.slice none 0 0] m) 59)) W.heap.size m (fun _ => none) len ns where
 lt := by simp
 low := hb.size
 below := hb.alloc hb.size _
 blk := ⟨_, _, heap_alloc_new W _⟩
 nil := fun i hi _ => by
  rw [World.cell?_alloc_new]
  exact made_one m i hi
 row := fun i hi r e => by cases e

theorem VecN.off {w : World} {v : Value} {zs : List Int} {n sb : Nat} (h : VecN w v zs n) (h0 : 0 < zs.length) (hs : w.heap.size ≤ sb) : ∀ b o l c, v = .slice (some ⟨b, o, none⟩) l c → b ≠ sb := by
 obtain ⟨ao, cap, rfl, -, h2⟩ := h
 obtain ⟨b', off, rfl, hlt, -⟩ := h2 h0
 intro b o l c e
 simp only [Value.slice.injEq, Option.some.injEq, Addr.mk.injEq, and_true] at e
 omega

theorem nbK_room {n S0 nv : Nat} (hn1 : 1 ≤ n) (hN : nbK n S0 nv n ≤ 119000) : 238001 + n * (S0 + 3) ≤ 300000 := by
 by_cases h0 : n = 1
 ·subst h0
  have h2 : nbK 1 S0 nv 1 = nv + (1 - 0 + 1) * (S0 + 3) := rfl
  omega
 ·have h1 : nbK n S0 nv 2 ≤ nbK n S0 nv n := nbK_mono (by omega)
  have h2 : nbK n S0 nv 2 = nv + (n - 0 + 1) * (S0 + 3) + (n - 1 + 1) * (S0 + 3) := rfl
  have h3 : (n - 0 + 1) * (S0 + 3) = n * (S0 + 3) + (S0 + 3) := by rw [Nat.sub_zero, Nat.succ_mul]
  have h4 : n - 1 + 1 = n := by omega
  rw [h4] at h2
  omega

theorem run_mkSt (m : Nat) (hm : m ≤ 1000) (W : World) : (Instr.makeSlice 90 (.int .i64 (m : Int)) (.int .i64 (m : Int))).run Try.prog W = .ok (.slice (some ⟨W.heap.size, 0, none⟩) m m) (W.alloc (.cells (madeCells #[.slice none 0 0] m) 59)) := by
 obtain ⟨i0, hi, hz0, hz1, hz2⟩ := info_parts Try.infoVec
 have h := run_make (P := Try.prog) W 90 59 i0 (.slice none 0 0) (by kernel_rfl) hi hz0 .i64 .i64 m m (by omega) (by omega) (by rw [hz2]; omega) (by omega)
 rw [hz1, Int.toNat_natCast, Nat.mul_one] at h
 exact h

set_option maxRecDepth 100000 in
set_option maxHeartbeats 1600000 in
theorem oneForm_qq (w : World) (v : Value) (ms : List (List Int)) (n nv Q : Nat) (hQ : n ≤ Q ∨ ms.length ≤ Q) (hQ16 : Q ≤ 16) (hv : MatN w v ms nv) (hr : ∀ us ∈ ms, us.length = n) (hn1 : 1 ≤ n) (hn : n ≤ 16) (hm : ms.length ≤ 1000) (hN : nbK n (Q * nv + 2) nv n ≤ 119000) :
  Calls Try.prog 35 #[v, .int .i64 (n : Int)] w fun e w' => ∃ u hs p, e = .returned u ∧ MatN w' u hs (Q * nv + 2) ∧ hs.length ≤ n ∧ Below w.heap.size w w' ∧ FormL n hs p ∧ Alikes n (InL hs) (InL ms) ∧ Fresh w.heap.size u := by
 obtain ⟨j0, hj, hy0, hy1, hy2⟩ := info_parts Try.infoVec
 have HJ := hide hj; have HY0 := hide hy0; have HY1 := hide hy1; have HY2 := hide hy2
 clear hj hy0 hy1 hy2
 have HQ9 := hide hQ
 clear hQ
 have HV := hide hv; have HR := hide hr; have HN := hide hN
 have HRO := hide (nbK_room hn1 hN)
 obtain ⟨ao, cap, rfl, -, -⟩ := hv
 clear hr hN
 generalize hS0 : Q * nv + 2 = S0 at *
 have HS0 := hide hS0
 clear hS0
 have HBM : Hid (∀ us ∈ ms, ∀ j, j < n → ab (us.getD j 0) < bp nv) := fun us hus j hj => by
  obtain ⟨i, hi, e⟩ := List.getElem_of_mem hus
  obtain ⟨b, off, cap', e1, hlt, u, hc, hu⟩ := HV.out.at i hi
  rw [e] at hu
  obtain ⟨b', off', cap2, e2⟩ := hu.form (by rw [HR.out us hus]; omega)
  subst e2
  obtain ⟨-, neg, o, l, c, -, -, hz⟩ := hu.at j (by rw [HR.out us hus]; exact hj)
  exact hz.ab_lt
 have hmk := run_mkSt n (by omega)
 have HI0 : Hid (OneI w (w.alloc (.cells (madeCells #[.slice none 0 0] n) 59)) w.heap.size n S0 (fun _ => none) ms 0) := hide
  ⟨StairO.made w w (Below.refl _ _) n n _, ⟨fun _ => none, ⟨fun i r e => (by cases e), fun i r e => (by cases e), fun i r e => (by cases e)⟩, fun i r e => (by cases e), (tidy_none n n).symm⟩, .of (fun v hv _ => by obtain ⟨i, e⟩ := hv; cases e) (fun v hv _ => by rw [List.take_zero] at hv; cases hv)⟩
 go_enter Try.func35, Try.ntmps35
 go_wp2
 clear hmk
 go_loopw [13] (fun i wr => ∃ k : Nat, k ≤ ms.length ∧ i = .int .i64 k ∧ ∃ rows, Hid (OneI w wr w.heap.size n S0 rows ms k)) (fun i _ => ms.length - (intOf i).toNat)
 case atStart => exact ⟨0, Nat.zero_le _, rfl, _, HI0⟩
 case round =>
  clear HI0
  obtain ⟨k, hk, rfl, rows, HI⟩ := hrel
  by_cases hkl : k < ms.length
  ·obtain ⟨b, off, _, e, hblt, u, cu0, hu⟩ := HV.out.at k hkl
   simp only [Value.slice.injEq, true_and] at e
   obtain ⟨rfl, rfl⟩ := e
   have cu : wr.cell? ⟨b, off + k, none⟩ = some u := (HI.out.st.below.cell (p := ⟨b, off + k, none⟩) hblt).trans cu0
   have hul := HR.out _ (List.getElem_mem hkl)
   have HOF := hide (hu.off (by omega) (Nat.le_refl _))
   have HU := hide (hu.below HI.out.st.below (Nat.le_refl _))
   have HTK : Hid (ms.take (k + 1) = ms.take k ++ [ms[k]]) := List.take_succ_eq_append_getElem hkl
   obtain ⟨vo, vcap, rfl, -, -⟩ := hu
   have HUL := hide hul
   clear hul
   have hvl : b < wr.heap.size := Nat.lt_of_lt_of_le hblt HI.out.st.below.size
   have HIN := hide (insert_any w wr w.heap.size n S0 nv rows _ ms[k] HI.out.st HI.out.ech HU.out HUL.out HOF.out (by omega) HN.out)
   clear cu0 HU HOF
   go_wp2_with fail
   refine HIN.out.mono ?_
   rintro e w1 ⟨rfl, R, hst, hech, hal⟩
   have hal' : Alikes n (RowsOf R) (InL (ms.take (k + 1))) := by
    rw [HTK.out]
    exact hal.trans (alikes_or HI.out.gen)
   have hpos := hst.pos hech
   have HTD := hide (tidy_any w w1 w.heap.size n n S0 238001 R hst hech (Nat.le_refl n) (by omega) HRO.out (by
    rw [← HS0.out]
    exact one_bound hpos hech hal' (fun us h => HR.out us (List.mem_of_mem_take h)) (fun us h => HBM.out us (List.mem_of_mem_take h)) (HQ9.out.imp id fun h => Nat.le_trans (by rw [List.length_take]; omega) h) hQ16))
   have HNX : Hid (∀ w2, StairO w w2 w.heap.size n (tidyN R n n) n (fun _ => S0) → OneI w w2 w.heap.size n S0 (tidyN R n n) ms (k + 1)) := fun w2 h =>
    ⟨h, ⟨R, hech, hpos, rfl⟩, (alikes_tidy hech (Nat.le_refl n) n).trans hal'⟩
   clear hst hech hal hal' hpos HIN HI cu
   go_wp2_with fail
   refine HTD.out.mono ?_
   rintro e w2 ⟨rfl, hst2⟩
   have HN2 := hide (HNX.out w2 hst2)
   clear hst2 HNX HTD
   go_wp2
   go_roundw
   case rel => exact ⟨k + 1, by omega, by go_num, _, HN2⟩
   case measure => simp [intOf]; omega
  ·obtain rfl : k = ms.length := by omega
   have HFO : Hid (∃ p, FormL n (rowsL rows n) p) := by
    obtain ⟨r0, h1, h2, rfl⟩ := HI.out.tid
    exact tidy_formL h2 h1
   have HAL : Hid (Alikes n (InL (rowsL rows n)) (InL ms)) := by
    have := HI.out.gen
    rw [List.take_length] at this
    exact (alikes_rowsL HI.out.ech).trans this
   obtain ⟨wo, rfl⟩ : ∃ wo : World, wo = wr := ⟨_, rfl⟩
   go_wp2
   go_loopw [7, 26] (fun out i wr => ∃ (q : Nat) (qs : List (Value × List Int)), q ≤ n ∧ i = .int .i64 q ∧ Hid (wr.ownsRow wo.heap.size 59 1 out qs.length (qs.map (·.1))) ∧ Hid (qs.map (·.2) = rowsL rows q) ∧ Hid (∀ p ∈ qs, VecN wo p.1 p.2 S0) ∧ Hid (Below wo.heap.size wo wr)) (fun _ i _ => n - (intOf i).toNat)
   case atStart => exact ⟨0, [], Nat.zero_le _, rfl, hide (World.ownsRow_nil _ _ _ _), hide rfl, hide (fun _ h => by cases h), hide (Below.refl _ _)⟩
   case round =>
    obtain ⟨q, qs, hq, rfl, HOW, HQ, HQV, HB⟩ := hrel
    have hlo := HI.out.st.lt
    have hql2 : qs.length ≤ q := by
     have h1 := congrArg List.length HQ.out
     rw [List.length_map] at h1
     have h2 := rowsL_len rows q
     omega
    by_cases hql : q < n
    ·have hlw : w.heap.size < wr.heap.size := Nat.lt_of_lt_of_le hlo HB.out.size
     cases hrq : rows q with
     | none =>
      have c0 := (HB.out.cell (p := ⟨w.heap.size, q, none⟩) hlo).trans (HI.out.st.nil q hql hrq)
      have hbo := run_nil_ne wr
      have HQ' : Hid (qs.map (·.2) = rowsL rows (q + 1)) := HQ.out.trans (rowsL_none hrq).symm
      clear hrq HQ hql2
      go_wp2
      go_roundw
      case rel => exact ⟨q + 1, qs, by omega, by go_num, HOW, HQ', HQV, HB⟩
      case measure => simp [intOf]; omega
     | some r =>
      obtain ⟨P, hc, hvO, -, -, -⟩ := HI.out.st.row q hql r hrq
      have c0 := (HB.out.cell (p := ⟨w.heap.size, q, none⟩) hlo).trans hc
      have hbo := run_some_ne wr ⟨P, 0, none⟩ r.length r.length
      have HQ' : Hid ((qs ++ [(Value.slice (some ⟨P, 0, none⟩) r.length r.length, r)]).map (·.2) = rowsL rows (q + 1)) := by
       show _ = _
       rw [List.map_append, HQ.out, rowsL_some hrq]; rfl
      have HQV' : Hid (∀ p ∈ qs ++ [(Value.slice (some ⟨P, 0, none⟩) r.length r.length, r)], VecN wo p.1 p.2 S0) := fun p hp => by
       rcases List.mem_append.1 hp with h | h
       ·exact HQV.out p h
       ·rw [List.mem_singleton] at h
        rw [h]
        exact hvO.vec
      have hown := HOW.out
      have hbs := HB.out.size
      have hj := HJ.out; have hy0 := HY0.out; have hy1 := HY1.out; have hy2 := HY2.out
      clear hrq HQ hc hvO HQV
      go_wp2_with (at_builtin; refine wpList_append_lies _ rfl _ _ 41 rfl wo.heap.size 59 j0 (.slice none 0 0) 1 24 (by kernel_rfl) hj hy0 hy1 hy2 rfl (by decide) u7 qs.length (qs.map (·.1)) rfl (hown.alloc _) ⟨wr.heap.size, 0, none⟩ 1 1 [.slice (some ⟨P, 0, none⟩) r.length r.length] rfl rfl (World.news_of_block (heap_alloc_new wr _)) (fun u hu => by rw [List.mem_singleton] at hu; rw [hu]; rfl) (by decide) (by unfold maxLen; omega) (by omega) (by simp; omega) (wr.heap.size + 1) (by simp) ?_)
      intro g cap' w5 hown5 hgrow5 hat5 hlt5
      have HOW5 : Hid (w5.ownsRow wo.heap.size 59 1 (.slice (some ⟨g, 0, none⟩) (qs.length + 1) cap') (qs ++ [(Value.slice (some ⟨P, 0, none⟩) r.length r.length, r)]).length ((qs ++ [(Value.slice (some ⟨P, 0, none⟩) r.length r.length, r)]).map (·.1))) := by
       show World.ownsRow ..
       rw [List.length_append, List.length_singleton, List.map_append]
       exact hown5
      have HB5 := hide (HB.out.trans (owns_below hown HB.out.size hgrow5))
      clear hown hown5 hgrow5 hat5 hlt5 hj hy0 hy1 hy2 HOW HB c0 hbo
      go_wp2
      go_roundw
      case rel => exact ⟨q + 1, _, by omega, by go_num, HOW5, HQ', HQV', HB5⟩
      case measure => simp [intOf]; omega
    ·obtain rfl : q = n := by omega
     have HF : Hid (MatN wr u7 (rowsL rows q) S0) := by
      have := matN_of_owns HOW.out (fun p hp => (HQV.out p hp).below HB.out (Nat.le_refl _))
      rw [HQ.out] at this
      exact this
     have HBB := hide (HI.out.st.below.trans (HB.out.mono HI.out.st.below.size))
     have HFR := hide ((owns_fresh HOW.out).mono HI.out.st.below.size)
     clear HOW HQ HQV HB HI
     go_wp2
     go_ret
     obtain ⟨p, hp⟩ := HFO.out
     exact ⟨_, _, p, rfl, HF.out, rowsL_len _ _, HBB.out, hp, HAL.out, HFR.out⟩

theorem oneForm_q (w : World) (v : Value) (ms : List (List Int)) (n nv Q : Nat) (hQ : n ≤ Q ∨ ms.length ≤ Q) (hQ16 : Q ≤ 16) (hv : MatN w v ms nv) (hr : ∀ us ∈ ms, us.length = n) (hn1 : 1 ≤ n) (hn : n ≤ 16) (hm : ms.length ≤ 1000) (hN : nbK n (Q * nv + 2) nv n ≤ 100000) :
  Calls Try.prog 35 #[v, .int .i64 (n : Int)] w fun e w' => ∃ u hs p, e = .returned u ∧ MatN w' u hs (Q * nv + 2) ∧ hs.length ≤ n ∧ Below w.heap.size w w' ∧ FormL n hs p ∧ Alikes n (InL hs) (InL ms) ∧ Fresh w.heap.size u :=
 oneForm_qq w v ms n nv Q hQ hQ16 hv hr hn1 hn hm (Nat.le_trans hN (by omega))

theorem oneForm_new (w : World) (v : Value) (ms : List (List Int)) (n nv : Nat) (hv : MatN w v ms nv) (hr : ∀ us ∈ ms, us.length = n) (hn1 : 1 ≤ n) (hn : n ≤ 16) (hm : ms.length ≤ 1000) (hN : nbK n (n * nv + 2) nv n ≤ 100000) :
  Calls Try.prog 35 #[v, .int .i64 (n : Int)] w fun e w' => ∃ u hs p, e = .returned u ∧ MatN w' u hs (n * nv + 2) ∧ hs.length ≤ n ∧ Below w.heap.size w w' ∧ FormL n hs p ∧ Alikes n (InL hs) (InL ms) ∧ Fresh w.heap.size u :=
 oneForm_q w v ms n nv n (.inl (Nat.le_refl _)) hn hv hr hn1 hn hm hN

end Go.Proofs.Ytcnllfnikajddaa

/- A number that came in, as it reads. -/
namespace Go.Proofs.Ytcnllfnikajddaa
open Go.ChangeShapes Go.WideShapes Go.ChangeAt Go.RowKit Go.Joins Limbs

theorem Try.cellsNum : Try.prog.cellsOf 75 = 2 := by kernel_rfl
theorem Try.cellsU32 : Try.prog.cellsOf 88 = 1 := by kernel_rfl
theorem Try.own : ownKnob Try.prog.godebug = none := by kernel_rfl
theorem Try.laidOut : laidOutB Try.prog = true := by kernel_rfl

def Came (W : World) (v : Value) (neg : Bool) (ao : Option Addr) (cap : Nat) (zs : List Int) : Prop :=
 v = .agg #[.bool neg, .slice ao zs.length cap] ∧ zs.length ≤ 9223372036854775807 ∧ (zs.length ≤ 1000000 → Lim W (.slice ao zs.length cap) zs)

end Go.Proofs.Ytcnllfnikajddaa

/- A vector that came in, as it reads. -/
namespace Go.Proofs.Ytcnllfnikajddaa
open Go.ChangeShapes Go.WideShapes Go.ChangeAt Go.RowKit Go.Joins Limbs

theorem Try.cellsSl : Try.prog.cellsOf 73 = 1 := by kernel_rfl
theorem Try.cellsBool : Try.prog.cellsOf 4 = 1 := by kernel_rfl

def CameR (W : World) (r : Raw) : Prop :=
 (∃ o cap, r.s = .slice o r.zs.length cap) ∧ r.zs.length ≤ 9223372036854775807 ∧ (r.zs.length ≤ 1000000 → Lim W r.s r.zs)

def VecC (W : World) (v : Value) (rs : List Raw) : Prop :=
 ∃ ao cap, v = .slice ao rs.length cap ∧ rs.length ≤ cap ∧ rs.length ≤ 9223372036854775807 ∧
  (0 < rs.length → ∃ b off, ao = some ⟨b, off, none⟩ ∧ b < W.heap.size ∧ ∀ i r, rs[i]? = some r → W.cell? ⟨b, off + i * 2, none⟩ = some (.bool r.neg) ∧ W.cell? ⟨b, off + i * 2 + 1, none⟩ = some r.s ∧ CameR W r)

instance : Inhabited Raw := ⟨⟨false, .bool false, []⟩⟩

theorem VecC.light {W : World} {v : Value} {rs : List Raw} (h : VecC W v rs) (hl : ∀ r ∈ rs, r.zs.length ≤ 1000000) : VecL W v rs := by
 obtain ⟨ao, cap, hv, h1, -, h2⟩ := h
 refine ⟨ao, cap, hv, h1, fun h0 => ?_⟩
 obtain ⟨b, off, e, hlt, hc⟩ := h2 h0
 refine ⟨b, off, e, hlt, fun i r hi => ?_⟩
 obtain ⟨h3, h4, h5⟩ := hc i r hi
 exact ⟨h3, h4, h5.2.2 (hl r (List.mem_of_getElem? hi))⟩

end Go.Proofs.Ytcnllfnikajddaa

/- Is a vector light? -/
namespace Go.Proofs.Ytcnllfnikajddaa
open Go.RowKit Limbs

def lightV (rs : List Raw) : Bool := decide (rs.length ≤ 10) && rs.all (fun r => decide (r.zs.length ≤ 8))

end Go.Proofs.Ytcnllfnikajddaa

/- Rows as they came in; which of them are numbers. -/
namespace Go.Proofs.Ytcnllfnikajddaa
open Go.RowKit Limbs

def Raw.z (r : Raw) : Int := sg r.neg (lv r.zs)

def MatL (w : World) (v : Value) (rss : List (List Raw)) : Prop :=
 ∃ ao cap, v = .slice ao rss.length cap ∧ rss.length ≤ cap ∧ (0 < rss.length → ∃ b off, ao = some ⟨b, off, none⟩ ∧ b < w.heap.size ∧ ∀ i rs, rss[i]? = some rs → ∃ u, w.cell? ⟨b, off + i, none⟩ = some u ∧ VecL w u rs)

theorem MatL.below {B : Nat} {w w' : World} {v : Value} {rss : List (List Raw)} (h : MatL w v rss) (hb : Below B w w') (hB : w.heap.size ≤ B) : MatL w' v rss := by
 obtain ⟨ao, cap, hv, h1, h2⟩ := h
 refine ⟨ao, cap, hv, h1, fun h0 => ?_⟩
 obtain ⟨b, off, e, hlt, hc⟩ := h2 h0
 refine ⟨b, off, e, Nat.lt_of_lt_of_le hlt hb.size, fun i zs hi => ?_⟩
 obtain ⟨u, h3, h4⟩ := hc i zs hi
 exact ⟨u, (hb.cell (p := ⟨b, off + i, none⟩) (Nat.lt_of_lt_of_le hlt hB)).trans h3, h4.below hb hB⟩

theorem MatL.at {W : World} {v : Value} {rss : List (List Raw)} (h : MatL W v rss) (i : Nat) (hi : i < rss.length) : ∃ b off cap, v = .slice (some ⟨b, off, none⟩) rss.length cap ∧ b < W.heap.size ∧ ∃ u, W.cell? ⟨b, off + i, none⟩ = some u ∧ VecL W u rss[i] := by
 obtain ⟨ao, cap, rfl, -, h2⟩ := h
 obtain ⟨b, off, rfl, hlt, hc⟩ := h2 (by omega)
 obtain ⟨u, h3, h4⟩ := hc i rss[i] (by simp [hi])
 exact ⟨b, off, cap, rfl, hlt, u, h3, h4⟩

theorem NumL.raw {w : World} {neg : Bool} {s : Value} {z : Int} {n : Nat} (h : NumL w (.agg #[.bool neg, s]) z n) : ∃ zs, Lim w s zs ∧ isNum neg zs = true := by
 obtain ⟨neg', s', zs, e, hl, hn, h0, -, -⟩ := h
 simp only [Value.agg.injEq, Array.mk.injEq, List.cons.injEq, Value.bool.injEq, and_true] at e
 obtain ⟨rfl, rfl⟩ := e
 refine ⟨zs, hl, ?_⟩
 unfold isNum
 by_cases hz : zs.length = 0
 ·rw [if_pos hz, h0 hz]; rfl
 ·rw [if_neg hz, bne_iff_ne]
  rcases hn with h | h
  ·exact absurd h hz
  ·exact h

theorem VecN.raw {w : World} {v : Value} {zs : List Int} {n : Nat} (h : VecN w v zs n) : ∃ rs : List Raw, VecL w v rs ∧ rs.length = zs.length ∧ rs.all Raw.num = true := by
 obtain ⟨ao, cap, rfl, h1, h2⟩ := h
 by_cases h0 : 0 < zs.length
 ·obtain ⟨b, off, rfl, hlt, hc⟩ := h2 h0
  have key : ∀ k, k ≤ zs.length → ∃ rs : List Raw, rs.length = k ∧ rs.all Raw.num = true ∧ ∀ i r, rs[i]? = some r → w.cell? ⟨b, off + i * 2, none⟩ = some (.bool r.neg) ∧ w.cell? ⟨b, off + i * 2 + 1, none⟩ = some r.s ∧ Lim w r.s r.zs := by
   intro k
   induction k with
   | zero => exact fun _ => ⟨[], rfl, rfl, fun i r e => by simp at e⟩
   | succ k ih =>
    intro hk
    obtain ⟨rs, e1, e2, e3⟩ := ih (by omega)
    obtain ⟨neg, o, l, c, c0, c1, hn⟩ := hc k (by omega)
    obtain ⟨zs', hl, hi⟩ := hn.raw
    refine ⟨rs ++ [⟨neg, .slice o l c, zs'⟩], by simp [e1], by simp [e2, Raw.num, hi], fun i r e => ?_⟩
    by_cases hi : i < rs.length
    ·rw [List.getElem?_append_left hi] at e
     exact e3 i r e
    ·rw [List.getElem?_append_right (by omega)] at e
     have hik : i - rs.length = 0 := by
      have := (List.getElem?_eq_some_iff.1 e).1
      simpa using this
     rw [hik] at e
     simp only [List.getElem?_cons_zero, Option.some.injEq] at e
     have : i = k := by omega
     rw [this, ← e]
     exact ⟨c0, c1, hl⟩
  obtain ⟨rs, e1, e2, e3⟩ := key zs.length (Nat.le_refl _)
  exact ⟨rs, ⟨_, cap, by rw [e1], by rw [e1]; exact h1, fun _ => ⟨b, off, rfl, hlt, e3⟩⟩, e1, e2⟩
 ·exact ⟨[], ⟨ao, cap, by rw [show zs.length = 0 by omega]; rfl, Nat.zero_le _, fun h => absurd h (by simp)⟩, by simp; omega, rfl⟩

end Go.Proofs.Ytcnllfnikajddaa

/- What is wrong with rows. -/
namespace Go.Proofs.Ytcnllfnikajddaa
open Go.RowKit Limbs

def chkRows (n : Int) : List (List Raw) → Value
 | [] => .nilIface
 | rs :: t => if (rs.length : Int) ≠ n then .iface 49 (.int .i64 6) else if rs.all Raw.num = false then .iface 49 (.int .i64 3) else chkRows n t

def checkedM (rss : List (List Raw)) (n : Int) : Value :=
 if n < 1 ∨ 8 < n then .iface 49 (.int .i64 1) else if 12 < rss.length then .iface 49 (.int .i64 2) else chkRows n rss

theorem chkRows_step {n : Int} {rss : List (List Raw)} {k : Nat} (hk : k < rss.length) (h1 : (rss[k].length : Int) = n) (h2 : rss[k].all Raw.num = true) : chkRows n (rss.drop (k + 1)) = chkRows n (rss.drop k) := by
 rw [List.drop_eq_getElem_cons hk, chkRows, if_neg (by rw [h1]; exact fun h => h rfl), if_neg (by rw [h2]; decide)]

theorem chkRows_size {n : Int} {rss : List (List Raw)} {k : Nat} (hk : k < rss.length) (h1 : (rss[k].length : Int) ≠ n) : chkRows n (rss.drop k) = .iface 49 (.int .i64 6) := by
 rw [List.drop_eq_getElem_cons hk, chkRows, if_pos h1]

theorem chkRows_shape {n : Int} {rss : List (List Raw)} {k : Nat} (hk : k < rss.length) (h1 : (rss[k].length : Int) = n) (h2 : rss[k].all Raw.num = false) : chkRows n (rss.drop k) = .iface 49 (.int .i64 3) := by
 rw [List.drop_eq_getElem_cons hk, chkRows, if_neg (by rw [h1]; exact fun h => h rfl), if_pos h2]

theorem chkRows_nil {n : Int} : ∀ {rss : List (List Raw)}, chkRows n rss = .nilIface ↔ ∀ rs ∈ rss, (rs.length : Int) = n ∧ rs.all Raw.num = true
 | [] => ⟨fun _ rs h => (by cases h), fun _ => rfl⟩
 | rs :: t => by
  rw [chkRows]
  by_cases h1 : (rs.length : Int) = n
  ·rw [if_neg (fun h => h h1)]
   rcases Bool.eq_false_or_eq_true (rs.all Raw.num) with h2 | h2
   rotate_left
   ·rw [if_pos h2]
    refine ⟨fun h => (by cases h), fun h => ?_⟩
    have := (h rs (by simp)).2
    rw [h2] at this; cases this
   ·rw [if_neg (by rw [h2]; decide), chkRows_nil]
    exact ⟨fun h x hx => by
     rcases List.mem_cons.1 hx with rfl | hx
     ·exact ⟨h1, h2⟩
     ·exact h x hx, fun h x hx => h x (List.mem_cons_of_mem _ hx)⟩
  ·rw [if_pos h1]
   exact ⟨fun h => (by cases h), fun h => absurd (h rs (by simp)).1 h1⟩

theorem checkedM_nil {n : Int} {rss : List (List Raw)} : checkedM rss n = .nilIface ↔ 1 ≤ n ∧ n ≤ 8 ∧ rss.length ≤ 12 ∧ ∀ rs ∈ rss, (rs.length : Int) = n ∧ rs.all Raw.num = true := by
 unfold checkedM
 by_cases h1 : n < 1 ∨ 8 < n
 ·rw [if_pos h1]
  exact ⟨fun h => (by cases h), fun h => by omega⟩
 ·rw [if_neg h1]
  by_cases h2 : 12 < rss.length
  ·rw [if_pos h2]
   exact ⟨fun h => (by cases h), fun h => by omega⟩
  ·rw [if_neg h2, chkRows_nil]
   exact ⟨fun h => ⟨by omega, by omega, by omega, h⟩, fun h => h.2.2.2⟩

set_option maxRecDepth 100000 in
set_option maxHeartbeats 1600000 in
theorem checkM_any (w : World) (v : Value) (rss : List (List Raw)) (n : Int) (hv : MatL w v rss) :
  Calls Try.prog 34 #[v, .int .i64 n] w fun e w' => e = .returned (checkedM rss n) ∧ Below w.heap.size w w' := by
 have HV := hide hv
 obtain ⟨ao, cap, rfl, -, -⟩ := hv
 by_cases h1 : n < 1
 ·have e : checkedM rss n = .iface 49 (.int .i64 1) := if_pos (.inl h1)
  rw [e]
  clear e
  go_enter Try.func34, Try.ntmps34
  go_wp2
  go_ret
  exact ⟨rfl, Below.refl _ _⟩
 ·by_cases h2 : 8 < n
  ·have e : checkedM rss n = .iface 49 (.int .i64 1) := if_pos (.inr h2)
   rw [e]
   clear e
   go_enter Try.func34, Try.ntmps34
   go_wp2
   go_ret
   exact ⟨rfl, Below.refl _ _⟩
  ·by_cases h3 : 12 < rss.length
   ·have e : checkedM rss n = .iface 49 (.int .i64 2) := by unfold checkedM; rw [if_neg (by omega), if_pos h3]
    rw [e]
    have h3' : (12 : Int) < (rss.length : Int) := by omega
    clear e
    go_enter Try.func34, Try.ntmps34
    go_wp2
    go_ret
    exact ⟨rfl, Below.refl _ _⟩
   ·have e : checkedM rss n = chkRows n rss := by unfold checkedM; rw [if_neg (by omega), if_neg h3]
    rw [e]
    have h3' : ¬ ((12 : Int) < (rss.length : Int)) := by omega
    clear e
    go_enter Try.func34, Try.ntmps34
    go_wp2
    go_loopw [20] (fun i wr => ∃ k : Nat, k ≤ rss.length ∧ i = .int .i64 k ∧ Hid (chkRows n (rss.drop k) = chkRows n rss) ∧ Below w.heap.size w wr) (fun i _ => rss.length - (intOf i).toNat)
    case atStart => exact ⟨0, Nat.zero_le _, rfl, by show _ = _; rw [List.drop_zero], Below.refl _ _⟩
    case round =>
     obtain ⟨k, hk, rfl, HG, hbe⟩ := hrel
     have HBE := hide hbe
     clear hbe
     by_cases hkl : k < rss.length
     ·obtain ⟨b, off, _, e, hlt, u, cu, hu⟩ := (HV.out.below HBE.out (Nat.le_refl _)).at k hkl
      simp only [Value.slice.injEq, true_and] at e
      obtain ⟨rfl, rfl⟩ := e
      have HU := hide hu
      have H1 := hide (fun h1 h2 => (chkRows_step (n := n) hkl h1 h2).trans HG.out)
      have H2 := hide (fun h1 => (HG.out.symm.trans (chkRows_size (n := n) hkl h1)))
      have H3 := hide (fun h1 h2 => (HG.out.symm.trans (chkRows_shape (n := n) hkl h1 h2)))
      generalize rss[k] = rs at *
      obtain ⟨uo, ucap, rfl, -, -⟩ := hu
      by_cases hsz : (rs.length : Int) = n
      ·have hb : ((rs.length : Int) != n) = false := by rw [bne_eq_false_iff_eq]; exact hsz
       have hcv : checkedV rs = checked (rs.all Raw.num) := if_neg (by omega)
       have HCK := hide (checkV_any wr _ rs HU.out)
       rw [hcv] at HCK
       have HSZ := hide hsz
       clear hcv HU hsz
       go_wp2_with fail
       refine HCK.out.mono ?_
       rintro e w1 ⟨rfl, hb1⟩
       have HB1 := hide (HBE.out.trans (hb1.mono HBE.out.size))
       clear hb1 HCK
       cases hn : rs.all Raw.num
       ·have HA := hide (H3.out HSZ.out hn)
        have e : checked false = .iface 49 (.int .i64 3) := rfl
        rw [e]
        clear H1 H2 H3 e hn
        go_wp2
        go_ret
        exact ⟨by rw [HA.out]; rfl, HB1.out⟩
       ·have e : checked true = .nilIface := rfl
        rw [e]
        have HG' := hide (H1.out HSZ.out hn)
        clear H1 H2 H3 e hn HG
        go_wp2
        go_roundw
        case rel => exact ⟨k + 1, by omega, by go_num, HG', HB1.out⟩
        case measure => simp [intOf]; omega
      ·have hb : ((rs.length : Int) != n) = true := by rw [bne_iff_ne]; exact hsz
       have HA := hide (H2.out hsz)
       clear H1 H2 H3
       go_wp2
       go_ret
       exact ⟨by rw [HA.out]; rfl, HBE.out⟩
     ·obtain rfl : k = rss.length := by omega
      have HA : Hid (chkRows n rss = .nilIface) := by
       have := HG.out
       rw [List.drop_length] at this
       exact this.symm
      clear HG
      go_wp2
      go_ret
      exact ⟨by rw [HA.out]; rfl, HBE.out⟩

theorem MatN.raw {w : World} {v : Value} {zss : List (List Int)} {n : Nat} (h : MatN w v zss n) : ∃ rss : List (List Raw), MatL w v rss ∧ rss.length = zss.length ∧ ∀ i (h : i < zss.length) rs, rss[i]? = some rs → rs.length = zss[i].length ∧ rs.all Raw.num = true := by
 obtain ⟨ao, cap, rfl, h1, h2⟩ := h
 by_cases h0 : 0 < zss.length
 ·obtain ⟨b, off, rfl, hlt, hc⟩ := h2 h0
  have key : ∀ k, k ≤ zss.length → ∃ rss : List (List Raw), rss.length = k ∧ (∀ i (h : i < zss.length) rs, rss[i]? = some rs → rs.length = zss[i].length ∧ rs.all Raw.num = true) ∧ ∀ i rs, rss[i]? = some rs → ∃ u, w.cell? ⟨b, off + i, none⟩ = some u ∧ VecL w u rs := by
   intro k
   induction k with
   | zero => exact fun _ => ⟨[], rfl, fun i _ r e => by simp at e, fun i r e => by simp at e⟩
   | succ k ih =>
    intro hk
    obtain ⟨rss, e1, e2, e3⟩ := ih (by omega)
    obtain ⟨u, cu, hu⟩ := hc k zss[k] (by simp)
    obtain ⟨rs, hl, hlen, hnum⟩ := hu.raw
    have two : ∀ i r, (rss ++ [rs])[i]? = some r → rss[i]? = some r ∨ (i = k ∧ r = rs) := fun i r e => by
     by_cases hi : i < rss.length
     ·rw [List.getElem?_append_left hi] at e
      exact .inl e
     ·rw [List.getElem?_append_right (by omega)] at e
      have hik : i - rss.length = 0 := by
       have := (List.getElem?_eq_some_iff.1 e).1
       simpa using this
      rw [hik] at e
      simp only [List.getElem?_cons_zero, Option.some.injEq] at e
      exact .inr ⟨by omega, e.symm⟩
    refine ⟨rss ++ [rs], by simp [e1], fun i hi r e => ?_, fun i r e => ?_⟩
    ·rcases two i r e with h | ⟨rfl, rfl⟩
     ·exact e2 i hi r h
     ·exact ⟨hlen, hnum⟩
    ·rcases two i r e with h | ⟨rfl, rfl⟩
     ·exact e3 i r h
     ·exact ⟨u, cu, hl⟩
  obtain ⟨rss, e1, e2, e3⟩ := key zss.length (Nat.le_refl _)
  exact ⟨rss, ⟨_, cap, by rw [e1], by rw [e1]; exact h1, fun _ => ⟨b, off, rfl, hlt, e3⟩⟩, e1, e2⟩
 ·exact ⟨[], ⟨ao, cap, by rw [show zss.length = 0 by omega]; rfl, Nat.zero_le _, fun h => absurd h (by simp)⟩, by simp; omega, fun i hi => absurd hi (by omega)⟩

theorem checkM_ok (w : World) (v : Value) (zss : List (List Int)) (n nv : Nat) (hv : MatN w v zss nv) (hn1 : 1 ≤ n) (hn : n ≤ 8) (hl : zss.length ≤ 12) (hr : ∀ zs ∈ zss, zs.length = n) :
  Calls Try.prog 34 #[v, .int .i64 (n : Int)] w fun e w' => e = .returned .nilIface ∧ Below w.heap.size w w' := by
 obtain ⟨rss, h1, h2, h3⟩ := hv.raw
 have e : checkedM rss (n : Int) = .nilIface := checkedM_nil.2 ⟨by omega, by omega, by omega, fun rs h => by
  obtain ⟨i, hi, e⟩ := List.getElem_of_mem h
  obtain ⟨h4, h5⟩ := h3 i (by omega) rs (by rw [List.getElem?_eq_getElem hi, e])
  have := hr _ (List.getElem_mem (show i < zss.length by omega))
  exact ⟨by omega, h5⟩⟩
 have := checkM_any w v rss n h1
 rwa [e] at this

end Go.Proofs.Ytcnllfnikajddaa

/- mat.Hermite of rows that are right. -/
namespace Go.Proofs.Ytcnllfnikajddaa
open Go.RowKit Limbs

def HermPost (w : World) (n nv : Nat) (ms : List (List Int)) (e : Ending) (w' : World) : Prop :=
 ∃ u hs p, e = .returned (.tuple #[u, .nilIface]) ∧ MatN w' u hs (n * nv + 2) ∧ hs.length ≤ n ∧ Below w.heap.size w w' ∧ FormL n hs p ∧ Alikes n (InL hs) (InL ms)

def HermNew (w : World) (n nv : Nat) (ms : List (List Int)) (e : Ending) (w' : World) : Prop :=
 ∃ u hs p, e = .returned (.tuple #[u, .nilIface]) ∧ MatN w' u hs (n * nv + 2) ∧ hs.length ≤ n ∧ Below w.heap.size w w' ∧ FormL n hs p ∧ Alikes n (InL hs) (InL ms) ∧ Fresh w.heap.size u

set_option maxRecDepth 100000 in
set_option maxHeartbeats 1600000 in
theorem hermite_new (w : World) (v : Value) (ms : List (List Int)) (n nv : Nat) (hv : MatN w v ms nv) (hr : ∀ us ∈ ms, us.length = n) (hn1 : 1 ≤ n) (hn : n ≤ 8) (hm : ms.length ≤ 12) (hN : nbK n (n * nv + 2) nv n ≤ 100000) :
  Calls Try.prog 20 #[v, .int .i64 (n : Int)] w fun e w' => HermNew w n nv ms e w' := by
 have HC := hide (checkM_ok w v ms n nv hv hn1 hn hm hr)
 have HO := hide (fun w1 (hb : Below w.heap.size w w1) => oneForm_new w1 v ms n nv (hv.below hb (Nat.le_refl _)) hr hn1 (by omega) (by omega) hN)
 obtain ⟨ao, cap, rfl, -, -⟩ := hv
 clear hr hN
 go_enter Try.func20, Try.ntmps20
 go_wp2_with fail
 refine HC.out.mono ?_
 rintro e w1 ⟨rfl, hb1⟩
 have HB1 := hide hb1
 clear hb1 HC
 go_wp2_with fail
 refine (HO.out w1 HB1.out).mono ?_
 rintro e w2 ⟨u, hs, p, rfl, h1, h2, h3, h4, h5, h6⟩
 have HP := hide (show HermNew w n nv ms (.returned (.tuple #[u, .nilIface])) w2 from ⟨u, hs, p, rfl, h1, h2, HB1.out.trans (h3.mono HB1.out.size), h4, h5, h6.mono HB1.out.size⟩)
 clear h1 h2 h3 h4 h5 h6 HO HB1
 go_wp2
 go_ret2
 exact HP.out

theorem hermite_any (w : World) (v : Value) (ms : List (List Int)) (n nv : Nat) (hv : MatN w v ms nv) (hr : ∀ us ∈ ms, us.length = n) (hn1 : 1 ≤ n) (hn : n ≤ 8) (hm : ms.length ≤ 12) (hN : nbK n (n * nv + 2) nv n ≤ 100000) :
  Calls Try.prog 20 #[v, .int .i64 (n : Int)] w fun e w' => HermPost w n nv ms e w' :=
 (hermite_new w v ms n nv hv hr hn1 hn hm hN).mono fun _ _ ⟨u, hs, p, h1, h2, h3, h4, h5, h6, _⟩ => ⟨u, hs, p, h1, h2, h3, h4, h5, h6⟩

end Go.Proofs.Ytcnllfnikajddaa

/- Of rows in the one form: where their first numbers lie. -/
namespace Go.Proofs.Ytcnllfnikajddaa
open Go.RowKit Limbs

theorem first_eq : ∀ (zs : List Int) (k : Nat), k < zs.length → (∀ j, j < k → zs.getD j 0 = 0) → zs.getD k 0 ≠ 0 → first zs = k
 | [], k, hk, _, _ => absurd hk (by simp)
 | z :: zs, 0, _, _, hne => by
  have : z ≠ 0 := by simpa using hne
  rw [first, if_neg this]; rfl
 | z :: zs, k + 1, hk, h0, hne => by
  have e : z = 0 := by simpa using h0 0 (by omega)
  have ih := first_eq zs k (by simpa using hk) (fun j hj => by simpa using h0 (j + 1) (by omega)) (by simpa using hne)
  rw [first, if_pos e, ih, if_neg (by omega)]
  omega

theorem FormL.first {n : Nat} {hs : List (List Int)} {p : Nat → Nat} (h : FormL n hs p) {k : Nat} (hk : k < hs.length) : first hs[k] = p k ∧ p k < n ∧ 0 < hs[k].getD (p k) 0 := by
 have hlen := h.len _ (List.getElem_mem hk)
 have h1 := h.form.lt k hk
 have h2 := h.form.pos k hk
 have h3 := h.form.zero k
 simp only [getD_row hk] at h2 h3
 exact ⟨first_eq _ _ (by omega) (fun j hj => h3 j hk hj) (by omega), h1, h2⟩

theorem FormL.red {n : Nat} {hs : List (List Int)} {p : Nat → Nat} (h : FormL n hs p) {i k : Nat} (hik : i < k) (hk : k < hs.length) : 0 ≤ (hs[i]'(by omega)).getD (p k) 0 ∧ (hs[i]'(by omega)).getD (p k) 0 < hs[k].getD (p k) 0 := by
 have := h.form.red i k hik hk
 simpa only [getD_row hk, getD_row (show i < hs.length by omega)] using this

def lastP (p : Nat → Nat) (k : Nat) : Int := if k = 0 then -1 else (p (k - 1) : Int)

theorem FormL.last {n : Nat} {hs : List (List Int)} {p : Nat → Nat} (h : FormL n hs p) {k : Nat} (hk : k < hs.length) : lastP p k < (p k : Int) := by
 unfold lastP
 split
 ·omega
 ·have := h.form.inc (k - 1) k (by omega) hk
  omega

end Go.Proofs.Ytcnllfnikajddaa

/- How much of each row in the one form a vector is: lists. -/
namespace Go.Proofs.Ytcnllfnikajddaa
open Go.RowKit Limbs

def oftL (hs : List (List Int)) (p : Nat → Nat) (xs : List Int) (k : Nat) : Int := xs.getD (p k) 0 / (hs.getD k []).getD (p k) 0

def leftL (hs : List (List Int)) (p : Nat → Nat) (zs : List Int) : Nat → List Int
 | 0 => zs
 | k + 1 => List.zipWith (fun x y => x - y) (leftL hs p zs k) ((hs.getD k []).map (oftL hs p (leftL hs p zs k) k * ·))

def muchL (hs : List (List Int)) (p : Nat → Nat) (zs : List Int) : List Int := (List.range hs.length).map fun k => oftL hs p (leftL hs p zs k) k

end Go.Proofs.Ytcnllfnikajddaa

/- The sum of two lattices: what generates it. -/
namespace Go.Proofs.Ytcnllfnikajddaa
open Go.RowKit Limbs

end Go.Proofs.Ytcnllfnikajddaa

/- Rows turned about, put to each other, there twice: they generate the same. -/
namespace Go.Proofs.Ytcnllfnikajddaa
open Go.RowKit Limbs

def sRow (ms : List (List Int)) (b x : Nat) : List Int := if x = b then ((ms.getD x []).map (1 * ·)).map (-1 * ·) else (ms.getD x []).map (1 * ·)

def tRow (ms : List (List Int)) (a b : Nat) (z : Int) (x : Nat) : List Int :=
 if x = a ∧ a ≠ b then List.zipWith (fun x y => x + y) (sRow ms b x) ((ms.getD b []).map (z * ·)) else sRow ms b x

def tList (ms : List (List Int)) (a b : Nat) (z : Int) : Nat → List (List Int)
 | 0 => []
 | d + 1 => tList ms a b z d ++ [tRow ms a b z (ms.length - 1 - d)]

end Go.Proofs.Ytcnllfnikajddaa

/- What two lattices have in common, by rows twice as wide. -/
namespace Go.Proofs.Ytcnllfnikajddaa
open Go.RowKit Limbs

def wideL (n : Nat) (hs ks : List (List Int)) : List (List Int) := hs.map (fun r => r ++ r) ++ ks.map (fun r => r ++ List.replicate n 0)

end Go.Proofs.Ytcnllfnikajddaa
