/- The one form of rows: it is in the one form, generates the same, and its numbers are not too great. -/
import Derived.Test.YtdedolkgcdlmeaaGreatDoorRefComb
import Derived.Test.YtdedolkgcdlmeaaGreatDoorMats
import Derived.Test.YtdedolkgcdlmeaaGreatDoorMatLt
import Derived.Test.YtdedolkgcdlmeaaGreatDoorDivL
import Derived.Lib.IndexBytes

namespace Go.Proofs.YtdedolkgcdlmeaaGreatDoor
open Go.RowKit Limbs

def Fresh (base : Nat) (u : Value) : Prop := ∀ a l c, u = .slice (some a) l c → base ≤ a.block

theorem Fresh.mono {base base' : Nat} {u : Value} (h : Fresh base u) (hb : base' ≤ base) : Fresh base' u := fun a l c e => Nat.le_trans hb (h a l c e)

theorem owns_fresh {W : World} {base : Nat} {e : TypeId} {size : Nat} {v : Value} {n : Nat} {xs : List Value} (h : W.ownsRow base e size v n xs) : Fresh base v := fun a l c hv => by
 rcases h.2 with ⟨rfl, -⟩ | ⟨g, cap, cur, rfl, hb, -⟩
 ·cases hv
 ·simp only [Value.slice.injEq, Option.some.injEq] at hv
  obtain ⟨rfl, -⟩ := hv
  exact hb

theorem one_bound {l : List (List Int)} {n nv : Nat} {R : Nat → Option (List Int)} (hp : Pos R) (hE : Ech R n n) (ha : Alikes n (RowsOf R) (InL l)) (hl : ∀ us ∈ l, us.length = n) (hb : ∀ us ∈ l, ∀ j, j < n → ab (us.getD j 0) < bp nv) {Q : Nat} (hQ : n ≤ Q ∨ l.length ≤ Q) (hn : Q ≤ 16) :
  ∀ i a r, i ≤ n → n - i ≤ a → tidyN R n i a = some r → ∀ j, j < r.length → ab (r.getD j 0) < bp (Q * nv + 2) := by
 obtain ⟨q, hq, hq2, hbd⟩ := tidy_bound hp hE ha l.length (fun k b => (l.getD k []).getD b 0) (bp nv) (by have := bp_pos nv; omega) (fun a b ha hb' => Int.le_of_lt (hb _ (getD_mem ha) b hb'))
  (fun v hv hvl => by
   obtain ⟨k, hk, e⟩ := List.getElem_of_mem hv
   exact ⟨k, hk, fun b _ => by rw [getD_row hk, e]⟩)
  (fun k hk => ⟨l.getD k [], getD_mem hk, hl _ (getD_mem hk), fun _ _ => rfl⟩)
 intro i a r hi ha' e j hj
 have e' : tidyN R n n a = some r := by rw [tidyN_stays hi (Nat.le_refl _) ha']; exact e
 have hlen := (hE.all (Nat.le_refl n) n).len a r e'
 have h1 := hbd a r e' j (by omega)
 have h2 := facP_lt (v := nv) (show q ≤ Q by omega) hn
 exact Int.lt_of_le_of_lt h1 h2

theorem tidy_none (n k : Nat) : tidyN (fun _ => none) n k = fun _ => none := by
 induction k with
 | zero => rfl
 | succ k ih =>
  show tidyAt (tidyN (fun _ => none) n k) n (n - 1 - k) = _
  rw [ih]
  funext i
  unfold tidyAt
  split <;> rfl

structure OneI (w wr : World) (sb n S0 : Nat) (rows : Nat → Option (List Int)) (ms : List (List Int)) (k : Nat) : Prop where
 st : StairO w wr sb n rows n (fun _ => S0)
 tid : ∃ rows0, Ech rows0 n n ∧ Pos rows0 ∧ rows = tidyN rows0 n n
 gen : Alikes n (RowsOf rows) (InL (ms.take k))

theorem OneI.ech {w wr : World} {sb n S0 : Nat} {rows : Nat → Option (List Int)} {ms : List (List Int)} {k : Nat} (h : OneI w wr sb n S0 rows ms k) : Ech rows n n := by
 obtain ⟨r0, h1, -, rfl⟩ := h.tid
 exact h1.all (Nat.le_refl n) n

theorem StairO.pos {w W : World} {sb m : Nat} {rows : Nat → Option (List Int)} {len : Nat} {ns : Nat → Nat} (h : StairO w W sb m rows len ns) (hE : Ech rows len m) : Pos rows := fun i r e => by
 obtain ⟨P, -, -, -, -, h5⟩ := h.row i (hE.lt i r e) r e
 exact h5

theorem made_one (m i : Nat) (hi : i < m) : (madeCells #[.slice none 0 0] m)[i]? = some (.slice none 0 0) := by
 simp [madeCells, hi, Nat.mod_one]

theorem StairO.made (w W : World) (hb : Below w.heap.size w W) (m len : Nat) (ns : Nat → Nat) : StairO w (W.alloc (.cells (madeCells #[.slice none 0 0] m) 72)) W.heap.size m (fun _ => none) len ns where
 lt := by simp
 low := hb.size
 below := hb.alloc hb.size _
 blk := ⟨_, _, heap_alloc_new W _⟩
 nil := fun i hi _ => by
  rw [World.cell?_alloc_new]
  exact made_one m i hi
 row := fun i hi r e => by cases e

theorem VecN.off {w : World} {v : Value} {zs : List Int} {n sb : Nat} (h : VecN w v zs n) (h0 : 0 < zs.length) (hs : w.heap.size ≤ sb) : ∀ b o l c, v = .slice (some ⟨b, o, none⟩) l c → b ≠ sb := by
 obtain ⟨ao, cap, rfl, -, h2⟩ := h
 obtain ⟨b', off, rfl, hlt, -⟩ := h2 h0
 intro b o l c e
 simp only [Value.slice.injEq, Option.some.injEq, Addr.mk.injEq, and_true] at e
 omega

theorem nbK_room {n S0 nv : Nat} (hn1 : 1 ≤ n) (hN : nbK n S0 nv n ≤ 119000) : 238001 + n * (S0 + 3) ≤ 300000 := by
 by_cases h0 : n = 1
 ·subst h0
  have h2 : nbK 1 S0 nv 1 = nv + (1 - 0 + 1) * (S0 + 3) := rfl
  omega
 ·have h1 : nbK n S0 nv 2 ≤ nbK n S0 nv n := nbK_mono (by omega)
  have h2 : nbK n S0 nv 2 = nv + (n - 0 + 1) * (S0 + 3) + (n - 1 + 1) * (S0 + 3) := rfl
  have h3 : (n - 0 + 1) * (S0 + 3) = n * (S0 + 3) + (S0 + 3) := by rw [Nat.sub_zero, Nat.succ_mul]
  have h4 : n - 1 + 1 = n := by omega
  rw [h4] at h2
  omega

theorem run_mkSt (m : Nat) (hm : m ≤ 1000) (W : World) : (Instr.makeSlice 150 (.int .i64 (m : Int)) (.int .i64 (m : Int))).run Tryz.prog W = .ok (.slice (some ⟨W.heap.size, 0, none⟩) m m) (W.alloc (.cells (madeCells #[.slice none 0 0] m) 72)) := by
 obtain ⟨i0, hi, hz0, hz1, hz2⟩ := info_parts Tryz.infoVec
 have h := run_make (P := Tryz.prog) W 150 72 i0 (.slice none 0 0) (by kernel_rfl) hi hz0 .i64 .i64 m m (by omega) (by omega) (by rw [hz2]; omega) (by omega)
 rw [hz1, Int.toNat_natCast, Nat.mul_one] at h
 exact h

set_option maxRecDepth 100000 in
set_option maxHeartbeats 1600000 in
theorem oneForm_qq (w : World) (v : Value) (ms : List (List Int)) (n nv Q : Nat) (hQ : n ≤ Q ∨ ms.length ≤ Q) (hQ16 : Q ≤ 16) (hv : MatN w v ms nv) (hr : ∀ us ∈ ms, us.length = n) (hn1 : 1 ≤ n) (hn : n ≤ 16) (hm : ms.length ≤ 1000) (hN : nbK n (Q * nv + 2) nv n ≤ 119000) :
  Calls Tryz.prog 63 #[v, .int .i64 (n : Int)] w fun e w' => ∃ u hs p, e = .returned u ∧ MatN w' u hs (Q * nv + 2) ∧ hs.length ≤ n ∧ Below w.heap.size w w' ∧ FormL n hs p ∧ Alikes n (InL hs) (InL ms) ∧ Fresh w.heap.size u := by
 obtain ⟨j0, hj, hy0, hy1, hy2⟩ := info_parts Tryz.infoVec
 have HJ := hide hj; have HY0 := hide hy0; have HY1 := hide hy1; have HY2 := hide hy2
 clear hj hy0 hy1 hy2
 have HQ9 := hide hQ
 clear hQ
 have HV := hide hv; have HR := hide hr; have HN := hide hN
 have HRO := hide (nbK_room hn1 hN)
 obtain ⟨ao, cap, rfl, -, -⟩ := hv
 clear hr hN
 generalize hS0 : Q * nv + 2 = S0 at *
 have HS0 := hide hS0
 clear hS0
 have HBM : Hid (∀ us ∈ ms, ∀ j, j < n → ab (us.getD j 0) < bp nv) := fun us hus j hj => by
  obtain ⟨i, hi, e⟩ := List.getElem_of_mem hus
  obtain ⟨b, off, cap', e1, hlt, u, hc, hu⟩ := HV.out.at i hi
  rw [e] at hu
  obtain ⟨b', off', cap2, e2⟩ := hu.form (by rw [HR.out us hus]; omega)
  subst e2
  obtain ⟨-, neg, o, l, c, -, -, hz⟩ := hu.at j (by rw [HR.out us hus]; exact hj)
  exact hz.ab_lt
 have hmk := run_mkSt n (by omega)
 have HI0 : Hid (OneI w (w.alloc (.cells (madeCells #[.slice none 0 0] n) 72)) w.heap.size n S0 (fun _ => none) ms 0) := hide
  ⟨StairO.made w w (Below.refl _ _) n n _, ⟨fun _ => none, ⟨fun i r e => (by cases e), fun i r e => (by cases e), fun i r e => (by cases e)⟩, fun i r e => (by cases e), (tidy_none n n).symm⟩, .of (fun v hv _ => by obtain ⟨i, e⟩ := hv; cases e) (fun v hv _ => by rw [List.take_zero] at hv; cases hv)⟩
 go_enter Tryz.func63, Tryz.ntmps63
 go_wp2
 clear hmk
 go_loopw [13] (fun i wr => ∃ k : Nat, k ≤ ms.length ∧ i = .int .i64 k ∧ ∃ rows, Hid (OneI w wr w.heap.size n S0 rows ms k)) (fun i _ => ms.length - (intOf i).toNat)
 case atStart => exact ⟨0, Nat.zero_le _, rfl, _, HI0⟩
 case round =>
  clear HI0
  obtain ⟨k, hk, rfl, rows, HI⟩ := hrel
  by_cases hkl : k < ms.length
  ·obtain ⟨b, off, _, e, hblt, u, cu0, hu⟩ := HV.out.at k hkl
   simp only [Value.slice.injEq, true_and] at e
   obtain ⟨rfl, rfl⟩ := e
   have cu : wr.cell? ⟨b, off + k, none⟩ = some u := (HI.out.st.below.cell (p := ⟨b, off + k, none⟩) hblt).trans cu0
   have hul := HR.out _ (List.getElem_mem hkl)
   have HOF := hide (hu.off (by omega) (Nat.le_refl _))
   have HU := hide (hu.below HI.out.st.below (Nat.le_refl _))
   have HTK : Hid (ms.take (k + 1) = ms.take k ++ [ms[k]]) := List.take_succ_eq_append_getElem hkl
   obtain ⟨vo, vcap, rfl, -, -⟩ := hu
   have HUL := hide hul
   clear hul
   have hvl : b < wr.heap.size := Nat.lt_of_lt_of_le hblt HI.out.st.below.size
   have HIN := hide (insert_any w wr w.heap.size n S0 nv rows _ ms[k] HI.out.st HI.out.ech HU.out HUL.out HOF.out (by omega) HN.out)
   clear cu0 HU HOF
   go_wp2_with fail
   refine HIN.out.mono ?_
   rintro e w1 ⟨rfl, R, hst, hech, hal⟩
   have hal' : Alikes n (RowsOf R) (InL (ms.take (k + 1))) := by
    rw [HTK.out]
    exact hal.trans (alikes_or HI.out.gen)
   have hpos := hst.pos hech
   have HTD := hide (tidy_any w w1 w.heap.size n n S0 238001 R hst hech (Nat.le_refl n) (by omega) HRO.out (by
    rw [← HS0.out]
    exact one_bound hpos hech hal' (fun us h => HR.out us (List.mem_of_mem_take h)) (fun us h => HBM.out us (List.mem_of_mem_take h)) (HQ9.out.imp id fun h => Nat.le_trans (by rw [List.length_take]; omega) h) hQ16))
   have HNX : Hid (∀ w2, StairO w w2 w.heap.size n (tidyN R n n) n (fun _ => S0) → OneI w w2 w.heap.size n S0 (tidyN R n n) ms (k + 1)) := fun w2 h =>
    ⟨h, ⟨R, hech, hpos, rfl⟩, (alikes_tidy hech (Nat.le_refl n) n).trans hal'⟩
   clear hst hech hal hal' hpos HIN HI cu
   go_wp2_with fail
   refine HTD.out.mono ?_
   rintro e w2 ⟨rfl, hst2⟩
   have HN2 := hide (HNX.out w2 hst2)
   clear hst2 HNX HTD
   go_wp2
   go_roundw
   case rel => exact ⟨k + 1, by omega, by go_num, _, HN2⟩
   case measure => simp [intOf]; omega
  ·obtain rfl : k = ms.length := by omega
   have HFO : Hid (∃ p, FormL n (rowsL rows n) p) := by
    obtain ⟨r0, h1, h2, rfl⟩ := HI.out.tid
    exact tidy_formL h2 h1
   have HAL : Hid (Alikes n (InL (rowsL rows n)) (InL ms)) := by
    have := HI.out.gen
    rw [List.take_length] at this
    exact (alikes_rowsL HI.out.ech).trans this
   obtain ⟨wo, rfl⟩ : ∃ wo : World, wo = wr := ⟨_, rfl⟩
   go_wp2
   go_loopw [7, 26] (fun out i wr => ∃ (q : Nat) (qs : List (Value × List Int)), q ≤ n ∧ i = .int .i64 q ∧ Hid (wr.ownsRow wo.heap.size 72 1 out qs.length (qs.map (·.1))) ∧ Hid (qs.map (·.2) = rowsL rows q) ∧ Hid (∀ p ∈ qs, VecN wo p.1 p.2 S0) ∧ Hid (Below wo.heap.size wo wr)) (fun _ i _ => n - (intOf i).toNat)
   case atStart => exact ⟨0, [], Nat.zero_le _, rfl, hide (World.ownsRow_nil _ _ _ _), hide rfl, hide (fun _ h => by cases h), hide (Below.refl _ _)⟩
   case round =>
    obtain ⟨q, qs, hq, rfl, HOW, HQ, HQV, HB⟩ := hrel
    have hlo := HI.out.st.lt
    have hql2 : qs.length ≤ q := by
     have h1 := congrArg List.length HQ.out
     rw [List.length_map] at h1
     have h2 := rowsL_len rows q
     omega
    by_cases hql : q < n
    ·have hlw : w.heap.size < wr.heap.size := Nat.lt_of_lt_of_le hlo HB.out.size
     cases hrq : rows q with
     | none =>
      have c0 := (HB.out.cell (p := ⟨w.heap.size, q, none⟩) hlo).trans (HI.out.st.nil q hql hrq)
      have hbo := run_nil_ne wr
      have HQ' : Hid (qs.map (·.2) = rowsL rows (q + 1)) := HQ.out.trans (rowsL_none hrq).symm
      clear hrq HQ hql2
      go_wp2
      go_roundw
      case rel => exact ⟨q + 1, qs, by omega, by go_num, HOW, HQ', HQV, HB⟩
      case measure => simp [intOf]; omega
     | some r =>
      obtain ⟨P, hc, hvO, -, -, -⟩ := HI.out.st.row q hql r hrq
      have c0 := (HB.out.cell (p := ⟨w.heap.size, q, none⟩) hlo).trans hc
      have hbo := run_some_ne wr ⟨P, 0, none⟩ r.length r.length
      have HQ' : Hid ((qs ++ [(Value.slice (some ⟨P, 0, none⟩) r.length r.length, r)]).map (·.2) = rowsL rows (q + 1)) := by
       show _ = _
       rw [List.map_append, HQ.out, rowsL_some hrq]; rfl
      have HQV' : Hid (∀ p ∈ qs ++ [(Value.slice (some ⟨P, 0, none⟩) r.length r.length, r)], VecN wo p.1 p.2 S0) := fun p hp => by
       rcases List.mem_append.1 hp with h | h
       ·exact HQV.out p h
       ·rw [List.mem_singleton] at h
        rw [h]
        exact hvO.vec
      have hown := HOW.out
      have hbs := HB.out.size
      have hj := HJ.out; have hy0 := HY0.out; have hy1 := HY1.out; have hy2 := HY2.out
      clear hrq HQ hc hvO HQV
      go_wp2_with (at_builtin; refine wpList_append_lies _ rfl _ _ 23 rfl wo.heap.size 72 j0 (.slice none 0 0) 1 24 (by kernel_rfl) hj hy0 hy1 hy2 rfl (by decide) u7 qs.length (qs.map (·.1)) rfl (hown.alloc _) ⟨wr.heap.size, 0, none⟩ 1 1 [.slice (some ⟨P, 0, none⟩) r.length r.length] rfl rfl (World.news_of_block (heap_alloc_new wr _)) (fun u hu => by rw [List.mem_singleton] at hu; rw [hu]; rfl) (by decide) (by unfold maxLen; omega) (by omega) (by simp; omega) (wr.heap.size + 1) (by simp) ?_)
      intro g cap' w5 hown5 hgrow5 hat5 hlt5
      have HOW5 : Hid (w5.ownsRow wo.heap.size 72 1 (.slice (some ⟨g, 0, none⟩) (qs.length + 1) cap') (qs ++ [(Value.slice (some ⟨P, 0, none⟩) r.length r.length, r)]).length ((qs ++ [(Value.slice (some ⟨P, 0, none⟩) r.length r.length, r)]).map (·.1))) := by
       show World.ownsRow ..
       rw [List.length_append, List.length_singleton, List.map_append]
       exact hown5
      have HB5 := hide (HB.out.trans (owns_below hown HB.out.size hgrow5))
      clear hown hown5 hgrow5 hat5 hlt5 hj hy0 hy1 hy2 HOW HB c0 hbo
      go_wp2
      go_roundw
      case rel => exact ⟨q + 1, _, by omega, by go_num, HOW5, HQ', HQV', HB5⟩
      case measure => simp [intOf]; omega
    ·obtain rfl : q = n := by omega
     have HF : Hid (MatN wr u7 (rowsL rows q) S0) := by
      have := matN_of_owns HOW.out (fun p hp => (HQV.out p hp).below HB.out (Nat.le_refl _))
      rw [HQ.out] at this
      exact this
     have HBB := hide (HI.out.st.below.trans (HB.out.mono HI.out.st.below.size))
     have HFR := hide ((owns_fresh HOW.out).mono HI.out.st.below.size)
     clear HOW HQ HQV HB HI
     go_wp2
     go_ret
     obtain ⟨p, hp⟩ := HFO.out
     exact ⟨_, _, p, rfl, HF.out, rowsL_len _ _, HBB.out, hp, HAL.out, HFR.out⟩

theorem oneForm_q (w : World) (v : Value) (ms : List (List Int)) (n nv Q : Nat) (hQ : n ≤ Q ∨ ms.length ≤ Q) (hQ16 : Q ≤ 16) (hv : MatN w v ms nv) (hr : ∀ us ∈ ms, us.length = n) (hn1 : 1 ≤ n) (hn : n ≤ 16) (hm : ms.length ≤ 1000) (hN : nbK n (Q * nv + 2) nv n ≤ 100000) :
  Calls Tryz.prog 63 #[v, .int .i64 (n : Int)] w fun e w' => ∃ u hs p, e = .returned u ∧ MatN w' u hs (Q * nv + 2) ∧ hs.length ≤ n ∧ Below w.heap.size w w' ∧ FormL n hs p ∧ Alikes n (InL hs) (InL ms) ∧ Fresh w.heap.size u :=
 oneForm_qq w v ms n nv Q hQ hQ16 hv hr hn1 hn hm (Nat.le_trans hN (by omega))

theorem oneForm_more (w : World) (v : Value) (ms : List (List Int)) (n nv : Nat) (hv : MatN w v ms nv) (hr : ∀ us ∈ ms, us.length = n) (hn1 : 1 ≤ n) (hn : n ≤ 16) (hm : ms.length ≤ 1000) (hN : nbK n (n * nv + 2) nv n ≤ 119000) :
  Calls Tryz.prog 63 #[v, .int .i64 (n : Int)] w fun e w' => ∃ u hs p, e = .returned u ∧ MatN w' u hs (n * nv + 2) ∧ hs.length ≤ n ∧ Below w.heap.size w w' ∧ FormL n hs p ∧ Alikes n (InL hs) (InL ms) :=
 (oneForm_qq w v ms n nv n (.inl (Nat.le_refl _)) hn hv hr hn1 hn hm hN).mono fun _ _ ⟨u, hs, p, h1, h2, h3, h4, h5, h6, _⟩ => ⟨u, hs, p, h1, h2, h3, h4, h5, h6⟩

theorem oneForm_new (w : World) (v : Value) (ms : List (List Int)) (n nv : Nat) (hv : MatN w v ms nv) (hr : ∀ us ∈ ms, us.length = n) (hn1 : 1 ≤ n) (hn : n ≤ 16) (hm : ms.length ≤ 1000) (hN : nbK n (n * nv + 2) nv n ≤ 100000) :
  Calls Tryz.prog 63 #[v, .int .i64 (n : Int)] w fun e w' => ∃ u hs p, e = .returned u ∧ MatN w' u hs (n * nv + 2) ∧ hs.length ≤ n ∧ Below w.heap.size w w' ∧ FormL n hs p ∧ Alikes n (InL hs) (InL ms) ∧ Fresh w.heap.size u :=
 oneForm_q w v ms n nv n (.inl (Nat.le_refl _)) hn hv hr hn1 hn hm hN

end Go.Proofs.YtdedolkgcdlmeaaGreatDoor

/- mat.Hermite of rows that are right. -/
namespace Go.Proofs.YtdedolkgcdlmeaaGreatDoor
open Go.RowKit Limbs

def HermPost (w : World) (n nv : Nat) (ms : List (List Int)) (e : Ending) (w' : World) : Prop :=
 ∃ u hs p, e = .returned (.tuple #[u, .nilIface]) ∧ MatN w' u hs (n * nv + 2) ∧ hs.length ≤ n ∧ Below w.heap.size w w' ∧ FormL n hs p ∧ Alikes n (InL hs) (InL ms)

def HermNew (w : World) (n nv : Nat) (ms : List (List Int)) (e : Ending) (w' : World) : Prop :=
 ∃ u hs p, e = .returned (.tuple #[u, .nilIface]) ∧ MatN w' u hs (n * nv + 2) ∧ hs.length ≤ n ∧ Below w.heap.size w w' ∧ FormL n hs p ∧ Alikes n (InL hs) (InL ms) ∧ Fresh w.heap.size u

set_option maxRecDepth 100000 in
set_option maxHeartbeats 1600000 in
theorem hermite_new (w : World) (v : Value) (ms : List (List Int)) (n nv : Nat) (hv : MatN w v ms nv) (hr : ∀ us ∈ ms, us.length = n) (hn1 : 1 ≤ n) (hn : n ≤ 8) (hm : ms.length ≤ 12) (hN : nbK n (n * nv + 2) nv n ≤ 100000) :
  Calls Tryz.prog 48 #[v, .int .i64 (n : Int)] w fun e w' => HermNew w n nv ms e w' := by
 have HC := hide (checkM_ok w v ms n nv hv hn1 hn hm hr)
 have HO := hide (fun w1 (hb : Below w.heap.size w w1) => oneForm_new w1 v ms n nv (hv.below hb (Nat.le_refl _)) hr hn1 (by omega) (by omega) hN)
 obtain ⟨ao, cap, rfl, -, -⟩ := hv
 clear hr hN
 go_enter Tryz.func48, Tryz.ntmps48
 go_wp2_with fail
 refine HC.out.mono ?_
 rintro e w1 ⟨rfl, hb1⟩
 have HB1 := hide hb1
 clear hb1 HC
 go_wp2_with fail
 refine (HO.out w1 HB1.out).mono ?_
 rintro e w2 ⟨u, hs, p, rfl, h1, h2, h3, h4, h5, h6⟩
 have HP := hide (show HermNew w n nv ms (.returned (.tuple #[u, .nilIface])) w2 from ⟨u, hs, p, rfl, h1, h2, HB1.out.trans (h3.mono HB1.out.size), h4, h5, h6.mono HB1.out.size⟩)
 clear h1 h2 h3 h4 h5 h6 HO HB1
 go_wp2
 go_ret2
 exact HP.out

theorem hermite_any (w : World) (v : Value) (ms : List (List Int)) (n nv : Nat) (hv : MatN w v ms nv) (hr : ∀ us ∈ ms, us.length = n) (hn1 : 1 ≤ n) (hn : n ≤ 8) (hm : ms.length ≤ 12) (hN : nbK n (n * nv + 2) nv n ≤ 100000) :
  Calls Tryz.prog 48 #[v, .int .i64 (n : Int)] w fun e w' => HermPost w n nv ms e w' :=
 (hermite_new w v ms n nv hv hr hn1 hn hm hN).mono fun _ _ ⟨u, hs, p, h1, h2, h3, h4, h5, h6, _⟩ => ⟨u, hs, p, h1, h2, h3, h4, h5, h6⟩

end Go.Proofs.YtdedolkgcdlmeaaGreatDoor

/- A number's text. -/
namespace Go.Proofs.YtdedolkgcdlmeaaGreatDoor
open Go.RowKit Limbs

def pad : Nat → Nat → List UInt8
 | 0, _ => []
 | k + 1, g => pad k (g / 10) ++ [UInt8.ofNat (48 + g % 10)]

theorem pad_length (k g : Nat) : (pad k g).length = k := by
 induction k generalizing g with
 | zero => rfl
 | succ k ih => simp [pad, ih]

theorem decDigits_pad (k : Nat) : ∀ q g : Nat, 1 ≤ q → g < 10 ^ k → Lib.decDigits (q * 10 ^ k + g) = Lib.decDigits q ++ pad k g := by
 induction k with
 | zero => intro q g _ hg; have : g = 0 := by simpa using hg
           subst this; simp [pad]
 | succ k ih =>
  intro q g hq hg
  have e1 : q * 10 ^ (k + 1) = 10 * (q * 10 ^ k) := by rw [Nat.pow_succ, ← Nat.mul_assoc, Nat.mul_comm]
  have e0 : 0 < q * 10 ^ k := Nat.mul_pos (by omega) (Nat.pow_pos (by decide))
  have hg' : g / 10 < 10 ^ k := by rw [Nat.pow_succ] at hg; omega
  rw [Lib.decDigits, dif_neg (by omega)]
  have e2 : (q * 10 ^ (k + 1) + g) / 10 = q * 10 ^ k + g / 10 := by omega
  have e3 : (q * 10 ^ (k + 1) + g) % 10 = g % 10 := by omega
  rw [e2, e3, ih q (g / 10) hq hg', List.append_assoc]
  rfl

theorem decDigits_len (u : Nat) : (Lib.decDigits u).length ≤ u + 1 ∧ 1 ≤ (Lib.decDigits u).length := by
 induction u using Nat.strongRecOn with
 | _ u ih =>
  rw [Lib.decDigits]
  by_cases h : u < 10
  ·rw [dif_pos h]; simp
  ·rw [dif_neg h]
   have := ih (u / 10) (by omega)
   simp
   omega

theorem nine (g : Nat) (hg : g < 1000000000) : (Lib.decDigits (1000000000 + g)).drop 1 = pad 9 g := by
 have := decDigits_pad 9 1 g (Nat.le_refl _) hg
 rw [show 1 * 10 ^ 9 + g = 1000000000 + g by omega] at this
 rw [this, Lib.decDigits_one (by decide)]
 rfl

theorem group_digits (q g : Nat) (hq : 1 ≤ q) (hg : g < 1000000000) : Lib.decDigits (q * 1000000000 + g) = Lib.decDigits q ++ pad 9 g := decDigits_pad 9 q g hq hg

theorem gv_nonneg {gs : List Int} (h : ∀ g ∈ gs, 0 ≤ g ∧ g < 1000000000) : 0 ≤ gv gs := by
 induction gs with
 | nil => simp [gv]
 | cons x xs ih => have := ih fun g hg => h g (by simp [hg]); have := h x (by simp); simp only [gv]; omega

theorem gv_pos {gs : List Int} (h : ∀ g ∈ gs, 0 ≤ g ∧ g < 1000000000) (hl : gs.length ≠ 0) (hn : gs.getD (gs.length - 1) 0 ≠ 0) : 0 < gv gs := by
 induction gs with
 | nil => simp at hl
 | cons x xs ih =>
  have hx := h x (by simp)
  have hxs : ∀ g ∈ xs, 0 ≤ g ∧ g < 1000000000 := fun g hg => h g (by simp [hg])
  have h0 := gv_nonneg hxs
  simp only [gv]
  by_cases e : xs.length = 0
  ·have : xs = [] := List.eq_nil_of_length_eq_zero e
   subst this
   simp at hn
   simp [gv]; omega
  ·have := ih hxs e (by
    have e2 : (x :: xs).length - 1 = (xs.length - 1) + 1 := by simp; omega
    rw [e2, List.getD_cons_succ] at hn; exact hn)
   omega

theorem text_step {gs : List Int} (h : ∀ g ∈ gs, 0 ≤ g ∧ g < 1000000000) (hn : gs.getD (gs.length - 1) 0 ≠ 0) {p : Nat} (hp : p + 1 < gs.length) :
  Lib.decDigits (gv (gs.drop p)).toNat = Lib.decDigits (gv (gs.drop (p + 1))).toNat ++ pad 9 (gs.getD p 0).toNat := by
 have hm : gs.getD p 0 ∈ gs := by rw [List.getD_eq_getElem?_getD, List.getElem?_eq_getElem (by omega)]; exact List.getElem_mem _
 have hg := h _ hm
 have hd : ∀ g ∈ gs.drop (p + 1), 0 ≤ g ∧ g < 1000000000 := fun g hg => h g (List.mem_of_mem_drop hg)
 have hl : (gs.drop (p + 1)).length = gs.length - (p + 1) := List.length_drop
 have h1 := gv_pos hd (by omega) (by rw [getD_drop, hl, show p + 1 + (gs.length - (p + 1) - 1) = gs.length - 1 by omega]; exact hn)
 have e : gs.drop p = gs.getD p 0 :: gs.drop (p + 1) := drop_cons_getD gs p (by omega)
 rw [e]
 simp only [gv]
 rw [← group_digits _ _ (by omega) (by omega)]
 congr 1
 omega

def txt (z : Int) : List UInt8 := Lib.itoa z

def TextPost (w : World) (z : Int) (e : Ending) (w' : World) : Prop := e = .returned (.string ⟨(txt z).toArray⟩) ∧ Below w.heap.size w w'

end Go.Proofs.YtdedolkgcdlmeaaGreatDoor

/- The walk that makes a number's text, over what strconv.Itoa answers. -/
namespace Go.Proofs.YtdedolkgcdlmeaaGreatDoor
open Go.RowKit Limbs

def ItoaOk (w : World) (z : Int) : Prop :=
 ∀ (W : World) (k : Nat), Below w.heap.size w W → k < 10000000000 → (k < 100 ∨ 100 ≤ z.natAbs) →
  Calls Tryz.prog 120 #[.int .i64 k] W fun e w' => e = .returned (.string ⟨(Lib.decDigits k).toArray⟩) ∧ Below W.heap.size W w'

def sgnB (neg : Bool) : List UInt8 := if neg = true then [45] else []

theorem gv_low {gs : List Int} (h : ∀ g ∈ gs, 0 ≤ g ∧ g < 1000000000) (top : Nat) (hl : gs.length = top + 1) : gp top * gs.getD top 0 ≤ gv gs := by
 induction gs generalizing top with
 | nil => simp at hl
 | cons x xs ih =>
  have hx := h x (by simp)
  have hxs : ∀ g ∈ xs, 0 ≤ g ∧ g < 1000000000 := fun g hg => h g (by simp [hg])
  cases top with
  | zero =>
   have := gv_nonneg hxs
   simp [gv, gp]; omega
  | succ top =>
   have := ih hxs top (by simpa using hl)
   rw [List.getD_cons_succ]
   simp only [gv, gp]
   rw [Int.mul_assoc]
   omega

theorem builder_below {T e : TypeId} {B b : Nat} {bs : List Value} {w w' : World} (h : Lib.IsBuilderF T e B b bs w) (hb : Below w.heap.size w w') : Lib.IsBuilderF T e B b bs w' := by
 have hg : w.grownBy w' none := ⟨hb.os, hb.tape, hb.output, hb.size, fun k hk _ => hb.block k hk⟩
 have key : ∀ p, Lib.BuilderAtF T e B b p bs w → Lib.BuilderAtF T e B b p bs w' := fun p hp => by
  have hlt := hp.lt
  obtain ⟨hB, v, hbk, hown, hne⟩ := hp
  exact ⟨hB, v, by rw [hb.block b hlt]; exact hbk, hown.kept hg (by cases v.ownBlock <;> simp), hne⟩
 exact h.elim (fun x => .inl (key _ x)) (fun x => .inr (key _ x))

set_option maxRecDepth 100000 in
set_option maxHeartbeats 1000000 in
theorem text_gen (w : World) (va : Value) (z : Int) (n : Nat) (ha : NumL w va z n) (hn : n ≤ 900000) (hz : z ≠ 0) (hIt : ItoaOk w z) :
  Calls Tryz.prog 92 #[va] w fun e w' => TextPost w z e w' := by
 have HN := hide ha
 obtain ⟨an, sa, a, rfl, hla, nra, hza, hx, hna⟩ := ha
 have HA := hide hla
 obtain ⟨ao, acap, rfl, hac, halen, halb, -⟩ := hla
 have hane : a.length ≠ 0 := fun h => hz (by rw [hx, (lv_zero_iff halb nra).2 h]; split <;> rfl)
 have hpos := lv_pos halb nra hane
 have HX := hide hx; clear hx
 have HI := hide hIt; clear hIt
 have hd0 : decide (z = 0) = false := decide_eq_false hz
 go_enter Tryz.func92, Tryz.ntmps92
 go_wp2_with fail
 have hB := box_new w (.bool an) (.slice ao a.length acap) 29 w.heap.size rfl
 have hb0 : Below w.heap.size w (w.alloc (.cells #[.bool an, .slice ao a.length acap] 29)) := (Below.refl _ _).alloc (Nat.le_refl _) _
 have hs0 : w.heap.size < (w.alloc (.cells #[.bool an, .slice ao a.length acap] 29)).heap.size := by simp
 generalize w.alloc (.cells #[.bool an, .slice ao a.length acap] 29) = W at *
 refine (zero_any W _ z n (HN.out.below hb0 (Nat.le_refl _))).mono ?_
 rintro e w2 ⟨rfl, hb2⟩
 rw [hd0]
 replace hB := hB.later hb2 hs0
 replace hb0 := hb0.trans (hb2.mono hb0.size)
 have hs2 := Nat.lt_of_lt_of_le hs0 hb2.size
 clear hb2 hs0
 obtain ⟨p0, p1, -, -⟩ := hB
 go_wp2_with fail
 refine (digitGroups_any w2 _ a (HA.out.below hb0 (Nat.le_refl _)) nra).mono ?_
 rintro e w3 ⟨v, gs, rfl, hown, hb3, hgv, hg9, hlast, hgl⟩
 have hgne : gs.length ≠ 0 := fun h => by rw [List.eq_nil_of_length_eq_zero h] at hgv; simp [gv] at hgv; omega
 replace hlast := hlast.resolve_left hgne
 obtain ⟨top, htop⟩ : ∃ top, gs.length = top + 1 := ⟨gs.length - 1, by omega⟩
 obtain ⟨g, cap, rfl, hgb, hglt⟩ := hown.form (by omega)
 have hcells := fun i hi => hown.cellAt i hi
 rw [htop] at hcells hgl hlast ⊢
 rw [Nat.add_sub_cancel] at hlast
 have HC : Hid (∀ i, i < top + 1 → w3.cell? ⟨g, i, none⟩ = some (.int .i64 (gs.getD i 0))) := fun i hi => by
  rw [hcells i (by omega), List.getElem?_map, List.getElem?_eq_getElem (by omega)]
  simp [List.getD_eq_getElem?_getD, show i < gs.length by omega]
 clear hcells hown
 have q0 : w3.cell? ⟨w.heap.size, 0, none⟩ = some (.bool an) := (hb3.cell (p := ⟨w.heap.size, 0, none⟩) hs2).trans p0
 have hbw3 := hb0.trans (hb3.mono hb0.size)
 have HV := hide hgv; have HG9 := hide hg9; have HLast := hide hlast; have HTop := hide htop
 clear hgv hg9 hlast htop p0 p1 hb3
 have hs3 : w.heap.size < w3.heap.size := by have := hbw3.size; omega
 have hct := HC.out top (by omega)
 obtain ⟨gt, HGT⟩ : ∃ gt, Hid (gt = gs.getD top 0) := ⟨_, rfl⟩
 rw [← HGT.out] at hct
 have hgt : 0 < gt ∧ gt < 1000000000 := by
  have := HG9.out (gs.getD top 0) (by rw [List.getD_eq_getElem?_getD, List.getElem?_eq_getElem (by have := HTop.out; omega)]; exact List.getElem_mem _)
  have h2 := HLast.out
  rw [HGT.out]; omega
 have hbu := Lib.IsBuilderF.of (Lib.fresh_isBuilder 165 5 w3)
 have hbb : Below w3.heap.size w3 (w3.alloc (.cells #[.pointer none, .slice none 0 0] 165)) := (Below.refl _ _).alloc (Nat.le_refl _) _
 have HBU := hide hbu
 clear hbu
 have HEND : Hid (∀ w9, Below w3.heap.size w3 w9 → TextPost w z (.returned (.string ⟨(sgnB an ++ Lib.decDigits (gv (gs.drop 0)).toNat).toArray⟩)) w9) := fun w9 h9 => by
  refine ⟨?_, hbw3.trans (h9.mono hbw3.size)⟩
  have e : txt z = sgnB an ++ Lib.decDigits (gv (gs.drop 0)).toNat := by
   rw [List.drop_zero, ← HV.out]
   unfold txt sgnB Lib.itoa
   have := HX.out
   cases an
   ·simp at this ⊢; rw [this, if_neg (by omega)]
   ·simp at this ⊢; rw [this, if_pos (by omega)]; simp
    congr 1; omega
  rw [e]
 have HIT : Hid (∀ (W : World) (k : Nat), Below w3.heap.size w3 W → k < 10000000000 → (k < 100 ∨ top ≠ 0 ∨ 100 ≤ gt) → Calls Tryz.prog 120 #[.int .i64 k] W fun e w' => e = .returned (.string ⟨(Lib.decDigits k).toArray⟩) ∧ Below W.heap.size W w') := fun W k hW hk hc => by
  refine HI.out W k (hbw3.trans (hW.mono hbw3.size)) hk ?_
  rcases hc with hc | hc
  ·exact .inl hc
  ·right
   have h1 := gv_low HG9.out top HTop.out
   rw [← HGT.out, ← HV.out] at h1
   have h2 : 100 ≤ lv a := by
    rcases hc with hc | hc
    ·have h3 := gp_mono (m := 1) (n := top) (by omega)
     have h4 : gp top * 1 ≤ gp top * gt := Int.mul_le_mul_of_nonneg_left (by omega) (by have := gp_pos top; omega)
     simp [gp] at h3
     omega
    ·have h3 := gp_pos top
     have h4 : 1 * gt ≤ gp top * gt := Int.mul_le_mul_of_nonneg_right (by omega) (by omega)
     omega
   have := HX.out
   split at this <;> omega
 have HTXT : Hid (∀ p, p + 1 < gs.length → Lib.decDigits (gv (gs.drop p)).toNat = Lib.decDigits (gv (gs.drop (p + 1))).toNat ++ pad 9 (gs.getD p 0).toNat) := fun p hp => text_step HG9.out (by rw [HTop.out, Nat.add_sub_cancel]; exact HLast.out) hp
 have HT0 : Hid (Lib.decDigits (gv (gs.drop top)).toNat = Lib.decDigits gt.toNat) := by
  show _ = _
  rw [drop_cons_getD gs top (by have := HTop.out; omega), List.drop_eq_nil_of_le (by have := HTop.out; omega), ← HGT.out]
  simp [gv]
 have HG : Hid (∀ p, p < top + 1 → 0 ≤ gs.getD p 0 ∧ gs.getD p 0 < 1000000000) := fun p hp => HG9.out _ (by rw [List.getD_eq_getElem?_getD, List.getElem?_eq_getElem (by have := HTop.out; omega)]; exact List.getElem_mem _)
 obtain ⟨gn, hgn⟩ : ∃ gn : Nat, gt = (gn : Int) := Int.eq_ofNat_of_zero_le (by omega)
 subst hgn
 clear HI HN HA HX HGT HV HG9 HLast
 have hgn1 : gn < 1000000000 := by omega
 have hdl := (decDigits_len gn).1
 have hctA : ∀ W', Below w3.heap.size w3 W' → W'.cell? ⟨g, top, none⟩ = some (.int .i64 (gn : Int)) := fun W' h => (h.cell (p := ⟨g, top, none⟩) hglt).trans hct
 have HCT := hide hctA
 clear hctA hct
 cases an
 ·have HBF : Hid (Lib.IsBuilderF 165 5 w3.heap.size w3.heap.size (Lib.byteCells (sgnB false)) (w3.alloc (.cells #[.pointer none, .slice none 0 0] 165))) := HBU.out
  have hctb := HCT.out _ hbb
  go_wp2_with fail
  generalize w3.alloc (.cells #[.pointer none, .slice none 0 0] 165) = wb at *
  clear hctb q0
  refine (HIT.out wb gn hbb (by omega) (by omega)).mono ?_
  rintro e w5 ⟨rfl, hb5⟩
  go_wp2_with fail
  refine (Go.Proofs.Tryz.Builder_WriteString_k w3.heap.size w3.heap.size _ _ _ (builder_below HBF.out hb5) (by simp [Lib.byteCells, sgnB, ByteArray.size]; omega) (by have := hbb.size; have := hb5.size; omega)).mono ?_
  rintro e w6 ⟨rfl, hbu6, hb6, -⟩
  have hs6 : (Lib.byteCells (sgnB false) ++ Lib.strCells ⟨(Lib.decDigits gn).toArray⟩) = Lib.byteCells (sgnB false ++ Lib.decDigits (gv (gs.drop (top - 0))).toNat) := by
   rw [Nat.sub_zero, HT0.out, Lib.byteCells_append]; rfl
  rw [hs6] at hbu6
  have HB6 := hide (show Lib.IsBuilderF 165 5 w3.heap.size w3.heap.size _ w6 from .inr hbu6)
  have hbw6 := (hbb.trans (hb5.mono hbb.size)).trans hb6
  have hll : (sgnB false ++ Lib.decDigits (gv (gs.drop (top - 0))).toNat).length ≤ 1000000100 := by rw [Nat.sub_zero, HT0.out]; simp [sgnB]; omega
  clear hbu6 hs6 hb6 hb5 HBF HBU hbb
  go_wp2
  go_loopw [25] (fun i wr => ∃ k : Nat, k ≤ top ∧ i = .int .i64 k ∧ Hid (Lib.IsBuilderF 165 5 w3.heap.size w3.heap.size (Lib.byteCells (sgnB false ++ Lib.decDigits (gv (gs.drop (top - k))).toNat)) wr) ∧ Below w3.heap.size w3 wr ∧ (sgnB false ++ Lib.decDigits (gv (gs.drop (top - k))).toNat).length ≤ 1000000100 + 9 * k) (fun i _ => top - (intOf i).toNat)
  case atStart => exact ⟨0, Nat.zero_le _, rfl, HB6, hbw6, hll⟩
  case round =>
   obtain ⟨k, hk, rfl, HBK, hbk, hlk⟩ := hrel
   by_cases hlt : k < top
   ·obtain ⟨p, hp⟩ : ∃ p, p = top - 1 - k := ⟨_, rfl⟩
    have hP : (top : Int) - 1 - (k : Int) = (p : Int) := by omega
    have hpl : p < top + 1 := by omega
    have hcp := (hbk.cell (p := ⟨g, p, none⟩) hglt).trans (HC.out p hpl)
    have hg := HG.out p hpl
    have HST := hide (HTXT.out p (by have := HTop.out; omega))
    have HKE := hide (show top - k = p + 1 by omega)
    have HKE2 := hide (show top - (k + 1) = p by omega)
    obtain ⟨q, hq⟩ : ∃ q : Nat, gs.getD p 0 = (q : Int) := Int.eq_ofNat_of_zero_le hg.1
    rw [hq] at hcp hg HST
    clear hp hq
    go_wp2_with fail
    rw [show (1000000000 : Int) + (q : Int) = ((1000000000 + q : Nat) : Int) by omega]
    refine (HIT.out wr (1000000000 + q) hbk (by omega) (by omega)).mono ?_
    rintro e w7 ⟨rfl, hb7⟩
    have hdq := (decDigits_len (1000000000 + q)).2
    have HN9 := hide (nine q (by omega))
    obtain ⟨s, HSs⟩ : ∃ s : ByteArray, Hid (s = ⟨(Lib.decDigits (1000000000 + q)).toArray⟩) := ⟨_, rfl⟩
    have hs1 : 1 ≤ s.size := by rw [HSs.out]; simpa [ByteArray.size] using hdq
    rw [← HSs.out]
    have hcell9 : Lib.strCells (s.extract 1 s.size) = Lib.byteCells (pad 9 q) := by
     rw [Lib.strCells_eq, Lib.extract_to_end, HSs.out]
     show Lib.byteCells ((Lib.decDigits (1000000000 + q)).toArray.toList.drop 1) = _
     rw [List.toList_toArray, HN9.out]
    have hsz9 : (s.extract 1 s.size).size = 9 := by
     have := Lib.strCells_length (s.extract 1 s.size)
     rw [hcell9, Lib.byteCells_length, pad_length] at this
     exact this.symm
    have HC9 := hide hcell9; have HZ9 := hide hsz9
    clear hcell9 hsz9 hdq
    go_wp2_with fail
    refine (Go.Proofs.Tryz.Builder_WriteString_k w3.heap.size w3.heap.size _ _ _ (builder_below HBK.out hb7) (by rw [HZ9.out, Lib.byteCells_length]; omega) (by have := hbk.size; have := hb7.size; omega)).mono ?_
    rintro e w8 ⟨rfl, hbu8, hb8, -⟩
    rw [HC9.out, ← Lib.byteCells_append, List.append_assoc, HKE.out] at hbu8
    have hst := HST.out
    rw [Int.toNat_natCast] at hst
    rw [← hst] at hbu8
    have HB8 : Hid (Lib.IsBuilderF 165 5 w3.heap.size w3.heap.size (Lib.byteCells (sgnB false ++ Lib.decDigits (gv (gs.drop (top - (k + 1)))).toNat)) w8) := by rw [HKE2.out]; exact .inr hbu8
    have hbw8 := (hbk.trans (hb7.mono hbk.size)).trans hb8
    have hl8 : (sgnB false ++ Lib.decDigits (gv (gs.drop (top - (k + 1)))).toNat).length ≤ 1000000100 + 9 * (k + 1) := by
     rw [HKE2.out, hst, ← List.append_assoc, List.length_append, pad_length]
     rw [HKE.out] at hlk
     omega
    clear hbu8 hst hb8 hb7 HST
    go_wp2
    go_roundw
    case rel => exact ⟨k + 1, by omega, by go_num, HB8, hbw8, hl8⟩
    case measure => simp [intOf]; omega
   ·obtain rfl : k = top := by omega
    rw [Nat.sub_self] at HBK
    go_wp2_with fail
    refine (Go.Proofs.Tryz.Builder_String_any_k w3.heap.size w3.heap.size _ _ HBK.out hbk.size).mono ?_
    rintro e w8 ⟨rfl, -, hb8, -⟩
    have HF := hide (HEND.out w8 (hbk.trans hb8))
    go_wp2
    go_ret
    exact HF.out
 ·go_wp2_with fail
  refine (Go.Proofs.Tryz.Builder_WriteByte_k w3.heap.size w3.heap.size [] 45 _ HBU.out (by decide) (by simp)).mono ?_
  rintro e wb ⟨rfl, hbu2, hbb2, -⟩
  have HBF : Hid (Lib.IsBuilderF 165 5 w3.heap.size w3.heap.size (Lib.byteCells (sgnB true)) wb) := .inr hbu2
  replace hbb := hbb.trans hbb2
  clear hbu2 hbb2
  have hctb := HCT.out _ hbb
  go_wp2_with fail
  clear hctb q0
  refine (HIT.out wb gn hbb (by omega) (by omega)).mono ?_
  rintro e w5 ⟨rfl, hb5⟩
  go_wp2_with fail
  refine (Go.Proofs.Tryz.Builder_WriteString_k w3.heap.size w3.heap.size _ _ _ (builder_below HBF.out hb5) (by simp [Lib.byteCells, sgnB, ByteArray.size]; omega) (by have := hbb.size; have := hb5.size; omega)).mono ?_
  rintro e w6 ⟨rfl, hbu6, hb6, -⟩
  have hs6 : (Lib.byteCells (sgnB true) ++ Lib.strCells ⟨(Lib.decDigits gn).toArray⟩) = Lib.byteCells (sgnB true ++ Lib.decDigits (gv (gs.drop (top - 0))).toNat) := by
   rw [Nat.sub_zero, HT0.out, Lib.byteCells_append]; rfl
  rw [hs6] at hbu6
  have HB6 := hide (show Lib.IsBuilderF 165 5 w3.heap.size w3.heap.size _ w6 from .inr hbu6)
  have hbw6 := (hbb.trans (hb5.mono hbb.size)).trans hb6
  have hll : (sgnB true ++ Lib.decDigits (gv (gs.drop (top - 0))).toNat).length ≤ 1000000100 := by rw [Nat.sub_zero, HT0.out]; simp [sgnB]; omega
  clear hbu6 hs6 hb6 hb5 HBF HBU hbb
  go_wp2
  go_loopw [25] (fun i wr => ∃ k : Nat, k ≤ top ∧ i = .int .i64 k ∧ Hid (Lib.IsBuilderF 165 5 w3.heap.size w3.heap.size (Lib.byteCells (sgnB true ++ Lib.decDigits (gv (gs.drop (top - k))).toNat)) wr) ∧ Below w3.heap.size w3 wr ∧ (sgnB true ++ Lib.decDigits (gv (gs.drop (top - k))).toNat).length ≤ 1000000100 + 9 * k) (fun i _ => top - (intOf i).toNat)
  case atStart => exact ⟨0, Nat.zero_le _, rfl, HB6, hbw6, hll⟩
  case round =>
   obtain ⟨k, hk, rfl, HBK, hbk, hlk⟩ := hrel
   by_cases hlt : k < top
   ·obtain ⟨p, hp⟩ : ∃ p, p = top - 1 - k := ⟨_, rfl⟩
    have hP : (top : Int) - 1 - (k : Int) = (p : Int) := by omega
    have hpl : p < top + 1 := by omega
    have hcp := (hbk.cell (p := ⟨g, p, none⟩) hglt).trans (HC.out p hpl)
    have hg := HG.out p hpl
    have HST := hide (HTXT.out p (by have := HTop.out; omega))
    have HKE := hide (show top - k = p + 1 by omega)
    have HKE2 := hide (show top - (k + 1) = p by omega)
    obtain ⟨q, hq⟩ : ∃ q : Nat, gs.getD p 0 = (q : Int) := Int.eq_ofNat_of_zero_le hg.1
    rw [hq] at hcp hg HST
    clear hp hq
    go_wp2_with fail
    rw [show (1000000000 : Int) + (q : Int) = ((1000000000 + q : Nat) : Int) by omega]
    refine (HIT.out wr (1000000000 + q) hbk (by omega) (by omega)).mono ?_
    rintro e w7 ⟨rfl, hb7⟩
    have hdq := (decDigits_len (1000000000 + q)).2
    have HN9 := hide (nine q (by omega))
    obtain ⟨s, HSs⟩ : ∃ s : ByteArray, Hid (s = ⟨(Lib.decDigits (1000000000 + q)).toArray⟩) := ⟨_, rfl⟩
    have hs1 : 1 ≤ s.size := by rw [HSs.out]; simpa [ByteArray.size] using hdq
    rw [← HSs.out]
    have hcell9 : Lib.strCells (s.extract 1 s.size) = Lib.byteCells (pad 9 q) := by
     rw [Lib.strCells_eq, Lib.extract_to_end, HSs.out]
     show Lib.byteCells ((Lib.decDigits (1000000000 + q)).toArray.toList.drop 1) = _
     rw [List.toList_toArray, HN9.out]
    have hsz9 : (s.extract 1 s.size).size = 9 := by
     have := Lib.strCells_length (s.extract 1 s.size)
     rw [hcell9, Lib.byteCells_length, pad_length] at this
     exact this.symm
    have HC9 := hide hcell9; have HZ9 := hide hsz9
    clear hcell9 hsz9 hdq
    go_wp2_with fail
    refine (Go.Proofs.Tryz.Builder_WriteString_k w3.heap.size w3.heap.size _ _ _ (builder_below HBK.out hb7) (by rw [HZ9.out, Lib.byteCells_length]; omega) (by have := hbk.size; have := hb7.size; omega)).mono ?_
    rintro e w8 ⟨rfl, hbu8, hb8, -⟩
    rw [HC9.out, ← Lib.byteCells_append, List.append_assoc, HKE.out] at hbu8
    have hst := HST.out
    rw [Int.toNat_natCast] at hst
    rw [← hst] at hbu8
    have HB8 : Hid (Lib.IsBuilderF 165 5 w3.heap.size w3.heap.size (Lib.byteCells (sgnB true ++ Lib.decDigits (gv (gs.drop (top - (k + 1)))).toNat)) w8) := by rw [HKE2.out]; exact .inr hbu8
    have hbw8 := (hbk.trans (hb7.mono hbk.size)).trans hb8
    have hl8 : (sgnB true ++ Lib.decDigits (gv (gs.drop (top - (k + 1)))).toNat).length ≤ 1000000100 + 9 * (k + 1) := by
     rw [HKE2.out, hst, ← List.append_assoc, List.length_append, pad_length]
     rw [HKE.out] at hlk
     omega
    clear hbu8 hst hb8 hb7 HST
    go_wp2
    go_roundw
    case rel => exact ⟨k + 1, by omega, by go_num, HB8, hbw8, hl8⟩
    case measure => simp [intOf]; omega
   ·obtain rfl : k = top := by omega
    rw [Nat.sub_self] at HBK
    go_wp2_with fail
    refine (Go.Proofs.Tryz.Builder_String_any_k w3.heap.size w3.heap.size _ _ HBK.out hbk.size).mono ?_
    rintro e w8 ⟨rfl, -, hb8, -⟩
    have HF := hide (HEND.out w8 (hbk.trans hb8))
    go_wp2
    go_ret
    exact HF.out

end Go.Proofs.YtdedolkgcdlmeaaGreatDoor
