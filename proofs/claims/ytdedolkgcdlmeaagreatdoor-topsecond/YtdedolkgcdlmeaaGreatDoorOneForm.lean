/- The one form of rows: it is in the one form, generates the same, and its numbers are not too great. -/
import Derived.Test.YtdedolkgcdlmeaaGreatDoorOnes
import Derived.Test.YtdedolkgcdlmeaaGreatDoorMats
namespace Go.Proofs.YtdedolkgcdlmeaaGreatDoor
open Go.RowKit Limbs

/-- A slice whose block is new. -/
def Fresh (base : Nat) (u : Value) : Prop := ∀ a l c, u = .slice (some a) l c → base ≤ a.block

theorem Fresh.mono {base base' : Nat} {u : Value} (h : Fresh base u) (hb : base' ≤ base) : Fresh base' u := fun a l c e => Nat.le_trans hb (h a l c e)

theorem owns_fresh {W : World} {base : Nat} {e : TypeId} {size : Nat} {v : Value} {n : Nat} {xs : List Value} (h : W.ownsRow base e size v n xs) : Fresh base v := fun a l c hv => by
  rcases h.2 with ⟨rfl, -⟩ | ⟨g, cap, cur, rfl, hb, -⟩
  · cases hv
  · simp only [Value.slice.injEq, Option.some.injEq] at hv
    obtain ⟨rfl, -⟩ := hv
    exact hb

theorem one_bound {l : List (List Int)} {n nv : Nat} {R : Nat → Option (List Int)} (hp : Pos R) (hE : Ech R n n) (ha : Alikes n (RowsOf R) (InL l)) (hl : ∀ us ∈ l, us.length = n) (hb : ∀ us ∈ l, ∀ j, j < n → ab (us.getD j 0) < bp nv) {Q : Nat} (hQ : n ≤ Q ∨ l.length ≤ Q) (hn : Q ≤ 16) :
    ∀ i a r, i ≤ n → n - i ≤ a → tidyN R n i a = some r → ∀ j, j < r.length → ab (r.getD j 0) < bp (Q * nv + 2) := by
  obtain ⟨q, hq, hq2, hbd⟩ := tidy_bound hp hE ha l.length (fun k b => (l.getD k []).getD b 0) (bp nv) (by have := bp_pos nv; omega) (fun a b ha hb' => Int.le_of_lt (hb _ (getD_mem ha) b hb'))
    (fun v hv hvl => by
      obtain ⟨k, hk, e⟩ := List.getElem_of_mem hv
      exact ⟨k, hk, fun b _ => by rw [getD_row hk, e]⟩)
    (fun k hk => ⟨l.getD k [], getD_mem hk, hl _ (getD_mem hk), fun _ _ => rfl⟩)
  intro i a r hi ha' e j hj
  have e' : tidyN R n n a = some r := by rw [tidyN_stays hi (Nat.le_refl _) ha']; exact e
  have hlen := (hE.all (Nat.le_refl n) n).len a r e'
  have h1 := hbd a r e' j (by omega)
  have h2 := facP_lt (v := nv) (show q ≤ Q by omega) hn
  exact Int.lt_of_le_of_lt h1 h2

theorem tidy_none (n k : Nat) : tidyN (fun _ => none) n k = fun _ => none := by
  induction k with
  | zero => rfl
  | succ k ih =>
    show tidyAt (tidyN (fun _ => none) n k) n (n - 1 - k) = _
    rw [ih]
    funext i
    unfold tidyAt
    split <;> rfl

/-- While rows are put in: k of them are. -/
structure OneI (w wr : World) (sb n S0 : Nat) (rows : Nat → Option (List Int)) (ms : List (List Int)) (k : Nat) : Prop where
  st : StairO w wr sb n rows n (fun _ => S0)
  tid : ∃ rows0, Ech rows0 n n ∧ Pos rows0 ∧ rows = tidyN rows0 n n
  gen : Alikes n (RowsOf rows) (InL (ms.take k))

theorem OneI.ech {w wr : World} {sb n S0 : Nat} {rows : Nat → Option (List Int)} {ms : List (List Int)} {k : Nat} (h : OneI w wr sb n S0 rows ms k) : Ech rows n n := by
  obtain ⟨r0, h1, -, rfl⟩ := h.tid
  exact h1.all (Nat.le_refl n) n

theorem StairO.pos {w W : World} {sb m : Nat} {rows : Nat → Option (List Int)} {len : Nat} {ns : Nat → Nat} (h : StairO w W sb m rows len ns) (hE : Ech rows len m) : Pos rows := fun i r e => by
  obtain ⟨P, -, -, -, -, h5⟩ := h.row i (hE.lt i r e) r e
  exact h5

theorem made_one (m i : Nat) (hi : i < m) : (madeCells #[.slice none 0 0] m)[i]? = some (.slice none 0 0) := by
  simp [madeCells, hi, Nat.mod_one]

theorem StairO.made (w W : World) (hb : Below w.heap.size w W) (m len : Nat) (ns : Nat → Nat) : StairO w (W.alloc (.cells (madeCells #[.slice none 0 0] m) 72)) W.heap.size m (fun _ => none) len ns where
  lt := by simp
  low := hb.size
  below := hb.alloc hb.size _
  blk := ⟨_, _, heap_alloc_new W _⟩
  nil := fun i hi _ => by
    rw [World.cell?_alloc_new]
    exact made_one m i hi
  row := fun i hi r e => by cases e

theorem VecN.off {w : World} {v : Value} {zs : List Int} {n sb : Nat} (h : VecN w v zs n) (h0 : 0 < zs.length) (hs : w.heap.size ≤ sb) : ∀ b o l c, v = .slice (some ⟨b, o, none⟩) l c → b ≠ sb := by
  obtain ⟨ao, cap, rfl, -, h2⟩ := h
  obtain ⟨b', off, rfl, hlt, -⟩ := h2 h0
  intro b o l c e
  simp only [Value.slice.injEq, Option.some.injEq, Addr.mk.injEq, and_true] at e
  omega

theorem nbK_room {n S0 nv : Nat} (hn1 : 1 ≤ n) (hN : nbK n S0 nv n ≤ 100000) : 200001 + n * (S0 + 3) ≤ 300000 := by
  have h1 : nbK n S0 nv 1 ≤ nbK n S0 nv n := nbK_mono hn1
  have h2 : nbK n S0 nv 1 = nv + (n - 0 + 1) * (S0 + 3) := rfl
  have h3 : (n - 0 + 1) * (S0 + 3) = n * (S0 + 3) + (S0 + 3) := by rw [Nat.sub_zero, Nat.succ_mul]
  omega

theorem run_mkSt (m : Nat) (hm : m ≤ 1000) (W : World) : (Instr.makeSlice 150 (.int .i64 (m : Int)) (.int .i64 (m : Int))).run Tryz.prog W = .ok (.slice (some ⟨W.heap.size, 0, none⟩) m m) (W.alloc (.cells (madeCells #[.slice none 0 0] m) 72)) := by
  obtain ⟨i0, hi, hz0, hz1, hz2⟩ := info_parts Tryz.infoVec
  have h := run_make (P := Tryz.prog) W 150 72 i0 (.slice none 0 0) (by kernel_rfl) hi hz0 .i64 .i64 m m (by omega) (by omega) (by rw [hz2]; omega) (by omega)
  rw [hz1, Int.toNat_natCast, Nat.mul_one] at h
  exact h

set_option maxRecDepth 100000 in
set_option maxHeartbeats 1600000 in
theorem oneForm_q (w : World) (v : Value) (ms : List (List Int)) (n nv Q : Nat) (hQ : n ≤ Q ∨ ms.length ≤ Q) (hQ16 : Q ≤ 16) (hv : MatN w v ms nv) (hr : ∀ us ∈ ms, us.length = n) (hn1 : 1 ≤ n) (hn : n ≤ 16) (hm : ms.length ≤ 1000) (hN : nbK n (Q * nv + 2) nv n ≤ 100000) :
    Calls Tryz.prog 63 #[v, .int .i64 (n : Int)] w fun e w' => ∃ u hs p, e = .returned u ∧ MatN w' u hs (Q * nv + 2) ∧ hs.length ≤ n ∧ Below w.heap.size w w' ∧ FormL n hs p ∧ Alikes n (InL hs) (InL ms) ∧ Fresh w.heap.size u := by
  obtain ⟨j0, hj, hy0, hy1, hy2⟩ := info_parts Tryz.infoVec
  have HJ := hide hj; have HY0 := hide hy0; have HY1 := hide hy1; have HY2 := hide hy2
  clear hj hy0 hy1 hy2
  have HQ9 := hide hQ
  clear hQ
  have HV := hide hv; have HR := hide hr; have HN := hide hN
  have HRO := hide (nbK_room hn1 hN)
  obtain ⟨ao, cap, rfl, -, -⟩ := hv
  clear hr hN
  generalize hS0 : Q * nv + 2 = S0 at *
  have HS0 := hide hS0
  clear hS0
  have HBM : Hid (∀ us ∈ ms, ∀ j, j < n → ab (us.getD j 0) < bp nv) := fun us hus j hj => by
    obtain ⟨i, hi, e⟩ := List.getElem_of_mem hus
    obtain ⟨b, off, cap', e1, hlt, u, hc, hu⟩ := HV.out.at i hi
    rw [e] at hu
    obtain ⟨b', off', cap2, e2⟩ := hu.form (by rw [HR.out us hus]; omega)
    subst e2
    obtain ⟨-, neg, o, l, c, -, -, hz⟩ := hu.at j (by rw [HR.out us hus]; exact hj)
    exact hz.ab_lt
  have hmk := run_mkSt n (by omega)
  have HI0 : Hid (OneI w (w.alloc (.cells (madeCells #[.slice none 0 0] n) 72)) w.heap.size n S0 (fun _ => none) ms 0) := hide
    ⟨StairO.made w w (Below.refl _ _) n n _, ⟨fun _ => none, ⟨fun i r e => (by cases e), fun i r e => (by cases e), fun i r e => (by cases e)⟩, fun i r e => (by cases e), (tidy_none n n).symm⟩, .of (fun v hv _ => by obtain ⟨i, e⟩ := hv; cases e) (fun v hv _ => by rw [List.take_zero] at hv; cases hv)⟩
  go_enter Tryz.func63, Tryz.ntmps63
  go_wp2
  clear hmk
  go_loopw [13] (fun i wr => ∃ k : Nat, k ≤ ms.length ∧ i = .int .i64 k ∧ ∃ rows, Hid (OneI w wr w.heap.size n S0 rows ms k)) (fun i _ => ms.length - (intOf i).toNat)
  case atStart => exact ⟨0, Nat.zero_le _, rfl, _, HI0⟩
  case round =>
    clear HI0
    obtain ⟨k, hk, rfl, rows, HI⟩ := hrel
    by_cases hkl : k < ms.length
    · obtain ⟨b, off, _, e, hblt, u, cu0, hu⟩ := HV.out.at k hkl
      simp only [Value.slice.injEq, true_and] at e
      obtain ⟨rfl, rfl⟩ := e
      have cu : wr.cell? ⟨b, off + k, none⟩ = some u := (HI.out.st.below.cell (p := ⟨b, off + k, none⟩) hblt).trans cu0
      have hul := HR.out _ (List.getElem_mem hkl)
      have HOF := hide (hu.off (by omega) (Nat.le_refl _))
      have HU := hide (hu.below HI.out.st.below (Nat.le_refl _))
      have HTK : Hid (ms.take (k + 1) = ms.take k ++ [ms[k]]) := List.take_succ_eq_append_getElem hkl
      obtain ⟨vo, vcap, rfl, -, -⟩ := hu
      have HUL := hide hul
      clear hul
      have hvl : b < wr.heap.size := Nat.lt_of_lt_of_le hblt HI.out.st.below.size
      have HIN := hide (insert_any w wr w.heap.size n S0 nv rows _ ms[k] HI.out.st HI.out.ech HU.out HUL.out HOF.out (by omega) HN.out)
      clear cu0 HU HOF
      go_wp2_with fail
      refine HIN.out.mono ?_
      rintro e w1 ⟨rfl, R, hst, hech, hal⟩
      have hal' : Alikes n (RowsOf R) (InL (ms.take (k + 1))) := by
        rw [HTK.out]
        exact hal.trans (alikes_or HI.out.gen)
      have hpos := hst.pos hech
      have HTD := hide (tidy_any w w1 w.heap.size n n S0 200001 R hst hech (Nat.le_refl n) (by omega) HRO.out (by
        rw [← HS0.out]
        exact one_bound hpos hech hal' (fun us h => HR.out us (List.mem_of_mem_take h)) (fun us h => HBM.out us (List.mem_of_mem_take h)) (HQ9.out.imp id fun h => Nat.le_trans (by rw [List.length_take]; omega) h) hQ16))
      have HNX : Hid (∀ w2, StairO w w2 w.heap.size n (tidyN R n n) n (fun _ => S0) → OneI w w2 w.heap.size n S0 (tidyN R n n) ms (k + 1)) := fun w2 h =>
        ⟨h, ⟨R, hech, hpos, rfl⟩, (alikes_tidy hech (Nat.le_refl n) n).trans hal'⟩
      clear hst hech hal hal' hpos HIN HI cu
      go_wp2_with fail
      refine HTD.out.mono ?_
      rintro e w2 ⟨rfl, hst2⟩
      have HN2 := hide (HNX.out w2 hst2)
      clear hst2 HNX HTD
      go_wp2
      go_roundw
      case rel => exact ⟨k + 1, by omega, by go_num, _, HN2⟩
      case measure => simp [intOf]; omega
    · obtain rfl : k = ms.length := by omega
      have HFO : Hid (∃ p, FormL n (rowsL rows n) p) := by
        obtain ⟨r0, h1, h2, rfl⟩ := HI.out.tid
        exact tidy_formL h2 h1
      have HAL : Hid (Alikes n (InL (rowsL rows n)) (InL ms)) := by
        have := HI.out.gen
        rw [List.take_length] at this
        exact (alikes_rowsL HI.out.ech).trans this
      obtain ⟨wo, rfl⟩ : ∃ wo : World, wo = wr := ⟨_, rfl⟩
      go_wp2
      go_loopw [7, 26] (fun out i wr => ∃ (q : Nat) (qs : List (Value × List Int)), q ≤ n ∧ i = .int .i64 q ∧ Hid (wr.ownsRow wo.heap.size 72 1 out qs.length (qs.map (·.1))) ∧ Hid (qs.map (·.2) = rowsL rows q) ∧ Hid (∀ p ∈ qs, VecN wo p.1 p.2 S0) ∧ Hid (Below wo.heap.size wo wr)) (fun _ i _ => n - (intOf i).toNat)
      case atStart => exact ⟨0, [], Nat.zero_le _, rfl, hide (World.ownsRow_nil _ _ _ _), hide rfl, hide (fun _ h => by cases h), hide (Below.refl _ _)⟩
      case round =>
        obtain ⟨q, qs, hq, rfl, HOW, HQ, HQV, HB⟩ := hrel
        have hlo := HI.out.st.lt
        have hql2 : qs.length ≤ q := by
          have h1 := congrArg List.length HQ.out
          rw [List.length_map] at h1
          have h2 := rowsL_len rows q
          omega
        by_cases hql : q < n
        · have hlw : w.heap.size < wr.heap.size := Nat.lt_of_lt_of_le hlo HB.out.size
          cases hrq : rows q with
          | none =>
            have c0 := (HB.out.cell (p := ⟨w.heap.size, q, none⟩) hlo).trans (HI.out.st.nil q hql hrq)
            have hbo := run_nil_ne wr
            have HQ' : Hid (qs.map (·.2) = rowsL rows (q + 1)) := HQ.out.trans (rowsL_none hrq).symm
            clear hrq HQ hql2
            go_wp2
            go_roundw
            case rel => exact ⟨q + 1, qs, by omega, by go_num, HOW, HQ', HQV, HB⟩
            case measure => simp [intOf]; omega
          | some r =>
            obtain ⟨P, hc, hvO, -, -, -⟩ := HI.out.st.row q hql r hrq
            have c0 := (HB.out.cell (p := ⟨w.heap.size, q, none⟩) hlo).trans hc
            have hbo := run_some_ne wr ⟨P, 0, none⟩ r.length r.length
            have HQ' : Hid ((qs ++ [(Value.slice (some ⟨P, 0, none⟩) r.length r.length, r)]).map (·.2) = rowsL rows (q + 1)) := by
              show _ = _
              rw [List.map_append, HQ.out, rowsL_some hrq]; rfl
            have HQV' : Hid (∀ p ∈ qs ++ [(Value.slice (some ⟨P, 0, none⟩) r.length r.length, r)], VecN wo p.1 p.2 S0) := fun p hp => by
              rcases List.mem_append.1 hp with h | h
              · exact HQV.out p h
              · rw [List.mem_singleton] at h
                rw [h]
                exact hvO.vec
            have hown := HOW.out
            have hbs := HB.out.size
            have hj := HJ.out; have hy0 := HY0.out; have hy1 := HY1.out; have hy2 := HY2.out
            clear hrq HQ hc hvO HQV
            go_wp2_with (at_builtin; refine wpList_append_lies _ rfl _ _ 23 rfl wo.heap.size 72 j0 (.slice none 0 0) 1 24 (by kernel_rfl) hj hy0 hy1 hy2 rfl (by decide) u7 qs.length (qs.map (·.1)) rfl (hown.alloc _) ⟨wr.heap.size, 0, none⟩ 1 1 [.slice (some ⟨P, 0, none⟩) r.length r.length] rfl rfl (World.news_of_block (heap_alloc_new wr _)) (fun u hu => by rw [List.mem_singleton] at hu; rw [hu]; rfl) (by decide) (by unfold maxLen; omega) (by omega) (by simp; omega) (wr.heap.size + 1) (by simp) ?_)
            intro g cap' w5 hown5 hgrow5 hat5 hlt5
            have HOW5 : Hid (w5.ownsRow wo.heap.size 72 1 (.slice (some ⟨g, 0, none⟩) (qs.length + 1) cap') (qs ++ [(Value.slice (some ⟨P, 0, none⟩) r.length r.length, r)]).length ((qs ++ [(Value.slice (some ⟨P, 0, none⟩) r.length r.length, r)]).map (·.1))) := by
              show World.ownsRow ..
              rw [List.length_append, List.length_singleton, List.map_append]
              exact hown5
            have HB5 := hide (HB.out.trans (owns_below hown HB.out.size hgrow5))
            clear hown hown5 hgrow5 hat5 hlt5 hj hy0 hy1 hy2 HOW HB c0 hbo
            go_wp2
            go_roundw
            case rel => exact ⟨q + 1, _, by omega, by go_num, HOW5, HQ', HQV', HB5⟩
            case measure => simp [intOf]; omega
        · obtain rfl : q = n := by omega
          have HF : Hid (MatN wr u7 (rowsL rows q) S0) := by
            have := matN_of_owns HOW.out (fun p hp => (HQV.out p hp).below HB.out (Nat.le_refl _))
            rw [HQ.out] at this
            exact this
          have HBB := hide (HI.out.st.below.trans (HB.out.mono HI.out.st.below.size))
          have HFR := hide ((owns_fresh HOW.out).mono HI.out.st.below.size)
          clear HOW HQ HQV HB HI
          go_wp2
          go_ret
          obtain ⟨p, hp⟩ := HFO.out
          exact ⟨_, _, p, rfl, HF.out, rowsL_len _ _, HBB.out, hp, HAL.out, HFR.out⟩

theorem oneForm_new (w : World) (v : Value) (ms : List (List Int)) (n nv : Nat) (hv : MatN w v ms nv) (hr : ∀ us ∈ ms, us.length = n) (hn1 : 1 ≤ n) (hn : n ≤ 16) (hm : ms.length ≤ 1000) (hN : nbK n (n * nv + 2) nv n ≤ 100000) :
    Calls Tryz.prog 63 #[v, .int .i64 (n : Int)] w fun e w' => ∃ u hs p, e = .returned u ∧ MatN w' u hs (n * nv + 2) ∧ hs.length ≤ n ∧ Below w.heap.size w w' ∧ FormL n hs p ∧ Alikes n (InL hs) (InL ms) ∧ Fresh w.heap.size u :=
  oneForm_q w v ms n nv n (.inl (Nat.le_refl _)) hn hv hr hn1 hn hm hN

theorem oneForm_any (w : World) (v : Value) (ms : List (List Int)) (n nv : Nat) (hv : MatN w v ms nv) (hr : ∀ us ∈ ms, us.length = n) (hn1 : 1 ≤ n) (hn : n ≤ 16) (hm : ms.length ≤ 1000) (hN : nbK n (n * nv + 2) nv n ≤ 100000) :
    Calls Tryz.prog 63 #[v, .int .i64 (n : Int)] w fun e w' => ∃ u hs p, e = .returned u ∧ MatN w' u hs (n * nv + 2) ∧ hs.length ≤ n ∧ Below w.heap.size w w' ∧ FormL n hs p ∧ Alikes n (InL hs) (InL ms) :=
  (oneForm_new w v ms n nv hv hr hn1 hn hm hN).mono fun _ _ ⟨u, hs, p, h1, h2, h3, h4, h5, h6, _⟩ => ⟨u, hs, p, h1, h2, h3, h4, h5, h6⟩

end Go.Proofs.YtdedolkgcdlmeaaGreatDoor
