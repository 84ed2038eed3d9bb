/- The other disk: a write. -/
import Derived.Test.YtjgodhfnnifchaaDlA
import Derived.Laws.Concat
namespace Go.Proofs.Ytjgodhfnnifchaa
open Go.RowKit

/-- What Write answers, and what it leaves. -/
def RD.putF (R : RD) (at' : Int) (t : ByteArray) : Int := if 0 ≤ at' ∧ at' < R.now.length then (if t.size ≤ 64 then stepF R else 6) else 1

def RD.put (R : RD) (at' : Int) (t : ByteArray) : RD := if (0 ≤ at' ∧ at' < R.now.length) ∧ t.size ≤ 64 then (if R.steps = true then R.stepped.over at'.toNat t.data.toList else R.stepped) else R

theorem Tied.put {D : Dsk} {R : RD} (h : Tied D R) (at' : Int) (t : ByteArray) : Tied (putD D at' t) (R.put at' t) ∧ ErrN (putErr D at' t) (R.putF at' t) := by
  unfold putD RD.put putErr RD.putF
  rw [h.lenN]
  constructor
  · by_cases hc : (0 ≤ at' ∧ at' < D.secs.length) ∧ t.size ≤ 64
    · rw [if_pos hc, if_pos hc, h.steps]
      by_cases hs : D.steps = true
      · rw [if_pos hs, if_pos hs]
        have hlt : at'.toNat < D.secs.length := by omega
        refine h.stepped.over _ _ ?_ _
        rw [stepped_secs, List.getD_eq_getElem?_getD, List.getElem?_eq_getElem hlt]
        rfl
      · rw [if_neg hs, if_neg hs]
        exact h.stepped
    · rw [if_neg hc, if_neg hc]
      exact h
  · by_cases hb : 0 ≤ at' ∧ at' < D.secs.length
    · rw [if_pos hb, if_pos hb]
      by_cases hs : t.size ≤ 64
      · rw [if_pos hs, if_pos hs]
        unfold stepErr stepF
        rw [h.steps]
        split
        · exact .inl ⟨rfl, rfl⟩
        · exact .inr ⟨rfl, by decide⟩
      · rw [if_neg hs, if_neg hs]
        exact .inr ⟨rfl, by decide⟩
    · rw [if_neg hb, if_neg hb]
      exact .inr ⟨rfl, by decide⟩

theorem stepR_same (R : RD) : R.stepped.kept = R.kept ∧ R.stepped.now = R.now ∧ R.stepped.wait = R.wait := by
  unfold RD.stepped
  split
  · exact ⟨rfl, rfl, rfl⟩
  · split
    · exact ⟨rfl, rfl, rfl⟩
    · split <;> exact ⟨rfl, rfl, rfl⟩

theorem RefM.setNow {W : World} {base B g cap : Nat} {R : RD} {kv wv : Value} (h : RefM W base B R kv (.slice (some ⟨g, 0, none⟩) R.now.length cap) wv) (i : Nat) (l : List UInt8) : RefM (W.setCell ⟨g, i, none⟩ (strC l)) base B { R with now := R.now.set i l } kv (.slice (some ⟨g, 0, none⟩) R.now.length cap) wv ∧ KeptR base W (W.setCell ⟨g, i, none⟩ (strC l)) := by
  obtain ⟨cur, hbg, hh⟩ : ∃ cur, base ≤ g ∧ W.heap[g]? = some (.cells cur 9 (0, 0)) := by
    rcases h.ownN.2 with ⟨e, -⟩ | ⟨g', cap', cur, e, hb, hh, -⟩
    · cases e
    · cases e; exact ⟨cur, hb, hh⟩
  have hBg : B ≠ g := fun e => by
    have := h.head
    rw [e, hh] at this
    simp only [Option.some.injEq, Obj.cells.injEq] at this
    exact absurd this.2.1 (by decide)
  refine ⟨⟨h.low, (heap_setCell_other _ _ _ _ (fun e => hBg e)).trans h.head, ?_, ?_, ownsOther h.ownW hh (by decide) _ _, h.apart, h.fuse⟩, KeptR.set hbg hh (.inr (.inl rfl)) i _⟩
  · refine ⟨h.ownK.1, ?_⟩
    rcases h.ownK.2 with hn | ⟨k, cap', cur', rfl, hbk, hk, rest⟩
    · exact .inl hn
    · exact .inr ⟨k, cap', cur', rfl, hbk, (heap_setCell_other W ⟨g, i, none⟩ k (strC l) (fun e => h.apart k rfl (congrArg some (Eq.symm e)))).trans hk, rest⟩
  · have := ownsSet h.ownN i (strC l)
    rw [← List.map_set] at this
    simpa using this

theorem pad_noughts (t : ByteArray) : t ++ { data := (noughtB (64 - t.size)).toArray } = { data := (padded t.data.toList).toArray } := by
  have hl : t.data.toList.length = t.size := (Lib.size_eq t).symm
  apply ByteArray.ext
  unfold padded
  rw [hl]
  simp

theorem Try.infoTurn : (Try.prog.info? 84).map (fun i => (i.zero, i.size, i.bytes)) = some (some (.agg #[.int .i64 0, .string ⟨#[]⟩]), 2, 24) := by kernel_rfl

theorem run_build_turn (w : World) (i : Int) (s : ByteArray) : (Instr.build 84 #[(0, .int .i64 i), (1, .string s)]).run Try.prog w = .ok (.agg #[.int .i64 i, .string s]) w := by kernel_rfl

/-- A turn is put to what waits. -/
theorem RefM.growW {W W' : World} {base B : Nat} {R : RD} {kv nv wv : Value} (h : RefM W base B R kv nv wv) (x : Nat × List UInt8) (wv' : Value) (hg : W.grownBy W' wv.ownBlock) (ho : W'.ownsRow base 84 2 wv' (R.wait.length + 1) (R.wait.flatMap turnC ++ turnC x)) : RefM (W'.setCell ⟨B, 2, none⟩ wv') base B { R with wait := R.wait ++ [x] } kv nv wv' ∧ KeptR base W (W'.setCell ⟨B, 2, none⟩ wv') ∧ W'.cell? ⟨B, 2, none⟩ = some wv ∧ W'.frozen? ⟨B, 2, none⟩ = false := by
  have hh := (hg.block B (heap_lt h.head) (awayRow h.head (by decide) h.ownW)).trans h.head
  have other : ∀ {v : Value} {n : Nat} {xs : List Value}, W.ownsRow base 9 1 v n xs → W'.ownsRow base 9 1 v n xs := fun hv => ownsStay hv (fun b cs fz hb => hg.block b (heap_lt hb) (fun e => by
    rcases h.ownW.2 with ⟨e', -⟩ | ⟨g, cap, cur, e', -, hw, -⟩
    · rw [e'] at e; cases e
    · rw [e'] at e
      simp only [Value.ownBlock, Option.some.injEq] at e
      subst e
      rw [hb] at hw
      simp only [Option.some.injEq, Obj.cells.injEq] at hw
      exact absurd hw.2.1 (by decide)))
  refine ⟨⟨h.low, ?_, ownsOther (other h.ownK) hh (by decide) _ _, ownsOther (other h.ownN) hh (by decide) _ _, ?_, h.apart, h.fuse⟩, ?_, ?_, by simp [World.frozen?, hh]⟩
  · rw [heap_setCell_same W' _ 2 _ _ _ hh]; rfl
  · have := ownsOther ho hh (by decide) 2 wv'
    simpa [List.flatMap_append] using this
  · refine KeptR.trans (b := W') ⟨hg.os, hg.tape, hg.output, hg.size, fun b hlt ho => hg.block b hlt (fun e => ?_)⟩ (KeptR.set h.low hh (.inl rfl) 2 _)
    rcases h.ownW.2 with ⟨e', -⟩ | ⟨g, cap, cur, e', hbg, hw, -⟩
    · rw [e'] at e; cases e
    · rw [e'] at e
      simp only [Value.ownBlock, Option.some.injEq] at e
      subst e
      rcases ho with ho | ho
      · omega
      · exact ho _ _ _ hw (.inr (.inr rfl))
  · rw [cell_of_row W' _ 2 _ _ _ hh]; rfl

theorem add_noughts (t : ByteArray) (ht : t.size ≤ 64) (w : World) : (binOp .add 9 (.string t) (strC (noughtB (64 - t.size)))).run Try.prog w = .ok (strC (padded t.data.toList)) w := by
  rw [binOp_string_add, run_string_add _ t ⟨(noughtB (64 - t.size)).toArray⟩ (by omega) (by show ((noughtB (64 - t.size)).toArray.size : Int) ≤ _; simp [noughtB]; omega)]
  rw [pad_noughts t]

set_option linter.unusedSimpArgs false in
set_option maxRecDepth 100000 in
set_option maxHeartbeats 1600000 in
theorem writeR_ok (w : World) (base B : Nat) (R : RD) (i : Nat) (t : ByteArray) (h : RefO w base B R) (hi : i < R.now.length) (ht : t.size ≤ 64) (hst : R.steps = true) (hw : R.wait.length ≤ 1000000) (hbase : base ≤ w.heap.size) :
    Calls Try.prog 14 #[.pointer (some ⟨B, 0, none⟩), .int .i64 (i : Int), .string t] w fun e w' => e = .returned (.int .i64 0) ∧ RefO w' base B (R.stepped.over i t.data.toList) ∧ KeptR base w w' := by
  have H := hide h
  obtain ⟨kv, nv, wv, h⟩ := h
  obtain ⟨so, cap, rfl, hcap, -⟩ := h.shapeN
  obtain ⟨-, c1, -, -, c4, -⟩ := h.cells
  clear h
  have g0 : decide ((i : Int) < 0) = false := decide_eq_false (by omega)
  have g1 : decide ((R.now.length : Int) ≤ (i : Int)) = false := decide_eq_false (by omega)
  have g2 : decide (64 < (t.size : Int)) = false := decide_eq_false (by omega)
  go_enter Try.func14, Try.ntmps14
  go_wp2_with fail
  refine (step_ref w base B R H.out).mono ?_
  rintro e w1 ⟨rfl, h1, hk1⟩
  have e : stepF R = 0 := by unfold stepF; rw [if_pos hst]
  rw [e]
  clear e c1 c4 H g0 g1 g2
  obtain ⟨e1, e2, e3⟩ := stepR_same R
  have HK := hide hk1
  obtain ⟨kv1, nv1, wv1, h1⟩ := h1
  have HM := hide h1
  obtain ⟨so1, cap1, rfl, hcap1, hc1⟩ := h1.shapeN
  obtain ⟨g, rfl, -⟩ := hc1 i _ (List.getElem?_eq_getElem (by rw [e2]; exact hi))
  clear hc1
  rw [e2] at hcap1
  obtain ⟨-, c1, c2, -, -, hf⟩ := h1.cells
  rw [e2] at c1
  clear h1 hk1
  have hn : (64 : Int) - (t.size : Int) = ((64 - t.size : Nat) : Int) := by omega
  go_wp2_with fail
  refine (noughts_ok w1 (64 - t.size) (by omega)).mono ?_
  rintro e w2 ⟨rfl, hb2⟩
  have HM2 := hide (HM.out.later hb2)
  have HK2 := hide (HK.out.trans (KeptR.of_below hb2))
  clear HM HK hb2 c1 c2 hf
  obtain ⟨-, c1, c2, -, -, hf⟩ := HM2.out.cells
  rw [e2] at c1
  have f2 := hf 2
  have hpad := pad_noughts t
  have hov : ¬ (9223372036854775807 < t.size + (noughtB (64 - t.size)).length) := by simp [noughtB]; omega
  have cg := owns_cell HM2.out.ownN i (strC (R.now[i])) (by rw [List.getElem?_map, e2, List.getElem?_eq_getElem hi]; rfl)
  have fg := owns_thaw HM2.out.ownN i
  obtain ⟨hm3, hk3⟩ := HM2.out.setNow i (padded t.data.toList)
  have HM3 := hide hm3; have HK3 := hide (HK2.out.trans hk3)
  have HK3S : w.heap.size ≤ w2.heap.size := by have := HK2.out.size; exact this
  clear hm3 hk3 HM2 HK2
  have hls : w2.heap.size = (w2.setCell ⟨g, i, none⟩ (strC (padded t.data.toList))).heap.size := by simp
  obtain ⟨i0, hi0, hz0, hz1, hz2⟩ := info_parts Try.infoTurn
  have c3 : (w2.setCell ⟨g, i, none⟩ (.string ⟨(padded t.data.toList).toArray⟩)).cell? ⟨B, 2, none⟩ = some wv1 := HM3.out.cells.2.2.1
  have hb3 : base ≤ w2.heap.size := Nat.le_trans hbase HK3S
  have HX := hide (HM3.out.later ((Below.refl _ _).alloc (Nat.le_refl _) (.cells (turnC (i, padded t.data.toList)).toArray 84)))
  have HBS := hide (run_buildSliceA (P := Try.prog) (w2.setCell ⟨g, i, none⟩ (.string ⟨(padded t.data.toList).toArray⟩)) 51 84 i0 (.agg #[.int .i64 0, .string ⟨#[]⟩]) (turnC (i, padded t.data.toList)) (by kernel_rfl) hi0 hz0 (by rw [hz1]; rfl) rfl (by simp [turnC]) (by simp [turnC]))
  have HNEW : Hid (∀ k u, (turnC (i, padded t.data.toList))[k]? = some u → ((w2.setCell ⟨g, i, none⟩ (.string ⟨(padded t.data.toList).toArray⟩)).alloc (.cells (turnC (i, padded t.data.toList)).toArray 84)).cell? ((⟨w2.heap.size, 0, none⟩ : Addr).add k) = some u) := by
    have := World.news_of_block (heap_alloc_new (w2.setCell ⟨g, i, none⟩ (.string ⟨(padded t.data.toList).toArray⟩)) (.cells (turnC (i, padded t.data.toList)).toArray 84))
    rw [← hls] at this
    exact this
  have HOWN : Hid (((w2.setCell ⟨g, i, none⟩ (.string ⟨(padded t.data.toList).toArray⟩)).alloc (.cells (turnC (i, padded t.data.toList)).toArray 84)).ownsRow base 84 2 wv1 R.stepped.wait.length (R.stepped.wait.flatMap turnC)) := HX.out.ownW
  have hwl : R.stepped.wait.length ≤ 1000000 := by rw [e3]; exact hw
  clear e3 e1
  have hba : base ≤ ((w2.setCell ⟨g, i, none⟩ (.string ⟨(padded t.data.toList).toArray⟩)).alloc (.cells (turnC (i, padded t.data.toList)).toArray 84)).heap.size := by simp; omega
  go_wp2_with (show wpList _ _ _ ({ dst := some 48, op := _, type := _, pos := _, after := _, guard := _ } :: _) _ _; refine wpList_buildSliceA rfl 48 rfl 51 (.tmp 47) rfl _ _ _ rfl HBS.out ?_; refine wpList_append_lies _ rfl (.tmp 44) (.tmp 48) 51 rfl base 84 i0 (.agg #[.int .i64 0, .string ⟨#[]⟩]) 2 24 (by kernel_rfl) hi0 hz0 hz1 hz2 rfl (by decide) wv1 R.stepped.wait.length (R.stepped.wait.flatMap turnC) rfl HOWN.out ⟨w2.heap.size, 0, none⟩ 1 1 (turnC (i, padded t.data.toList)) (by rw [hls]; rfl) rfl HNEW.out (by simp [turnC, Value.oneCell']) (by decide) (by unfold maxLen; omega) (by omega) hba (w2.heap.size + 1) (by simp) ?_; intro g5 cap5 w5 hown5 hgrow5 hat5 hlt5; obtain ⟨hm5, hk5, d2, d3⟩ := HX.out.growW (i, padded t.data.toList) (.slice (some ⟨g5, 0, none⟩) (R.stepped.wait.length + 1) cap5) hgrow5 hown5; have HM5 := hide hm5; have HK5 := hide ((HK3.out.trans (KeptR.of_below ((Below.refl _ _).alloc (Nat.le_refl _) (.cells (turnC (i, padded t.data.toList)).toArray 84)))).trans hk5); clear hm5 hk5 hown5 hgrow5 hat5 hlt5; simp only [Act.put, List.setIfInBounds_toArray, List.set_cons_zero, List.set_cons_succ])
  clear HX HBS HNEW HOWN hba c1 c2 c3 cg fg hf f2
  go_wp2
  go_ret
  exact ⟨rfl, ⟨_, _, _, HM5.out⟩, HK5.out⟩

end Go.Proofs.Ytjgodhfnnifchaa
