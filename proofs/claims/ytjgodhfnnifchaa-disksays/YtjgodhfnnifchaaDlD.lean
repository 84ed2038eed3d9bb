/- The other disk: all is kept. -/
import Derived.Test.YtjgodhfnnifchaaDlC
namespace Go.Proofs.Ytjgodhfnnifchaa
open Go.RowKit

theorem heads {W : World} {base B : Nat} {R : RD} {kv nv wv : Value} (h : RefM W base B R kv nv wv) {W' : World} (hg : W.grownBy W' none) : W'.heap[B]? = some (.cells #[kv, nv, wv, .int .i64 R.fuse, .bool R.down] 53 (0, 0)) :=
  (hg.block B (heap_lt h.head) (fun e => by cases e)).trans h.head

theorem grown_keptR {base : Nat} {W W' : World} (hg : W.grownBy W' none) : KeptR base W W' :=
  ⟨hg.os, hg.tape, hg.output, hg.size, fun b hlt _ => hg.block b hlt (fun e => by cases e)⟩

/-- What is kept is laid anew. -/
theorem RefM.newK {W W' : World} {base B : Nat} {R : RD} {kv nv wv : Value} (h : RefM W base B R kv nv wv) (kv' : Value) (l : List (List UInt8)) (hg : W.grownBy W' none) (ho : W'.ownsRow base 9 1 kv' l.length (l.map strC)) (ha : ∀ b, kv'.ownBlock = some b → W.heap.size ≤ b) : RefM (W'.setCell ⟨B, 0, none⟩ kv') base B { R with kept := l } kv' nv wv ∧ KeptR base W (W'.setCell ⟨B, 0, none⟩ kv') := by
  have hh := heads h hg
  have none' : ∀ {v : Value} (b : Nat), v.ownBlock = some b → some b ≠ (none : Option Nat) := fun b _ e => by cases e
  refine ⟨⟨h.low, ?_, ownsOther ho hh (by decide) _ _, ownsOther (ownsGrown h.ownN hg none') hh (by decide) _ _, ownsOther (ownsGrown h.ownW hg none') hh (by decide) _ _, fun b hb hb2 => ?_, h.fuse⟩, (grown_keptR hg).trans (KeptR.set h.low hh (.inl rfl) 0 _)⟩
  · rw [heap_setCell_same W' _ 0 _ _ _ hh]; rfl
  · have := ha b hb
    have := (h.ownN.lt b hb2).2
    omega

/-- What is now is laid anew. -/
theorem RefM.newN {W W' : World} {base B : Nat} {R : RD} {kv nv wv : Value} (h : RefM W base B R kv nv wv) (nv' : Value) (l : List (List UInt8)) (hg : W.grownBy W' none) (ho : W'.ownsRow base 9 1 nv' l.length (l.map strC)) (ha : ∀ b, nv'.ownBlock = some b → W.heap.size ≤ b) : RefM (W'.setCell ⟨B, 1, none⟩ nv') base B { R with now := l } kv nv' wv ∧ KeptR base W (W'.setCell ⟨B, 1, none⟩ nv') := by
  have hh := heads h hg
  have none' : ∀ {v : Value} (b : Nat), v.ownBlock = some b → some b ≠ (none : Option Nat) := fun b _ e => by cases e
  refine ⟨⟨h.low, ?_, ownsOther (ownsGrown h.ownK hg none') hh (by decide) _ _, ownsOther ho hh (by decide) _ _, ownsOther (ownsGrown h.ownW hg none') hh (by decide) _ _, fun b hb hb2 => ?_, h.fuse⟩, (grown_keptR hg).trans (KeptR.set h.low hh (.inl rfl) 1 _)⟩
  · rw [heap_setCell_same W' _ 1 _ _ _ hh]; rfl
  · have := ha b hb2
    have := (h.ownK.lt b hb).2
    omega

/-- Nothing waits. -/
theorem RefM.noW {W : World} {base B : Nat} {R : RD} {kv nv wv : Value} (h : RefM W base B R kv nv wv) : RefM (W.setCell ⟨B, 2, none⟩ (.slice none 0 0)) base B { R with wait := [] } kv nv (.slice none 0 0) ∧ KeptR base W (W.setCell ⟨B, 2, none⟩ (.slice none 0 0)) := by
  refine ⟨⟨h.low, ?_, ownsOther h.ownK h.head (by decide) _ _, ownsOther h.ownN h.head (by decide) _ _, World.ownsRow_nil _ _ _ _, h.apart, h.fuse⟩, KeptR.set h.low h.head (.inl rfl) 2 _⟩
  rw [heap_setCell_same W _ 2 _ _ _ h.head]; rfl

set_option linter.unusedSimpArgs false in
set_option maxRecDepth 100000 in
set_option maxHeartbeats 1600000 in
theorem flushR_down (w : World) (base B : Nat) (R : RD) (h : RefO w base B R) (hst : R.steps = false) :
    Calls Try.prog 18 #[.pointer (some ⟨B, 0, none⟩)] w fun e w' => e = .returned (.int .i64 9) ∧ RefO w' base B R.stepped ∧ KeptR base w w' := by
  have H := hide h
  clear h
  go_enter Try.func18, Try.ntmps18
  go_wp2_with fail
  refine (step_ref w base B R H.out).mono ?_
  rintro e w1 ⟨rfl, h1, hk1⟩
  have e : stepF R = 9 := by unfold stepF; rw [hst]; rfl
  rw [e]
  have HD := hide h1; have HK := hide hk1
  clear e H h1 hk1
  go_wp2
  go_ret
  exact ⟨rfl, HD.out, HK.out⟩

set_option linter.unusedSimpArgs false in
set_option maxRecDepth 100000 in
set_option maxHeartbeats 1600000 in
theorem flushR_ok (w : World) (base B : Nat) (R : RD) (h : RefO w base B R) (hst : R.steps = true) (hn1 : 1 ≤ R.now.length) (hn2 : R.now.length ≤ 200) (hbase : base ≤ w.heap.size) :
    Calls Try.prog 18 #[.pointer (some ⟨B, 0, none⟩)] w fun e w' => e = .returned (.int .i64 0) ∧ RefO w' base B R.stepped.flushed ∧ KeptR base w w' := by
  have H := hide h
  clear h
  have hn := (stepR_same R).2.1
  generalize hR : R.stepped = R1 at *
  rw [← hn] at hn1 hn2
  have HR := hide hR
  clear hR hn
  obtain ⟨i0, hi0, hz0, hz1, hz2⟩ := info_parts Try.infoStr
  go_enter Try.func18, Try.ntmps18
  go_wp2_with fail
  refine (step_ref w base B R H.out).mono ?_
  rintro e w1 ⟨rfl, h1, hk1⟩
  have e : stepF R = 0 := by unfold stepF; rw [if_pos hst]
  rw [e]
  have HK := hide hk1
  rw [HR.out] at h1
  obtain ⟨kv, nv, wv, hm⟩ := h1
  have HM := hide hm
  obtain ⟨so, cap, rfl, hcap, hcell⟩ := hm.shapeN
  obtain ⟨g, rfl, -⟩ := hcell 0 _ (List.getElem?_eq_getElem (by omega))
  obtain ⟨c0, c1, c2, -, -, hf⟩ := hm.cells
  have f0 := hf 0
  have f2 := hf 2
  have hls : base ≤ w1.heap.size := Nat.le_trans hbase HK.out.size
  have HNEW : Hid (∀ k u, (R1.now.map strC)[k]? = some u → w1.cell? ((⟨g, 0, none⟩ : Addr).add k) = some u) := fun k u hu => by
    rw [add_addr, Nat.zero_add]
    exact owns_cell hm.ownN k u hu
  have HONE : Hid (∀ u ∈ R1.now.map strC, u.oneCell' = true) := fun u hu => by
    obtain ⟨l, -, rfl⟩ := List.mem_map.1 hu
    rfl
  have HOWN : Hid (w1.ownsRow base 9 1 (.slice none 0 0) 0 []) := World.ownsRow_nil _ _ _ _
  clear e H hm hk1 hf hcell
  go_wp2_with (show wpList _ _ _ ({ dst := some 14, op := _, type := _, pos := _, after := _, guard := _ } :: _) _ _; refine wpList_append_lies _ rfl (.const (.slice none 0 0)) (.tmp 13) 50 rfl base 9 i0 (.string ⟨#[]⟩) 1 16 (by kernel_rfl) hi0 hz0 hz1 hz2 rfl (by decide) (.slice none 0 0) 0 [] rfl HOWN.out ⟨g, 0, none⟩ R1.now.length cap (R1.now.map strC) rfl (by simp) HNEW.out HONE.out (by omega) (by unfold maxLen; omega) (by omega) hls w1.heap.size rfl ?_)
  intro g5 cap5 w5 hown5 hgrow5 hat5 hlt5
  have HO5 := hide hown5
  have HG5 := hide hgrow5
  have HA5 := hide hat5
  clear hown5 hgrow5 hat5 hlt5
  have hown := HO5.out
  obtain ⟨hm6, hk6⟩ := HM.out.newK (.slice (some ⟨g5, 0, none⟩) R1.now.length cap5) R1.now HG5.out hown (fun b hb => by
    simp only [Value.ownBlock, Option.some.injEq] at hb
    subst hb
    rcases HA5.out with h | h
    · cases h
    · exact Nat.le_of_eq h.symm)
  obtain ⟨hm7, hk7⟩ := hm6.noW
  have HM7 := hide hm7
  have HK7 := hide ((HK.out.trans hk6).trans hk7)
  have hh := heads HM.out HG5.out
  have d0 : w5.cell? ⟨B, 0, none⟩ = some kv := by rw [cell_of_row w5 _ 0 _ _ _ hh]; rfl
  have k0 : w5.frozen? ⟨B, 0, none⟩ = false := by simp [World.frozen?, hh]
  have d2 := hm6.cells.2.2.1
  have k2 := hm6.cells.2.2.2.2.2 2
  clear hown hm6 hk6 hm7 hk7 hh HO5 HG5 HA5 HOWN HONE HNEW HM HK c0 c1 c2 f0 f2
  go_wp2
  go_ret
  exact ⟨rfl, ⟨_, _, _, HM7.out⟩, HK7.out⟩

/-- What Flush leaves. -/
def RD.flush (R : RD) : RD := if R.steps = true then R.stepped.flushed else R.stepped

theorem flush_ref (w : World) (base B : Nat) (R : RD) (h : RefO w base B R) (h1 : 1 ≤ R.now.length) (h2 : R.now.length ≤ 200) (hbase : base ≤ w.heap.size) :
    Calls Try.prog 18 #[.pointer (some ⟨B, 0, none⟩)] w fun e w' => e = .returned (.int .i64 (stepF R)) ∧ RefO w' base B R.flush ∧ KeptR base w w' := by
  unfold RD.flush stepF
  by_cases hs : R.steps = true
  · rw [if_pos hs, if_pos hs]
    exact flushR_ok w base B R h hs h1 h2 hbase
  · rw [if_neg hs, if_neg hs]
    exact flushR_down w base B R h (by simpa using hs)

theorem Tied.flush {D : Dsk} {R : RD} {m k : Nat} (h : Tied D R) (hw : Well D m k) : Tied (flushD D) R.flush ∧ ErrN (stepErr D) (stepF R) := by
  unfold flushD RD.flush stepErr stepF
  rw [h.steps]
  by_cases hs : D.steps = true
  · rw [if_pos hs, if_pos hs, if_pos hs, if_pos hs]
    exact ⟨h.stepped.flushed hw.stepped, .inl ⟨rfl, rfl⟩⟩
  · rw [if_neg hs, if_neg hs, if_neg hs, if_neg hs]
    exact ⟨h.stepped, .inr ⟨rfl, by decide⟩⟩

end Go.Proofs.Ytjgodhfnnifchaa
