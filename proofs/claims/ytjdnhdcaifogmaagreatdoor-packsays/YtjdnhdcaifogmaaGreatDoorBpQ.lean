/- pack.withGen: a generator more, of its text. -/
import Derived.Test.YtjdnhdcaifogmaaGreatDoorBpC
import Derived.Test.YtjdnhdcaifogmaaGreatDoorBpD
import Derived.Lib.SmallJoins

namespace Go.Proofs.YtjdnhdcaifogmaaGreatDoor
open Go.RowKit

def MaxL (w : World) : Prop := ∃ m, w.cell? ⟨0, 0, none⟩ = some (.int .i64 m) ∧ 0 < w.heap.size

theorem MaxL.below {w w' : World} (h : MaxL w) (hb : Below w.heap.size w w') : MaxL w' := by
 obtain ⟨m, h1, h2⟩ := h
 exact ⟨m, (hb.cell (p := ⟨0, 0, none⟩) h2).trans h1, Nat.lt_of_lt_of_le h2 hb.size⟩

theorem run_mkIP (m : Nat) (hm : m ≤ 1000) (W : World) : (Instr.makeSlice 44 (.int .i64 (m : Int)) (.int .i64 (m : Int))).run Tryz.prog W = .ok (.slice (some ⟨W.heap.size, 0, none⟩) m m) (W.alloc (.cells (madeCells #[.int .i64 0] m) 3)) := by
 obtain ⟨i0, hi, hz0, hz1, hz2⟩ := info_got Tryz.infoIntP
 have h := run_make (P := Tryz.prog) W 44 3 i0 (.int .i64 0) (by kernel_rfl) hi hz0 .i64 .i64 m m (by omega) (by omega) (by rw [hz2]; omega) (by omega)
 rw [hz1, Int.toNat_natCast, Nat.mul_one] at h
 exact h

def FillI (base : Nat) (W : World) (P : Nat) (g : List Int) (k : Nat) : Prop :=
 W.ownsRow base 3 1 (.slice (some ⟨P, 0, none⟩) g.length g.length) g.length ((g.take k).map (Value.int .i64) ++ List.replicate (g.length - k) (.int .i64 0))

theorem FillI.start (W : World) (g : List Int) (hn : g.length ≤ 1000) : FillI W.heap.size (W.alloc (.cells (madeCells #[.int .i64 0] g.length) 3)) W.heap.size g 0 := by
 refine ⟨by simp, .inr ⟨W.heap.size, g.length, _, rfl, Nat.le_refl _, heap_alloc_new W _, Nat.le_refl _, by unfold maxLen; omega, by rw [size_madeCells, Nat.mul_one], ?_⟩⟩
 rw [toList_madeCells_one]; simp

theorem FillI.cell {base : Nat} {W : World} {P : Nat} {g : List Int} {k : Nat} (h : FillI base W P g k) (hk : k < g.length) : W.cell? ⟨P, k, none⟩ = some (.int .i64 0) ∧ W.frozen? ⟨P, k, none⟩ = false := by
 obtain ⟨gg, cap, e, -, hc⟩ := own_at h (by omega)
 simp only [Value.slice.injEq, Option.some.injEq, Addr.mk.injEq, and_true, true_and] at e
 obtain ⟨rfl, rfl⟩ := e
 refine ⟨hc k _ ?_, own_free h k⟩
 have hl : ((g.take k).map (Value.int .i64)).length = k := by rw [List.length_map, List.length_take]; omega
 rw [List.getElem?_append_right (by omega), hl, Nat.sub_self, List.getElem?_replicate, if_pos (by omega)]

theorem FillI.put {base : Nat} {W : World} {P : Nat} {g : List Int} {k : Nat} (h : FillI base W P g k) (hk : k < g.length) : FillI base (W.setCell ⟨P, k, none⟩ (.int .i64 (g.getD k 0))) P g (k + 1) := by
 have hl : ((g.take k).map (Value.int .i64)).length = k := by rw [List.length_map, List.length_take]; omega
 have := own_set h k (.int .i64 (g.getD k 0))
 rw [List.set_append_right _ _ (by omega), hl, Nat.sub_self, show g.length - k = (g.length - (k + 1)) + 1 by omega, List.replicate_succ, List.set_cons_zero] at this
 unfold FillI
 rw [List.take_succ_eq_append_getElem hk, List.map_append, List.append_assoc, ← getD_at hk]
 exact this

theorem FillI.row {base : Nat} {W : World} {P : Nat} {g : List Int} (h : FillI base W P g g.length) (hg : ∀ z ∈ g, -32768 ≤ z ∧ z ≤ 32767) : RowS W (.slice (some ⟨P, 0, none⟩) g.length g.length) g := by
 unfold FillI at h
 rw [List.take_length, Nat.sub_self, List.replicate_zero, List.append_nil] at h
 exact RowAt.row (base := base) ⟨h, hg⟩

theorem catRes_store {w w0 W : World} {r : Nat × List Nmd} {e : Ending} {B : Nat} (h : CatRes w0 r e W) (hb : Below w.heap.size w w0) (hB : One W B (.slice none 0 0)) (hlow : w.heap.size ≤ B) (hrok : r.1 = 0 → ∀ x ∈ r.2, NmOk x) :
  ∃ o l k ev, e = .returned (.tuple #[.agg #[.slice o l k], ev]) ∧ CatRes w r e (W.setCell ⟨B, 0, none⟩ (.slice o l k)) := by
 obtain ⟨h | ⟨h1, u, qs, h2, h3, v, rfl, h4⟩, hb2⟩ := h
 ·exact ⟨none, 0, 0, _, h.2, .inl h, (hb.trans (hb2.mono hb.size)).setCell (p := ⟨B, 0, none⟩) hlow _⟩
 ·obtain ⟨o, c, rfl, -⟩ := id h4
  exact ⟨o, _, c, _, h2, .inr ⟨h1, _, qs, h2, h3, _, rfl, h4.setOne (nonE_of_ok (by rw [h3]; exact hrok h1)) hB.1 _⟩, (hb.trans (hb2.mono hb.size)).setCell (p := ⟨B, 0, none⟩) hlow _⟩

set_option linter.unusedSimpArgs false in
set_option maxRecDepth 100000 in
set_option maxHeartbeats 1600000 in
theorem withGen_ok (w : World) (v : Value) (qs : List Nc) (nm gen : ByteArray) (g : List Int) (h : CatV w v qs) (hok : CatOk (qs.map (·.x))) (hm : MaxL w) (hgen : gen = bytesP (numT g)) (h0 : 0 < g.length) (h4 : g.length ≤ 4) (hz : ∀ z ∈ g, -999 ≤ z ∧ z ≤ 999) :
  Calls Tryz.prog 51 #[v, .string nm, .string gen] w fun e w' => CatRes w (applyC (qs.map (·.x)) ⟨3, nm, 0, g⟩) e w' := by
 obtain ⟨u, rfl, hu⟩ := h
 obtain ⟨ao, cap, rfl, hcap, -⟩ := id hu
 obtain ⟨r, hr⟩ : ∃ r, applyC (qs.map (·.x)) ⟨3, nm, 0, g⟩ = r := ⟨_, rfl⟩
 rw [hr]
 have hsz : gen.size ≤ 20 := by
  rw [hgen]
  show (numT g).toArray.size ≤ 20
  rw [List.size_toArray]
  have := join_len (g.map Lib.itoa) (fun x hx => by
   obtain ⟨z, hz', rfl⟩ := List.mem_map.1 hx
   exact (ito_len (hz z hz').1 (hz z hz').2).2)
  rw [List.length_map] at this
  unfold numT
  omega
 have HR := hide hr; have HU := hide hu; have HOK := hide hok; have HM := hide hm; have HZ := hide hz; have HGEN := hide hgen; have HSZ := hide hsz
 have hb1 := alloc_below w (.cells #[.slice ao qs.length cap] 27)
 have hb2 := alloc_below (w.alloc (.cells #[.slice ao qs.length cap] 27)) (.cells #[.slice none 0 0] 27)
 have X3 := hide ((One.new w (.slice ao qs.length cap) 27).later hb2)
 have hx6 := One.new (w.alloc (.cells #[.slice ao qs.length cap] 27)) (.slice none 0 0) 27
 have hs1 : (w.alloc (.cells #[.slice ao qs.length cap] 27)).heap.size = w.heap.size + 1 := by simp
 rw [hs1] at hx6
 have X6 := hide hx6
 have HB := hide (hb1.trans (hb2.mono hb1.size))
 clear hb1 hb2 hx6 hs1 hr hu hok hm hz hgen hsz hcap
 go_enter Tryz.func51, Tryz.ntmps51
 go_wp2_with fail
 generalize (w.alloc (.cells #[.slice ao qs.length cap] 27)).alloc (.cells #[.slice none 0 0] 27) = W2 at *
 obtain ⟨m, hm1, -⟩ := HM.out.below HB.out
 refine (Go.Proofs.Tryz.strings_SplitN gen ⟨#[32]⟩ 5 m W2 (by have := HSZ.out; omega) hm1 (by decide) (by decide) (by decide)).mono ?_
 rintro e W3 ⟨rfl, hW3⟩
 have hsp : Lib.splitB ⟨#[32]⟩ 0 (min 5 (gen.size + 1) - 1) gen = g.map itoS := by rw [HGEN.out]; exact split_numT g h0 h4
 rw [hsp] at hW3
 rw [hsp, List.length_map]
 obtain ⟨cp, hcp⟩ : ∃ cp, min 5 (gen.size + 1) = cp := ⟨_, rfl⟩
 rw [hcp] at hW3
 rw [hcp]
 have HCELL : Hid (∀ j, j < g.length → W3.cell? ⟨W2.heap.size, j, none⟩ = some (.string (itoS (g.getD j 0)))) := fun j hj => by
  rw [hW3]
  have := World.news_of_block (heap_alloc_new W2 (.cells (Lib.cellsOf (g.map itoS) cp) 9)) j (.string (itoS (g.getD j 0))) (by
   unfold Lib.cellsOf
   rw [List.toList_toArray, List.getElem?_append_left (by rw [List.length_map, List.length_map]; exact hj), List.getElem?_map, List.getElem?_map, List.getElem?_eq_getElem hj, getD_at hj]
   rfl)
  have e : (⟨W2.heap.size, 0, none⟩ : Addr).add j = ⟨W2.heap.size, j, none⟩ := by unfold Addr.add; split <;> simp_all
  rwa [e] at this
 have hbS : Below W2.heap.size W2 W3 := by rw [hW3]; exact alloc_below W2 _
 have hlt8 : W2.heap.size < W3.heap.size := by rw [hW3]; simp
 have X3b := hide (X3.out.later hbS); have X6b := hide (X6.out.later hbS); have HB3 := hide (HB.out.trans (hbS.mono HB.out.size))
 clear hW3 hbS X3 X6 HB hsp hcp hm1
 generalize W2.heap.size = P8 at *
 have hmk := run_mkIP g.length (by omega)
 have HF0 := hide (FillI.start W3 g (by omega))
 have HB40 := hide (alloc_below W3 (.cells (madeCells #[.int .i64 0] g.length) 3))
 go_wp2_with fail
 clear hmk
 generalize W3.alloc (.cells (madeCells #[.int .i64 0] g.length) 3) = W4 at *
 go_loopw [20] (fun i wr => ∃ k : Nat, k ≤ g.length ∧ i = .int .i64 k ∧ Hid (FillI W3.heap.size wr W3.heap.size g k) ∧ Hid (Below W3.heap.size W3 wr)) (fun i _ => g.length - (intOf i).toNat)
 case atStart => exact ⟨0, Nat.zero_le _, rfl, HF0, HB40⟩
 case round =>
  clear HF0 HB40
  obtain ⟨k, hk, rfl, HFI, HBW⟩ := hrel
  by_cases hkl : k < g.length
  ·have c8 := (HBW.out.cell (p := ⟨P8, k, none⟩) hlt8).trans (HCELL.out k hkl)
   have HPUT : Hid (∀ W, FillI W3.heap.size W W3.heap.size g k → FillI W3.heap.size (W.setCell ⟨W3.heap.size, k, none⟩ (.int .i64 (g.getD k 0))) W3.heap.size g (k + 1)) := fun W hW => hW.put hkl
   have hzr := HZ.out (g.getD k 0) (by rw [getD_at hkl]; exact List.getElem_mem _)
   generalize g.getD k 0 = z at *
   have HZR := hide hzr
   clear hzr
   go_wp2_with fail
   clear c8
   refine (Go.Proofs.Tryz.strconv_Atoi (itoS z) z (by have := (ito_len HZR.out.1 HZR.out.2).2; show (Lib.itoa z).toArray.size ≤ 18; rw [List.size_toArray]; omega) (by show Lib.atoi (Lib.itoa z) = some z; exact atoi_itoa z) wr).mono ?_
   rintro e w5 ⟨rfl, tt, hw5⟩
   have hb5 : Below wr.heap.size wr w5 := by rw [hw5]; exact Go.Joins.below_bytesWorld _ wr _ tt (Nat.le_refl _)
   have hf5 : FillI W3.heap.size w5 W3.heap.size g k := ownsRow_later HFI.out hb5
   obtain ⟨y0, y1⟩ := hf5.cell hkl
   have HF5 := hide (HPUT.out w5 hf5)
   have HB5 := hide ((HBW.out.trans (hb5.mono HBW.out.size)).setCell (p := ⟨W3.heap.size, k, none⟩) (Nat.le_refl _) (.int .i64 z))
   clear hw5 hb5 hf5 HFI HBW HPUT
   go_wp2
   go_roundw
   case rel => exact ⟨k + 1, by omega, by go_num, HF5, HB5⟩
   case measure => simp [intOf]; omega
  ·obtain rfl : k = g.length := by omega
   have HROW := hide (HFI.out.row (fun z hz => by have := HZ.out z hz; omega))
   have X3c := hide (X3b.out.later HBW.out); have X6c := hide (X6b.out.later HBW.out); have HBc := hide (HB3.out.trans (HBW.out.mono HB3.out.size))
   obtain ⟨c3, -, -⟩ := X3c.out
   go_wp2_with fail
   clear c3
   refine (apply_any wr _ qs ⟨3, nm, 0, g⟩ (some ⟨W3.heap.size, 0, none⟩) g.length ⟨_, rfl, HU.out.below HBc.out⟩ HOK.out HROW.out (by show g.length ≤ 100; omega)).mono ?_
   rintro e w5 hres
   rw [HR.out] at hres
   have X6d := hide (X6c.out.later hres.2)
   obtain ⟨o, l, k', ev, rfl, hfin⟩ := catRes_store hres HBc.out X6d.out (by omega) (fun h0 => by have h1 := HR.out; rw [← h1] at h0 ⊢; exact (applyC_ok HOK.out _ h0).all)
   have HFIN := hide hfin
   clear hres hfin
   obtain ⟨r0, r1, -⟩ := X6d.out
   go_wp2
   exact bodyPost_ret (v := .tuple #[.agg #[.slice o l k'], ev]) (by simp [results, Tryz.results51, go_sem, r0]) rfl HFIN.out

end Go.Proofs.YtjdnhdcaifogmaaGreatDoor

/- A catalog laid line by line: without memory. -/
namespace Go.Proofs.YtjdnhdcaifogmaaGreatDoor
open Go.RowKit

theorem catOk_less {ps : List Nmd} {x : Nmd} (h : CatOk (ps ++ [x])) : ∀ y ∈ ps, nlt y.name x.name = true := fun y hy =>
 (List.pairwise_append.1 h.rise).2.2 y hy x (by simp)

theorem catOk_left {ps : List Nmd} {x : Nmd} (h : CatOk (ps ++ [x])) : CatOk ps :=
 ⟨(List.pairwise_append.1 h.rise).1, by have := h.few; rw [List.length_append] at this; omega, fun y hy => h.all y (List.mem_append_left _ hy)⟩

theorem catOk_last {ps : List Nmd} {x y : Nmd} (h : CatOk (ps ++ [x])) (hn : y.name = x.name) (hy : NmOk y) : CatOk (ps ++ [y]) := by
 have h1 := catOk_less h
 refine ⟨List.pairwise_append.2 ⟨(List.pairwise_append.1 h.rise).1, List.pairwise_singleton _ _, fun a ha b hb => ?_⟩, by have := h.few; simpa using this, fun z hz => ?_⟩
 ·rw [List.mem_singleton] at hb; subst hb; rw [hn]; exact h1 a ha
 ·rcases List.mem_append.1 hz with h2 | h2
  ·exact h.all z (List.mem_append_left _ h2)
  ·rw [List.mem_singleton] at h2; subst h2; exact hy

theorem placeL_end {ps : List Nmd} {s : ByteArray} (h : ∀ y ∈ ps, nlt y.name s = true) : placeL ps s = ps.length := by
 unfold placeL
 exact List.findIdx_eq_length_of_false (fun y hy => by rw [h y hy]; rfl)

theorem placeL_last {ps : List Nmd} {y : Nmd} (h : ∀ z ∈ ps, nlt z.name y.name = true) : placeL (ps ++ [y]) y.name = ps.length := by
 have h1 := placeL_end h
 unfold placeL at h1 ⊢
 rw [List.findIdx_append, h1, if_neg (by omega)]
 simp [List.findIdx_cons, nlt_irr]

theorem hasL_not {ps : List Nmd} {s : ByteArray} (h : ∀ y ∈ ps, nlt y.name s = true) : hasL ps s = false := by
 unfold hasL
 rw [List.any_eq_false]
 intro y hy e
 have e' : y.name = s := by simpa using e
 have := h y hy
 rw [e', nlt_irr] at this
 cases this

theorem last_create {ps : List Nmd} {x : Nmd} (h : CatOk (ps ++ [x])) : applyC ps ⟨1, x.name, x.n, []⟩ = (0, ps ++ [⟨x.name, x.n, []⟩]) := by
 have hx := h.all x (by simp)
 have h1 := catOk_less h
 have hl : ¬ 8 ≤ ps.length := by have := h.few; rw [List.length_append] at this; simp at this; omega
 have ho : opOk ⟨1, x.name, x.n, []⟩ = true := by unfold opOk; rw [hx.name]; simp
 unfold applyC
 rw [if_neg (by rw [ho]; decide), if_pos rfl, if_neg (by have := hx.n; dsimp only; omega), if_neg (by rw [hasL_not h1]; decide), if_neg hl, placeL_end h1, List.take_length, List.drop_length]

theorem last_put {ps : List Nmd} {nm : ByteArray} {n : Int} {gs : List (List Int)} {g : List Int} (h : CatOk (ps ++ [⟨nm, n, gs ++ [g]⟩])) : applyC (ps ++ [⟨nm, n, gs⟩]) ⟨3, nm, 0, g⟩ = (0, ps ++ [⟨nm, n, gs ++ [g]⟩]) := by
 have hx := h.all ⟨nm, n, gs ++ [g]⟩ (by simp)
 have h1 : ∀ y ∈ ps, nlt y.name nm = true := catOk_less h
 have hP : placeL (ps ++ [⟨nm, n, gs⟩]) nm = ps.length := placeL_last (y := ⟨nm, n, gs⟩) h1
 have hh : hasL (ps ++ [⟨nm, n, gs⟩]) nm = true := by unfold hasL; simp
 have hg : genF g n = 0 := hx.gens g (by simp)
 have hl : ¬ 10 ≤ gs.length := by have := hx.few; simp at this; omega
 have hnm : nmOk nm = true := hx.name
 have ho : opOk ⟨3, nm, 0, g⟩ = true := by unfold opOk; rw [hnm]; simp
 unfold applyC
 rw [if_neg (by rw [ho]; decide), if_neg (show ¬ (3 : Int) = 1 by decide)]
 dsimp only
 rw [hh, if_neg (by decide), if_neg (by decide), hP, List.getElem?_append_right (Nat.le_refl _), Nat.sub_self]
 dsimp only [List.getElem?_cons_zero]
 rw [if_neg (by rw [hg]; decide), if_pos rfl, if_neg hl]
 simp

end Go.Proofs.YtjdnhdcaifogmaaGreatDoor

/- pack.withLine: the lattice of a line that is right. -/
namespace Go.Proofs.YtjdnhdcaifogmaaGreatDoor
open Go.RowKit

def tailT : List (List Int) → List UInt8
 | [] => []
 | g :: t => numT g ++ t.flatMap genT

theorem tail_cut (g : List Int) (t : List (List Int)) : Lib.cut (tailT (g :: t)) [59, 32] = (numT g, tailT t, !t.isEmpty) := by
 have h := numT_not 59 (.inl rfl) g
 cases t with
 | nil =>
  show Lib.cut (numT g ++ []) [59, 32] = _
  rw [List.append_nil, cut_miss2 59 32 _ h]
  rfl
 | cons g' t' =>
  have e : tailT (g :: g' :: t') = numT g ++ 59 :: 32 :: (numT g' ++ t'.flatMap genT) := by
   show numT g ++ (g' :: t').flatMap genT = _
   rw [List.flatMap_cons]
   unfold genT
   simp
  rw [e, cut_hit2 59 32 _ _ h]
  rfl

theorem head_not {x : Nmd} (h : NmOk x) (c : UInt8) (hc : c = 59 ∨ c = 10) : c ∉ headT x := by
 unfold headT
 rw [List.mem_append, List.mem_append]
 rintro ((h1 | h1) | h1)
 ·rcases hc with rfl | rfl
  ·obtain ⟨-, -, h3⟩ := of_decide_eq_true h.name
   obtain ⟨i, hi, e⟩ := List.mem_iff_getElem.1 h1
   have hi' : i < x.name.size := by simpa using hi
   have h4 := h3 i hi'
   have hb : byt x.name i = 59 := by
    unfold byt
    rw [dif_pos hi']
    have : x.name[i]'hi' = 59 := by rw [← e]; rfl
    rw [this]
    rfl
   omega
  ·exact name_not x.name h.name 10 (by decide) h1
 ·rw [List.mem_singleton] at h1
  rcases hc with rfl | rfl <;> exact absurd h1 (by decide)
 ·have := numC_not (ito_chars x.n c h1)
  rcases hc with rfl | rfl
  ·exact this.2.1 rfl
  ·exact this.2.2 rfl

theorem line_cut {x : Nmd} (h : NmOk x) : Lib.cut (headT x ++ x.gens.flatMap genT) [59, 32] = (headT x, tailT x.gens, !x.gens.isEmpty) := by
 have hn := head_not h 59 (.inl rfl)
 cases hg : x.gens with
 | nil =>
  rw [List.flatMap_nil, List.append_nil, cut_miss2 59 32 _ hn]
  rfl
 | cons g t =>
  have e : headT x ++ (g :: t).flatMap genT = headT x ++ 59 :: 32 :: (numT g ++ t.flatMap genT) := by
   rw [List.flatMap_cons]
   unfold genT
   simp
  rw [e, cut_hit2 59 32 _ _ hn]
  rfl

theorem head_cut {x : Nmd} (h : NmOk x) : Lib.cut (headT x) [32] = (x.name.data.toList, Lib.itoa x.n, true) := by
 have e : headT x = x.name.data.toList ++ 32 :: Lib.itoa x.n := by unfold headT; simp
 rw [e]
 exact cut_hit 32 _ _ (name_not x.name h.name 32 (by decide))

theorem drewN_below (w : World) (n : Nat) : Below w.heap.size w (w.drewN n) := ⟨rfl, rfl, rfl, Nat.le_refl _, fun _ _ => rfl⟩

theorem cutP_any (W : World) (hm : MaxL W) (s sep : ByteArray) (hs : s.size ≤ 1000000) (a b : List UInt8) (c : Bool) (hc : Lib.cut s.data.toList sep.data.toList = (a, b, c)) :
  Calls Tryz.prog 25 #[.string s, .string sep] W fun e w' => e = .returned (.tuple #[.string (bytesP a), .string (bytesP b), .bool c]) ∧ Below W.heap.size W w' := by
 obtain ⟨m, hm1, -⟩ := hm
 refine (Go.Proofs.Tryz.strings_Cut s sep m W (by omega) hm1).mono ?_
 rintro e w' ⟨rfl, n, rfl⟩
 rw [hc]
 exact ⟨rfl, drewN_below W n⟩

theorem num_pos {g : List Int} (h : 0 < g.length) : 0 < (numT g).length := by
 unfold numT
 match g, h with
 | z :: t, _ =>
  rw [List.map_cons, Lib.join_cons, List.length_append]
  have : 0 < (Lib.itoa z).length := by
   unfold Lib.itoa
   split
   ·simp
   ·exact List.length_pos_iff.2 (dec_ne _)
  omega

def strSz : Value → Nat
 | .string s => s.size
 | _ => 0

theorem tail_le (t : List (List Int)) : (tailT t).length ≤ (t.flatMap genT).length := by
 cases t with
 | nil => simp [tailT]
 | cons g' t' =>
  show (numT g' ++ t'.flatMap genT).length ≤ _
  rw [List.flatMap_cons, List.length_append, List.length_append]
  unfold genT
  simp
  omega

theorem tail_less {g : List Int} {t : List (List Int)} (h : 0 < g.length) : (tailT t).length < (tailT (g :: t)).length := by
 have h1 := num_pos h
 have h2 := tail_le t
 show _ < (numT g ++ t.flatMap genT).length
 rw [List.length_append]
 omega

end Go.Proofs.YtjdnhdcaifogmaaGreatDoor

/- pack.withLine: the lattice of a line that is right: its walk. -/
namespace Go.Proofs.YtjdnhdcaifogmaaGreatDoor
open Go.RowKit

theorem catRes_ok {w w' : World} {l : List Nmd} {e : Ending} (h : CatRes w (0, l) e w') : ∃ o n k qs, e = .returned (.tuple #[.agg #[.slice o n k], .nilIface]) ∧ CatN w' (.slice o n k) qs ∧ qs.map (·.x) = l ∧ Below w.heap.size w w' := by
 obtain ⟨h | ⟨-, u, qs, h2, h3, v, rfl, h4⟩, hb⟩ := h
 ·exact absurd rfl h.1
 ·obtain ⟨o, c, rfl, -⟩ := id h4
  exact ⟨o, _, c, qs, h2, h4, h3, hb⟩

theorem One.writeP {W : World} {B : Nat} {u : Value} (h : One W B u) (x : Value) : One (W.setCell ⟨B, 0, none⟩ x) B x :=
 ⟨World.cell?_setCell_same (h := h.1) .., by simpa using h.2.1, by simpa using h.2.2⟩

theorem catN_noRowP {W : World} {u : Value} {ps : List Nc} (h : CatN W u ps) {g : List Int} (hg : g ≠ []) : ¬ RowS W u g := fun hr => by
 obtain ⟨ao, cap, e, -, hh⟩ := h
 obtain ⟨bo, cap', e2, -, -, hh2⟩ := hr
 rw [e] at e2
 simp only [Value.slice.injEq] at e2
 obtain ⟨rfl, hl, -⟩ := e2
 have h0 : 0 < g.length := List.length_pos_iff.2 hg
 obtain ⟨b, off, rfl, -, hc⟩ := hh (by omega)
 obtain ⟨b', off', e3, -, hc2⟩ := hh2 h0
 simp only [Option.some.injEq, Addr.mk.injEq, and_true] at e3
 obtain ⟨rfl, rfl⟩ := e3
 have k1 := (hc 0 ps[0] (List.getElem?_eq_getElem (by omega))).1
 have k2 := hc2 0 h0
 rw [Nat.zero_mul, Nat.add_zero] at k1
 rw [Nat.add_zero, k1] at k2
 cases k2

theorem RowS.setVarP {W : World} {v : Value} {ks : List Int} (h : RowS W v ks) {p : Addr} {o : Option Addr} {l c : Nat} (hc : W.cell? p = some (.slice o l c)) (x : Value) : RowS (W.setCell p x) v ks := by
 obtain ⟨ao, cap, e, hn, h6, hh⟩ := h
 refine ⟨ao, cap, e, hn, h6, fun h0 => ?_⟩
 obtain ⟨b, off, e', hlt, hcell⟩ := hh h0
 refine ⟨b, off, e', by simpa using hlt, fun i hi => (World.cell?_setCell_other _ _ _ _ fun e => ?_).trans (hcell i hi)⟩
 have := hcell i hi
 rw [← e, hc] at this; cases this

theorem CatN.setVarP {W : World} {v : Value} {qs : List Nc} (h : CatN W v qs) (hne : NonE qs) {B : Nat} {u : Value} {ps : List Nc} (hc : W.cell? ⟨B, 0, none⟩ = some u) (hu : CatN W u ps) (x : Value) : CatN (W.setCell ⟨B, 0, none⟩ x) v qs := by
 have hno := fun g (hg : g ≠ []) => catN_noRowP (g := g) hu hg
 obtain ⟨uo, uc, rfl, -⟩ := hu
 obtain ⟨ao, cap, e, hn, hh⟩ := h
 refine ⟨ao, cap, e, hn, fun h0 => ?_⟩
 obtain ⟨b, off, e', hlt, hcell⟩ := hh h0
 refine ⟨b, off, e', by simpa using hlt, fun i q hi => ?_⟩
 obtain ⟨h1, h2, h3, h4⟩ := hcell i q hi
 refine ⟨(World.cell?_setCell_other _ _ _ _ fun e => ?_).trans h1, (World.cell?_setCell_other _ _ _ _ fun e => ?_).trans h2, (World.cell?_setCell_other _ _ _ _ fun e => ?_).trans h3, ?_⟩
 ·rw [← e, hc] at h1; cases h1
 ·rw [← e, hc] at h2; cases h2
 ·have := congrArg Addr.off e
  simp at this
 ·have hq := hne q (List.mem_of_getElem? hi)
  obtain ⟨go, gc, ge, gn, gh⟩ := h4
  refine ⟨go, gc, ge, gn, fun g0 => ?_⟩
  obtain ⟨gb, goff, ge', glt, gcell⟩ := gh g0
  refine ⟨gb, goff, ge', by simpa using glt, fun j r hj => ?_⟩
  obtain ⟨u2, hu2, hr2⟩ := gcell j r hj
  refine ⟨u2, (World.cell?_setCell_other _ _ _ _ fun e => ?_).trans hu2, hr2.setVarP hc x⟩
  rw [← e, hc] at hu2
  simp only [Option.some.injEq] at hu2
  rw [← hu2] at hr2
  exact hno r (hq r (List.mem_of_getElem? hj)) hr2

set_option linter.unusedSimpArgs false in
set_option maxRecDepth 100000 in
set_option maxHeartbeats 1600000 in
theorem withLine_ok (w : World) (v : Value) (qs : List Nc) (x : Nmd) (s : ByteArray) (h : CatV w v qs) (hx : CatOk (qs.map (·.x) ++ [x])) (hm : MaxL w) (hs : s = bytesP (headT x ++ x.gens.flatMap genT)) :
  Calls Tryz.prog 26 #[v, .string s] w fun e w' => CatRes w (0, qs.map (·.x) ++ [x]) e w' := by
 obtain ⟨u, rfl, hu⟩ := h
 obtain ⟨ao, cap, rfl, hcap, -⟩ := id hu
 have hxo := hx.all x (by simp)
 have hll := lineT_len hxo
 have hsd : s.data.toList = headT x ++ x.gens.flatMap genT := by rw [hs]; simp [bytesP]
 have hsz : s.size ≤ 1000000 := by
  have h1 : s.size = (headT x ++ x.gens.flatMap genT).length := by rw [hs]; show (List.toArray _).size = _; rw [List.size_toArray]
  unfold lineT at hll
  rw [List.length_append] at hll
  rw [h1]
  omega
 have hcut := line_cut hxo
 rw [← hsd] at hcut
 have HU := hide hu; have HX := hide hx; have HM := hide hm; have HXO := hide hxo; have HSZ := hide hsz; have HCUT := hide hcut; have HLL := hide hll
 have hb1 := alloc_below w (.cells #[.slice ao qs.length cap] 27)
 have hb2 := alloc_below (w.alloc (.cells #[.slice ao qs.length cap] 27)) (.cells #[.slice none 0 0] 27)
 have X2 := hide ((One.new w (.slice ao qs.length cap) 27).later hb2)
 have hx4 := One.new (w.alloc (.cells #[.slice ao qs.length cap] 27)) (.slice none 0 0) 27
 have hs1 : (w.alloc (.cells #[.slice ao qs.length cap] 27)).heap.size = w.heap.size + 1 := by simp
 rw [hs1] at hx4
 have X4 := hide hx4
 have HB := hide (hb1.trans (hb2.mono hb1.size))
 clear hb1 hb2 hx4 hs1 hu hx hm hs hxo hll hsd hsz hcut hcap
 go_enter Tryz.func26, Tryz.ntmps26
 go_wp2_with fail
 generalize (w.alloc (.cells #[.slice ao qs.length cap] 27)).alloc (.cells #[.slice none 0 0] 27) = W2 at *
 refine (cutP_any W2 (HM.out.below HB.out) s ⟨#[59, 32]⟩ HSZ.out _ _ _ HCUT.out).mono ?_
 rintro e W3 ⟨rfl, hb3⟩
 have X2a := hide (X2.out.later hb3); have X4a := hide (X4.out.later hb3); have HBa := hide (HB.out.trans (hb3.mono HB.out.size))
 clear hb3 X2 X4 HB HCUT
 obtain ⟨HD, hHD⟩ : ∃ HD, bytesP (headT x) = HD := ⟨_, rfl⟩
 rw [hHD]
 have hcut2 : Lib.cut HD.data.toList (⟨#[32]⟩ : ByteArray).data.toList = (x.name.data.toList, Lib.itoa x.n, true) := by rw [← hHD]; show Lib.cut (headT x) [32] = _; exact head_cut HXO.out
 have hHs : HD.size ≤ 1000000 := by
  have h1 := HLL.out
  unfold lineT at h1
  rw [List.length_append, List.length_append] at h1
  rw [← hHD]
  show (headT x).toArray.size ≤ _
  rw [List.size_toArray]
  omega
 have HHS := hide hHs; have HC2 := hide hcut2
 clear hHs hcut2 hHD
 go_wp2_with fail
 refine (cutP_any W3 (HM.out.below HBa.out) HD ⟨#[32]⟩ HHS.out _ _ _ HC2.out).mono ?_
 rintro e W4 ⟨rfl, hb4⟩
 have X2b := hide (X2a.out.later hb4); have X4b := hide (X4a.out.later hb4); have HBb := hide (HBa.out.trans (hb4.mono HBa.out.size))
 clear hb4 X2a X4a HBa HC2 HHS
 have hnm : bytesP x.name.data.toList = x.name := by apply ByteArray.ext; simp [bytesP]
 have hin : bytesP (Lib.itoa x.n) = itoS x.n := rfl
 rw [hnm, hin]
 clear hnm hin
 go_wp2_with fail
 refine (Go.Proofs.Tryz.strconv_Atoi (itoS x.n) x.n (by have h1 := HXO.out.n; have := (ito_len (z := x.n) (by omega) (by omega)).2; show (Lib.itoa x.n).toArray.size ≤ 18; rw [List.size_toArray]; omega) (by show Lib.atoi (Lib.itoa x.n) = some x.n; exact atoi_itoa x.n) W4).mono ?_
 rintro e W5 ⟨rfl, tt, hw5⟩
 have hb5 : Below W4.heap.size W4 W5 := by rw [hw5]; exact Go.Joins.below_bytesWorld _ W4 _ tt (Nat.le_refl _)
 have X2c := hide (X2b.out.later hb5); have X4c := hide (X4b.out.later hb5); have HBc := hide (HBb.out.trans (hb5.mono HBb.out.size))
 clear hb5 hw5 X2b X4b HBb
 obtain ⟨c2, -, -⟩ := X2c.out
 go_wp2_with fail
 clear c2
 refine (apply_any W5 _ qs ⟨1, x.name, x.n, []⟩ none 0 ⟨_, rfl, HU.out.below HBc.out⟩ (catOk_left HX.out) ⟨none, 0, rfl, Nat.le_refl _, fun i => by simp, fun h => absurd h (by simp)⟩ (by simp)).mono ?_
 rintro e W6 hres
 rw [last_create HX.out] at hres
 obtain ⟨o6, n6, k6, q6, rfl, hc6, hm6, hb6⟩ := catRes_ok hres
 have X2d := hide (X2c.out.later hb6); have X4d := hide (X4c.out.later hb6); have HBd := hide (HBc.out.trans (hb6.mono HBc.out.size)); have HUd := hide ((HU.out.below HBc.out).below hb6)
 clear hres hb6 X2c X4c HBc
 have hno : ∀ k, NmOk ⟨x.name, x.n, x.gens.take k⟩ := fun k => ⟨HXO.out.name, HXO.out.n, by have := HXO.out.few; show (x.gens.take k).length ≤ 10; rw [List.length_take]; omega, fun g hg => HXO.out.gens g (List.mem_of_mem_take hg)⟩
 have HOKK : Hid (∀ k, CatOk (qs.map (·.x) ++ [⟨x.name, x.n, x.gens.take k⟩])) := fun k => catOk_last HX.out rfl (hno k)
 have hm6' : q6.map (·.x) = qs.map (·.x) ++ [⟨x.name, x.n, x.gens.take 0⟩] := hm6
 have hok6 : CatOk (q6.map (·.x)) := by rw [hm6']; exact HOKK.out 0
 have X2e := hide (X2d.out.writeP (.slice o6 n6 k6)); have X4e := hide (X4d.out.other (p := ⟨w.heap.size, 0, none⟩) (by show w.heap.size ≠ w.heap.size + 1; omega) (.slice o6 n6 k6))
 have HBe := hide (HBd.out.setCell (p := ⟨w.heap.size, 0, none⟩) (Nat.le_refl _) (.slice o6 n6 k6))
 have HCe := hide (hc6.setVarP (nonE_of_ok hok6.all) X2d.out.1 HUd.out (.slice o6 n6 k6))
 have HQe := hide hm6'
 obtain ⟨c2, c3, -⟩ := X2d.out
 have hem : (!x.gens.isEmpty) = decide (0 < x.gens.length) := by cases x.gens <;> simp
 rw [hem]
 obtain ⟨m0, hm0⟩ : ∃ m0, decide (0 < x.gens.length) = m0 := ⟨_, rfl⟩
 rw [hm0]
 obtain ⟨T0, hT0⟩ : ∃ T0, bytesP (tailT x.gens) = T0 := ⟨_, rfl⟩
 rw [hT0]
 have HM0 := hide hm0.symm; have HT0 : Hid (T0 = bytesP (tailT (x.gens.drop 0))) := by show _ = _; rw [List.drop_zero, hT0]
 have HS0 : Hid (T0.size ≤ 1000000) := by
  have h1 := HLL.out; have h2 := tail_le x.gens
  unfold lineT at h1
  rw [List.length_append, List.length_append] at h1
  show _ ≤ _
  rw [← hT0]
  show (tailT x.gens).toArray.size ≤ _
  rw [List.size_toArray]
  omega
 clear hno hm6 hm6' hok6 hc6 hem hm0 hT0 X2d X4d HBd HUd HU HLL
 go_wp2_with fail
 clear c2 c3
 generalize W6.setCell ⟨w.heap.size, 0, none⟩ (.slice o6 n6 k6) = W7 at *
 go_loopw [7, 8, 13] (fun tl mr er wr => ∃ (k : Nat) (TK : ByteArray) (mb : Bool) (co : Option Addr) (cl ck : Nat) (qs' : List Nc), k ≤ x.gens.length ∧ tl = .string TK ∧ mr = .bool mb ∧ er = .nilIface ∧ Hid (TK = bytesP (tailT (x.gens.drop k))) ∧ Hid (TK.size ≤ 1000000) ∧ Hid (mb = decide (k < x.gens.length)) ∧ Hid (One wr w.heap.size (.slice co cl ck)) ∧ Hid (CatN wr (.slice co cl ck) qs') ∧ Hid (qs'.map (·.x) = qs.map (·.x) ++ [⟨x.name, x.n, x.gens.take k⟩]) ∧ Hid (One wr (w.heap.size + 1) (.slice none 0 0)) ∧ Hid (Below w.heap.size w wr)) (fun tl _ _ _ => strSz tl)
 case atStart => exact ⟨0, T0, m0, o6, n6, k6, q6, Nat.zero_le _, rfl, rfl, rfl, HT0, HS0, HM0, X2e, HCe, HQe, X4e, HBe⟩
 case round =>
  clear HT0 HS0 HM0 X2e HCe HQe X4e HBe
  obtain ⟨k, TK, mb, co, cl, ck, q', hk, rfl, rfl, rfl, HTK, HTS, HMB, X2, HC, HQ, X4, HB⟩ := hrel
  cases mb with
  | true =>
   have hkl : k < x.gens.length := of_decide_eq_true HMB.out.symm
   have hdr : x.gens.drop k = x.gens[k] :: x.gens.drop (k + 1) := List.drop_eq_getElem_cons hkl
   have hgk := HXO.out.gens x.gens[k] (List.getElem_mem hkl)
   have hnn := HXO.out.n
   have hg := genF_ok.1 hgk
   have HG : Hid (0 < x.gens[k].length ∧ x.gens[k].length ≤ 4 ∧ ∀ z ∈ x.gens[k], -999 ≤ z ∧ z ≤ 999) := ⟨by omega, by omega, hg.2⟩
   have HTAK : Hid (x.gens.take (k + 1) = x.gens.take k ++ [x.gens[k]]) := by show _ = _; rw [List.take_succ_eq_append_getElem hkl]
   have hcut : Lib.cut TK.data.toList (⟨#[59, 32]⟩ : ByteArray).data.toList = (numT x.gens[k], tailT (x.gens.drop (k + 1)), !(x.gens.drop (k + 1)).isEmpty) := by
    rw [HTK.out, hdr]
    exact tail_cut _ _
   have HLS : Hid ((bytesP (tailT (x.gens.drop (k + 1)))).size < TK.size) := by
    have := tail_less (t := x.gens.drop (k + 1)) HG.out.1
    show _ < _
    rw [HTK.out, hdr]
    show (tailT _).toArray.size < (tailT _).toArray.size
    rw [List.size_toArray, List.size_toArray]
    exact this
   have hem : (!(x.gens.drop (k + 1)).isEmpty) = decide (k + 1 < x.gens.length) := by
    cases hd : x.gens.drop (k + 1) with
    | nil =>
     have := congrArg List.length hd
     rw [List.length_drop, List.length_nil] at this
     rw [decide_eq_false (by omega)]
     rfl
    | cons a b =>
     have := congrArg List.length hd
     rw [List.length_drop, List.length_cons] at this
     rw [decide_eq_true (by omega)]
     rfl
   rw [hem] at hcut
   have HCUT := hide hcut
   clear hdr hgk hnn hg hcut hem
   generalize x.gens[k] = g at *
   go_wp2_with fail
   refine (cutP_any wr (HM.out.below HB.out) TK ⟨#[59, 32]⟩ HTS.out _ _ _ HCUT.out).mono ?_
   rintro e w3 ⟨rfl, hb3⟩
   obtain ⟨T1, hT1⟩ : ∃ T1, bytesP (tailT (x.gens.drop (k + 1))) = T1 := ⟨_, rfl⟩
   obtain ⟨m1, hm1⟩ : ∃ m1, decide (k + 1 < x.gens.length) = m1 := ⟨_, rfl⟩
   obtain ⟨G1, hG1⟩ : ∃ G1, bytesP (numT g) = G1 := ⟨_, rfl⟩
   rw [hT1, hm1, hG1]
   rw [hT1] at HLS
   have HT1 := hide hT1.symm; have HM1 := hide hm1.symm; have HG1 := hide hG1.symm
   have X2a := hide (X2.out.later hb3); have X4a := hide (X4.out.later hb3); have HBa := hide (HB.out.trans (hb3.mono HB.out.size)); have HCa := hide (HC.out.below hb3)
   clear hT1 hm1 hG1 hb3 X2 X4 HB HC HCUT HTK HMB
   obtain ⟨c2, -, -⟩ := X2a.out
   go_wp2_with fail
   clear c2
   refine (withGen_ok w3 _ q' x.name G1 g ⟨_, rfl, HCa.out⟩ (by rw [HQ.out]; exact HOKK.out k) (HM.out.below HBa.out) HG1.out HG.out.1 HG.out.2.1 HG.out.2.2).mono ?_
   rintro e w4 hres
   rw [HQ.out, last_put (by rw [← HTAK.out]; exact HOKK.out (k + 1)), ← HTAK.out] at hres
   obtain ⟨o4, n4, k4, q4, rfl, hc4, hm4, hb4⟩ := catRes_ok hres
   have X2b := hide (X2a.out.later hb4)
   have X2c := hide (X2b.out.writeP (.slice o4 n4 k4)); have X4c := hide ((X4a.out.later hb4).other (p := ⟨w.heap.size, 0, none⟩) (by show w.heap.size ≠ w.heap.size + 1; omega) (.slice o4 n4 k4))
   have HBc := hide ((HBa.out.trans (hb4.mono HBa.out.size)).setCell (p := ⟨w.heap.size, 0, none⟩) (Nat.le_refl _) (.slice o4 n4 k4))
   have HCc := hide (hc4.setVarP (nonE_of_ok (by rw [hm4]; exact (HOKK.out (k + 1)).all)) X2b.out.1 (HCa.out.below hb4) (.slice o4 n4 k4))
   have HQc := hide hm4
   have HTS1 : Hid (T1.size ≤ 1000000) := Nat.le_trans (Nat.le_of_lt HLS.out) HTS.out
   obtain ⟨c2, c3, -⟩ := X2b.out
   clear hres hc4 hm4 hb4 X2a X4a HBa HCa HQ X2b
   go_wp2
   go_roundw
   case rel => exact ⟨k + 1, T1, m1, o4, n4, k4, q4, by omega, rfl, rfl, rfl, HT1, HTS1, HM1, X2c, HCc, HQc, X4c, HBc⟩
   case measure => exact HLS.out
  | false =>
   have hkl : ¬ k < x.gens.length := of_decide_eq_false HMB.out.symm
   have hq := HQ.out
   rw [List.take_of_length_le (by omega)] at hq
   have HFIN : Hid (CatRes w (0, qs.map (·.x) ++ [x]) (.returned (.tuple #[.agg #[.slice co cl ck], .nilIface])) (wr.setCell ⟨w.heap.size + 1, 0, none⟩ (.slice co cl ck))) :=
    ⟨.inr ⟨rfl, _, q', rfl, hq, _, rfl, HC.out.setOne (nonE_of_ok (by rw [HQ.out]; exact (HOKK.out k).all)) X4.out.1 _⟩, HB.out.setCell (p := ⟨w.heap.size + 1, 0, none⟩) (by show w.heap.size ≤ w.heap.size + 1; omega) _⟩
   obtain ⟨c2, -, -⟩ := X2.out
   obtain ⟨r0, r1, -⟩ := X4.out
   clear hq hkl
   go_wp2
   exact bodyPost_ret (v := .tuple #[.agg #[.slice co cl ck], .nilIface]) (by simp [results, Tryz.results26, go_sem, r0]) rfl HFIN.out

end Go.Proofs.YtjdnhdcaifogmaaGreatDoor
