/- The reference: a number of limbs, in its digits. -/
import Derived.Test.YtdedolkgcdlmeaaGreatDoorRefI
import Derived.Test.YtdedolkgcdlmeaaGreatDoorMats
import Derived.OwnWalk
import Derived.Test.YtdedolkgcdlmeaaGreatDoorRefC
import Derived.Laws.MakeOwn

namespace Go.Proofs.YtdedolkgcdlmeaaGreatDoor
open Go.RowKit Limbs Digs

theorem dgetD_set (zs : List Int) (k j : Nat) (z : Int) (h : k < zs.length) : (zs.set k z).getD j 0 = if j = k then z else zs.getD j 0 := by
 rw [List.getD_eq_getElem?_getD, List.getElem?_set]
 by_cases hk : k = j
 ·subst hk; simp [h]
 ·rw [if_neg hk, if_neg (fun e => hk e.symm), List.getD_eq_getElem?_getD]

def UInv (w wr : World) (base : Nat) (v : Value) (zs : List Int) (c0 : Int) (k : Nat) (cy : Int) (ys : List Int) : Prop :=
 wr.ownsRow base 3 1 v zs.length (ys.map (Value.int .i64)) ∧ ys.length = zs.length ∧ DB ys ∧ ys.drop k = zs.drop k ∧ dv (ys.take k) + dp k * cy = 4294967296 * dv (zs.take k) + c0 ∧ 0 ≤ cy ∧ cy < 4294967296 ∧ Below base w wr

theorem UInv.step {w wr : World} {base g cap : Nat} {zs ys : List Int} {c0 cy T : Int} {k : Nat} (h : UInv w wr base (.slice (some ⟨g, 0, none⟩) zs.length cap) zs c0 k cy ys) (hk : k < zs.length) (hT : T = ys.getD k 0 * 4294967296 + cy) :
  UInv w (wr.setCell ⟨g, k, none⟩ (.int .i64 (T % 10000))) base (.slice (some ⟨g, 0, none⟩) zs.length cap) zs c0 (k + 1) (T / 10000) (ys.set k (T % 10000)) := by
 obtain ⟨h1, h2, h3, h4, h5, h6, h7, h8⟩ := h
 have hz := h3 k
 have hst := h1.stored k (.int .i64 (T % 10000))
 have he : ys.getD k 0 = zs.getD k 0 := by
  have e1 := drop_cons_getD ys k (by omega)
  have e2 := drop_cons_getD zs k hk
  rw [h4] at e1
  rw [e1] at e2
  exact (List.cons.injEq _ _ _ _ ▸ e2).1
 have hlt := h1.lt g rfl
 refine ⟨by rw [List.map_set]; exact hst.1, by simp [h2], DB_set h3 k (by omega), ?_, ?_, by omega, by omega, h8.setCell (by simp; omega) _⟩
 ·rw [drop_set_lt ys k (k + 1) _ (Nat.lt_succ_self k)]
  have e1 := congrArg (List.drop 1) h4
  rwa [List.drop_drop, List.drop_drop] at e1
 ·rw [dv_take_succ, take_set_ge ys k k _ (Nat.le_refl _), dgetD_set _ _ _ _ (by omega), if_pos rfl, dv_take_succ]
  simp only [dp]
  have e1 : 10000 * dp k * (T / 10000) = dp k * (10000 * (T / 10000)) := by rw [Int.mul_comm 10000, Int.mul_assoc]
  have e2 : dp k * (T % 10000) + dp k * (10000 * (T / 10000)) = dp k * T := by rw [← Int.mul_add]; congr 1; omega
  have e3 : dp k * T = dp k * (4294967296 * ys.getD k 0) + dp k * cy := by rw [hT, Int.mul_add, Int.mul_comm (ys.getD k 0)]
  have e4 : dp k * (4294967296 * ys.getD k 0) = 4294967296 * (dp k * zs.getD k 0) := by rw [he, Int.mul_left_comm]
  rw [e1, Int.mul_add]
  omega

theorem UInv.fin {w wr : World} {base : Nat} {v : Value} {zs ys : List Int} {c0 cy : Int} (h : UInv w wr base v zs c0 zs.length cy ys) : dv ys + dp zs.length * cy = 4294967296 * dv zs + c0 := by
 have := h.2.2.2.2.1
 rw [List.take_length, dv_take_ge ys (by rw [h.2.1]; exact Nat.le_refl _)] at this
 exact this

def VInv (w wr : World) (base : Nat) (n : Nat) (T : Int) (cy : Int) (d : Value) (ds : List Int) : Prop :=
 wr.ownsRow base 3 1 d ds.length (ds.map (Value.int .i64)) ∧ DB ds ∧ T = dv ds + dp ds.length * cy ∧ 0 ≤ cy ∧ (∃ j : Nat, j ≤ 3 ∧ ds.length + j ≤ n + 3 ∧ cy < dp j) ∧ Below base w wr

theorem UInv.behind {w wr : World} {base : Nat} {v : Value} {zs ys : List Int} {c0 cy : Int} (h : UInv w wr base v zs c0 zs.length cy ys) : VInv w wr base zs.length (4294967296 * dv zs + c0) cy v ys := by
 have hf := h.fin
 obtain ⟨h1, h2, h3, h4, h5, h6, h7, h8⟩ := h
 have e3 : dp 3 = 1000000000000 := by decide
 exact ⟨by rw [h2]; exact h1, h3, by rw [h2]; exact hf.symm, h6, ⟨3, Nat.le_refl _, by omega, by omega⟩, h8⟩

theorem VInv.step {w wr w3 : World} {base n : Nat} {T cy r : Int} {d d' : Value} {ds : List Int} (h : VInv w wr base n T cy d ds) (hb : base ≤ wr.heap.size) (hc : cy ≠ 0) (hr : cy % 10000 = r)
  (hown : w3.ownsRow base 3 1 d' (ds.length + 1) (ds.map (Value.int .i64) ++ [.int .i64 r])) (hg : (wr.alloc (.cells #[.int .i64 r] 3)).grownBy w3 d.ownBlock) : VInv w w3 base n T (cy / 10000) d' (ds ++ [r]) := by
 obtain ⟨h1, h2, h3, h4, ⟨j, hj, hl, hlt⟩, h6⟩ := h
 have hbb := below_app h1 hb hg
 refine ⟨by rw [List.length_append, List.map_append]; exact hown, DB_append h2 (by omega), ?_, by omega, ?_, h6.trans hbb⟩
 ·rw [dv_snoc, List.length_append, List.length_singleton, h3]
  simp only [dp]
  have e : 10000 * dp ds.length * (cy / 10000) = dp ds.length * (10000 * (cy / 10000)) := by rw [Int.mul_comm 10000, Int.mul_assoc]
  rw [e, Int.add_assoc, ← Int.mul_add]
  congr 2
  omega
 ·match j, hj, hl, hlt with
  | 0, _, _, hlt => simp only [dp] at hlt; omega
  | j + 1, hj, hl, hlt => exact ⟨j, by omega, by simp; omega, by simp only [dp] at hlt; omega⟩

theorem VInv.few {w wr : World} {base n : Nat} {T cy : Int} {d : Value} {ds : List Int} (h : VInv w wr base n T cy d ds) : ds.length ≤ n + 3 := by
 obtain ⟨_, _, _, _, ⟨j, _, hl, _⟩, _⟩ := h
 omega

def FInv (w wr : World) (vl : Value) (neg : Bool) (ls : List Int) (i : Nat) (d : Value) (ds : List Int) : Prop :=
 wr.ownsRow (w.heap.size + 2) 3 1 d ds.length (ds.map (Value.int .i64)) ∧ DB ds ∧ dv ds = lv (ls.drop i) ∧ ds.length ≤ 3 * (ls.length - i) ∧ Box wr w.heap.size (.bool neg) vl ∧ BoxR wr (w.heap.size + 1) (.int .i64 0) (.slice none 0 0) ∧ Below w.heap.size w wr

theorem fInv_start (w : World) (neg : Bool) (ao : Option Addr) (al ac : Nat) (ls : List Int) : FInv w ((w.alloc (.cells #[.bool neg, .slice ao al ac] 29)).alloc (.cells #[.int .i64 0, .slice none 0 0] 40)) (.slice ao al ac) neg ls ls.length (.slice none 0 0) [] := by
 refine ⟨World.ownsRow_nil _ _ _ _, DB_nil, by simp [dv, lv], by simp, ?_, boxR_new _ _ _ _ (by simp), ((Below.refl _ _).alloc (Nat.le_refl _) _).alloc (by simp) _⟩
 exact (box_new w _ _ _ _ rfl).later ((Below.refl _ _).alloc (by simp) _ : Below (w.heap.size + 1) _ _) (by omega)

theorem FInv.size {w wr : World} {vl d : Value} {neg : Bool} {ls ds : List Int} {i : Nat} (h : FInv w wr vl neg ls i d ds) : w.heap.size + 2 ≤ wr.heap.size := by
 have := h.2.2.2.2.2.1.lt
 omega

theorem FInv.inner {w wr : World} {vl d : Value} {neg : Bool} {ls ds : List Int} {i : Nat} (h : FInv w wr vl neg ls i d ds) {c : Int} (hc : 0 ≤ c ∧ c < 4294967296) : UInv wr wr (w.heap.size + 2) d ds c 0 c ds :=
 ⟨h.1, rfl, h.2.1, rfl, by simp [dv, dp], hc.1, hc.2, Below.refl _ _⟩

theorem FInv.next {w wr w2 : World} {vl d d2 : Value} {neg : Bool} {ls ds ds2 : List Int} {i : Nat} (h : FInv w wr vl neg ls (i + 1) d ds) (hi : i < ls.length) (hv : VInv wr w2 (w.heap.size + 2) ds.length (4294967296 * dv ds + ls.getD i 0) 0 d2 ds2) : FInv w w2 vl neg ls i d2 ds2 := by
 have hf := hv.few
 obtain ⟨h1, h2, h3, h4, h5, h6, h7⟩ := h
 obtain ⟨k1, k2, k3, -, -, k6⟩ := hv
 refine ⟨k1, k2, ?_, by omega, h5.later k6 (by omega), h6.later k6 (by omega), h7.trans (k6.mono (by omega))⟩
 rw [drop_cons_getD ls i hi]
 simp only [lv]
 rw [← h3]
 omega

theorem From_post {w wr w2 : World} {vl d : Value} {neg : Bool} {ls ds : List Int} {v : Value} {z s : Int} {n : Nat} (h : FInv w wr vl neg ls 0 d ds) (hr : RefPost wr (s * dv ds) ds.length (.returned v) w2) (hz : z = s * lv ls) (hn : ls.length ≤ n) :
  NumR w2 v z (3 * n) ∧ BoxR w2 (w.heap.size + 1) (.int .i64 0) (.slice none 0 0) ∧ Below w.heap.size w w2 := by
 obtain ⟨h1, h2, h3, h4, h5, h6, h7⟩ := h
 obtain ⟨v', e, hv, hb⟩ := hr
 obtain rfl := Ending.returned.inj e
 rw [List.drop_zero] at h3
 rw [h3, ← hz] at hv
 exact ⟨hv.mono (by omega), h6.later hb h6.lt, h7.trans (hb.mono h7.size)⟩

set_option maxRecDepth 100000 in
set_option maxHeartbeats 3200000 in
theorem from_any (w : World) (va : Value) (z : Int) (n : Nat) (ha : NumL w va z n) (hn : n ≤ 30000) :
  Calls Tryz.prog 62 #[va] w fun e w' => RefPost w z (3 * n) e w' := by
 obtain ⟨i0, hi, hz0, hz1, hz2⟩ := info_parts Tryz.infoInt
 obtain ⟨neg, sl, ls, rfl, hl, hnrm, hneg, hz, hln⟩ := ha
 have HL := hide hl
 obtain ⟨ao, cap, rfl, hcap, hlen, hlb, hc⟩ := hl
 have hc' : ∀ i, i < ls.length → ∃ b off, ao = some ⟨b, off, none⟩ ∧ b < w.heap.size ∧ w.cell? ⟨b, off + i, none⟩ = some (.int .u32 (ls.getD i 0)) := fun i h => by
  obtain ⟨b, off, e, hb, hc⟩ := hc (by omega)
  exact ⟨b, off, e, hb, hc i h⟩
 have HC := hide hc'
 clear hc hc'
 have HZ := hide hz
 have hst := hide (fInv_start w neg ao ls.length cap ls)
 clear hz
 go_enter Tryz.func62, Tryz.ntmps62
 go_wp2
 go_loopw [3, 4] (fun d i wr => ∃ (p : Nat) (ds : List Int), p ≤ ls.length ∧ i = .int .i64 ((p : Int) - 1) ∧ FInv w wr (.slice ao ls.length cap) neg ls p d ds) (fun _ i _ => (intOf i + 1).toNat)
 case atStart => exact ⟨ls.length, [], Nat.le_refl _, rfl, hst.out⟩
 case round =>
  clear hst
  obtain ⟨p, ds, hp, rfl, hinv⟩ := hrel
  have HI := hide hinv
  obtain ⟨b0, b1, -, -⟩ := hinv.2.2.2.2.1
  clear hinv
  match p, hp, HI with
  | 0, _, HI =>
   have hcut : ∀ s : Int, (s = 1 ∨ s = -1) → Calls Tryz.prog 100 #[.int .i64 s, u3] wr fun e w' => RefPost wr (s * dv ds) ds.length e w' := fun s hs =>
    cutNum_any wr s _ ds (Dig.owns HI.out.1 HI.out.2.1 (by have := HI.out.2.2.2.1; omega)) (by omega)
   cases neg
   ·have HZ' := hide (show z = 1 * lv ls by have := HZ.out; simpa using this)
    clear HZ
    go_wp2_with fail
    refine (hcut 1 (.inl rfl)).mono ?_
    rintro e w2 ⟨r, rfl, hr, hb2⟩
    obtain ⟨hr3, hB, hbl⟩ := From_post HI.out ⟨r, rfl, hr, hb2⟩ HZ'.out hln
    obtain ⟨sr, o, l, c, rfl, -⟩ := hr.form
    obtain ⟨c0, c1, f0, f1⟩ := hB.box
    have HF := hide (boxedR hr3 hB hbl (by omega))
    clear hr hr3 hB hbl hb2 HI hcut HC HL HZ' b0 b1
    go_wp2
    exact bodyPost_ret (v := .agg #[.int .i64 sr, .slice o l c]) (by simp [results, Tryz.results62, go_sem, c0, c1]) rfl HF.out
   ·have HZ' := hide (show z = -1 * lv ls by have := HZ.out; simpa using this)
    clear HZ
    go_wp2_with fail
    refine (hcut (-1) (.inr rfl)).mono ?_
    rintro e w2 ⟨r, rfl, hr, hb2⟩
    obtain ⟨hr3, hB, hbl⟩ := From_post HI.out ⟨r, rfl, hr, hb2⟩ HZ'.out hln
    obtain ⟨sr, o, l, c, rfl, -⟩ := hr.form
    obtain ⟨c0, c1, f0, f1⟩ := hB.box
    have HF := hide (boxedR hr3 hB hbl (by omega))
    clear hr hr3 hB hbl hb2 HI hcut HC HL HZ' b0 b1
    go_wp2
    exact bodyPost_ret (v := .agg #[.int .i64 sr, .slice o l c]) (by simp [results, Tryz.results62, go_sem, c0, c1]) rfl HF.out
  | i + 1, hp, HI =>
   obtain ⟨b, off, rfl, hbw, hcell⟩ := HC.out i (by omega)
   have hcell' := (HI.out.2.2.2.2.2.2.cell (p := ⟨b, off + i, none⟩) hbw).trans hcell
   have hlim := hlb i
   have HU := hide (HI.out.inner hlim)
   clear hcell
   have hi1 : ((i + 1 : Nat) : Int) - 1 = (i : Int) := by omega
   rw [hi1]
   clear hi1
   have HG := hide (show ls.getD i 0 = ls.getD i 0 from rfl)
   generalize hlg : ls.getD i 0 = c at *
   have HLG := hide hlg
   clear hlg
   obtain ⟨od, cd, rfl⟩ : ∃ o cap, u3 = .slice o ds.length cap := by
    rcases HI.out.1.2 with ⟨e, h0⟩ | ⟨g, cap, cur, e, -⟩
    ·exact ⟨none, 0, by rw [h0]; exact e⟩
    ·exact ⟨_, cap, e⟩
   have hdl : ds.length ≤ 90000 := by have := HI.out.2.2.2.1; omega
   have hsz := HI.out.size
   generalize wr = W0 at *
   go_wp2
   go_loopw [5, 6, 7] (fun cy k _ w1 => ∃ (j : Nat) (x : Int) (ys : List Int), j ≤ ds.length ∧ k = .int .i64 j ∧ cy = .int .i64 x ∧ UInv W0 w1 (w.heap.size + 2) (.slice od ds.length cd) ds c j x ys) (fun _ k _ _ => ds.length - (intOf k).toNat)
   case atStart => exact ⟨0, c, ds, Nat.zero_le _, rfl, rfl, HU.out⟩
   case round =>
    clear HU
    obtain ⟨j, x, ys, hj, rfl, rfl, hinv⟩ := hrel
    have hc0 := hinv.2.2.2.2.2.1
    have hc1 := hinv.2.2.2.2.2.2.1
    by_cases hlt : j < ds.length
    ·obtain ⟨g, cap', e, -, hgs⟩ := hinv.1.form (by omega)
     simp only [Value.slice.injEq, true_and] at e
     obtain ⟨rfl, rfl⟩ := e
     have hky : j < ys.length := by have := hinv.2.1; omega
     have hcl := hinv.1.cellAt j (by omega)
     rw [List.getElem?_map, List.getElem?_eq_getElem hky, Option.map_some, show ys[j]'hky = ys.getD j 0 by rw [List.getD_eq_getElem?_getD, List.getElem?_eq_getElem hky]; rfl] at hcl
     have hfr := hinv.1.frozenAt j
     have hz := hinv.2.2.1 j
     have HS := hide (hinv.step hlt rfl)
     clear hinv hcell' b0 b1
     generalize ys.getD j 0 = y at *
     have hm1 : IntKind.i64.wrap (y * 4294967296) = y * 4294967296 := by rw [IntKind.wrap_i64]; omega
     have hm2 : IntKind.i64.wrap (y * 4294967296 + x) = y * 4294967296 + x := by rw [IntKind.wrap_i64]; omega
     have hm3 : (y * 4294967296 + x).tmod 10000 = (y * 4294967296 + x) % 10000 := Int.tmod_eq_emod_of_nonneg (by omega)
     have hm4 : (y * 4294967296 + x).tdiv 10000 = (y * 4294967296 + x) / 10000 := Int.tdiv_eq_ediv_of_nonneg (by omega)
     go_wp2
     go_roundw
     case rel => exact ⟨j + 1, _, _, by omega, by go_num, rfl, HS.out⟩
     case measure => simp [intOf]; omega
    ·obtain rfl : j = ds.length := by omega
     have HV := hide hinv.behind
     clear hinv hcell' b0 b1
     go_wp2
     go_loopw [3, 5] (fun d cy w2 => ∃ (x : Int) (es : List Int), cy = .int .i64 x ∧ VInv W0 w2 (w.heap.size + 2) ds.length (4294967296 * dv ds + c) x d es) (fun _ cy _ => (intOf cy).toNat)
     case atStart => exact ⟨x, ys, rfl, HV.out⟩
     case round =>
      clear HV
      obtain ⟨y, es, rfl, hv⟩ := hrel
      have hy0 := hv.2.2.2.1
      have hfew := hv.few
      by_cases hy : y = 0
      ·subst hy
       have HN := hide (HI.out.next (by omega) (by rw [HLG.out]; exact hv))
       clear hv HI
       go_wp2
       go_roundw
       case rel => exact ⟨i, es, by omega, by go_num, HN.out⟩
       case measure => simp [intOf]
      ·have hown := hv.1
       have hbs : w.heap.size + 2 ≤ wr.heap.size := by have := hv.2.2.2.2.2.size; omega
       have HST := hide (fun d' w3 hown' hg => hv.step (d' := d') (w3 := w3) hbs hy rfl hown' hg)
       have hyp : 0 < y := by omega
       have hy1 : y ≤ 1000000000000 := by obtain ⟨_, _, _, _, ⟨j, hj, _, hlt⟩, _⟩ := hv; have := dp_mono hj; have e3 : dp 3 = 1000000000000 := (by decide); omega
       have hm3 : y.tmod 10000 = y % 10000 := Int.tmod_eq_emod_of_nonneg (by omega)
       have hm4 : y.tdiv 10000 = y / 10000 := Int.tdiv_eq_ediv_of_nonneg (by omega)
       have hdec : decide (0 < y) = true := decide_eq_true hyp
       clear hv
       go_wp2_with (at_builtin; refine wpList_append_lies _ rfl _ _ 38 rfl (w.heap.size + 2) 3 i0 (.int .i64 0) 1 8 Tryz.underlying38 hi hz0 hz1 hz2 rfl (by decide) u3 es.length (es.map (Value.int .i64)) rfl (hown.alloc _) ⟨wr.heap.size, 0, none⟩ 1 1 [.int .i64 (y % 10000)] rfl rfl (World.news_of_block (heap_alloc_new wr _)) (fun u hu => by rw [List.mem_singleton] at hu; rw [hu]; rfl) (by decide) (by unfold maxLen; omega) (by omega) (by simp; omega) (wr.heap.size + 1) (by simp) ?_)
       intro g cap' w3 hown3 hgrow3 hat3 hlt3
       have HF := hide (HST.out _ _ hown3 hgrow3)
       clear hown3 hgrow3 hat3 hown HST
       go_wp2
       go_roundw
       case rel => exact ⟨_, _, rfl, HF.out⟩
       case measure => simp [intOf]; omega

end Go.Proofs.YtdedolkgcdlmeaaGreatDoor

/- The reference's rows: numbers in a row, and rows of these, that grow at their end. -/
namespace Go.Proofs.YtdedolkgcdlmeaaGreatDoor
open Go.RowKit Limbs Digs

def Typed (W : World) (row : Option Nat) (ts : List TypeId) : Prop := ∀ g, row = some g → ∃ cur t fz, W.heap[g]? = some (.cells cur t fz) ∧ t ∉ ts

theorem Typed.none (W : World) (ts : List TypeId) : Typed W none ts := fun _ h => by cases h

theorem Dig.grown {W W' : World} {row : Option Nat} {v : Value} {ds : List Int} (h : Dig W v ds) (hg : W.grownBy W' row) (hr : Typed W row [3]) : Dig W' v ds := by
 obtain ⟨ao, cap, hv, h1, h2, h3, h4⟩ := h
 refine ⟨ao, cap, hv, h1, h2, h3, fun h0 => ?_⟩
 obtain ⟨b, off, cur, fz, e, hb, hc⟩ := h4 h0
 have hne : some b ≠ row := fun e => by
  obtain ⟨cur', t, fz', h5, h6⟩ := hr b e.symm
  rw [hb] at h5
  simp only [Option.some.injEq, Obj.cells.injEq] at h5
  exact h6 (by rw [← h5.2.1]; exact List.mem_singleton.2 rfl)
 exact ⟨b, off, cur, fz, e, (hg.block b (heap_lt hb) hne).trans hb, fun i hi => hg.cell (hc i hi) hne⟩

theorem NumR.grown {W W' : World} {row : Option Nat} {v : Value} {z : Int} {n : Nat} (h : NumR W v z n) (hg : W.grownBy W' row) (hr : Typed W row [3]) : NumR W' v z n := by
 obtain ⟨s, sl, ds, h1, h2, h3⟩ := h
 exact ⟨s, sl, ds, h1, h2.grown hg hr, h3⟩

structure Rn where
 s : Int
 o : Option Addr
 l : Nat
 c : Nat

def Rn.val (r : Rn) : Value := .agg #[.int .i64 r.s, .slice r.o r.l r.c]
def rcells (p : Rn × Int) : List Value := [.int .i64 p.1.s, .slice p.1.o p.1.l p.1.c]

def RowR (W : World) (v : Value) (zs : List Int) (n : Nat) : Prop :=
 ∃ ao cap, v = .slice ao zs.length cap ∧ zs.length ≤ cap ∧ (0 < zs.length → ∃ b cur fz, ao = some ⟨b, 0, none⟩ ∧ W.heap[b]? = some (.cells cur 40 fz) ∧
  ∀ i, i < zs.length → ∃ (s : Int) (o : Option Addr) (l c : Nat), W.cell? ⟨b, i * 2, none⟩ = some (.int .i64 s) ∧ W.cell? ⟨b, i * 2 + 1, none⟩ = some (.slice o l c) ∧ NumR W (.agg #[.int .i64 s, .slice o l c]) (zs.getD i 0) n)

theorem RowR.below {B : Nat} {W W' : World} {v : Value} {zs : List Int} {n : Nat} (h : RowR W v zs n) (hb : Below B W W') (hB : W.heap.size ≤ B) : RowR W' v zs n := by
 obtain ⟨ao, cap, hv, h1, h2⟩ := h
 refine ⟨ao, cap, hv, h1, fun h0 => ?_⟩
 obtain ⟨b, cur, fz, e, hh, hc⟩ := h2 h0
 have hlt := heap_lt hh
 refine ⟨b, cur, fz, e, (hb.block _ (by omega)).trans hh, fun i hi => ?_⟩
 obtain ⟨s, o, l, c, h3, h4, h5⟩ := hc i hi
 exact ⟨s, o, l, c, (hb.cell (p := ⟨b, i * 2, none⟩) (by show b < B; omega)).trans h3, (hb.cell (p := ⟨b, i * 2 + 1, none⟩) (by show b < B; omega)).trans h4, h5.below hb hB⟩

theorem RowR.grown {W W' : World} {row : Option Nat} {v : Value} {zs : List Int} {n : Nat} (h : RowR W v zs n) (hg : W.grownBy W' row) (hr : Typed W row [3, 40]) : RowR W' v zs n := by
 obtain ⟨ao, cap, hv, h1, h2⟩ := h
 refine ⟨ao, cap, hv, h1, fun h0 => ?_⟩
 obtain ⟨b, cur, fz, e, hh, hc⟩ := h2 h0
 have hr' : Typed W row [3] := fun g hg => by
  obtain ⟨cur', t, fz', h5, h6⟩ := hr g hg
  exact ⟨cur', t, fz', h5, fun h => h6 (by rw [List.mem_singleton] at h; rw [h]; exact List.mem_cons_self)⟩
 have hne : some b ≠ row := fun e => by
  obtain ⟨cur', t, fz', h5, h6⟩ := hr b e.symm
  rw [hh] at h5
  simp only [Option.some.injEq, Obj.cells.injEq] at h5
  exact h6 (by rw [← h5.2.1]; exact List.mem_cons_of_mem _ (List.mem_singleton.2 rfl))
 refine ⟨b, cur, fz, e, (hg.block b (heap_lt hh) hne).trans hh, fun i hi => ?_⟩
 obtain ⟨s, o, l, c, h3, h4, h5⟩ := hc i hi
 exact ⟨s, o, l, c, hg.cell h3 hne, hg.cell h4 hne, h5.grown hg hr'⟩

theorem RowR.at {W : World} {v : Value} {zs : List Int} {n : Nat} (h : RowR W v zs n) (i : Nat) (hi : i < zs.length) : ∃ b cap, v = .slice (some ⟨b, 0, none⟩) zs.length cap ∧ b < W.heap.size ∧ ∃ (s : Int) (o : Option Addr) (l c : Nat), W.cell? ⟨b, i * 2, none⟩ = some (.int .i64 s) ∧ W.cell? ⟨b, i * 2 + 1, none⟩ = some (.slice o l c) ∧ NumR W (.agg #[.int .i64 s, .slice o l c]) (zs.getD i 0) n := by
 obtain ⟨ao, cap, rfl, -, h2⟩ := h
 obtain ⟨b, cur, fz, rfl, hh, hc⟩ := h2 (by omega)
 exact ⟨b, cap, rfl, heap_lt hh, hc i hi⟩

def GrowR (W : World) (base : Nat) (v : Value) (ps : List (Rn × Int)) (n : Nat) : Prop :=
 W.ownsRow base 40 2 v ps.length (ps.flatMap rcells) ∧ ∀ p ∈ ps, NumR W p.1.val p.2 n

theorem GrowR.nil (W : World) (base n : Nat) : GrowR W base (.slice none 0 0) [] n := ⟨World.ownsRow_nil _ _ _ _, fun _ h => by cases h⟩

theorem ownsRow_typed {W : World} {base : Nat} {e : TypeId} {size : Nat} {v : Value} {n : Nat} {xs : List Value} {ts : List TypeId} (h : W.ownsRow base e size v n xs) (he : e ∉ ts) : Typed W v.ownBlock ts := fun g hg => by
 rcases h.2 with ⟨rfl, -⟩ | ⟨g', cap, cur, rfl, hbg, hh, -⟩
 ·cases hg
 ·simp only [Value.ownBlock, Option.some.injEq] at hg
  rw [← hg]
  exact ⟨cur, e, _, hh, he⟩

theorem GrowR.later {W W' : World} {base : Nat} {v : Value} {ps : List (Rn × Int)} {n : Nat} (h : GrowR W base v ps n) (hb : Below W.heap.size W W') : GrowR W' base v ps n :=
 ⟨ownsRow_later h.1 hb, fun p hp => (h.2 p hp).below hb (Nat.le_refl _)⟩

theorem Typed.alloc {W : World} {row : Option Nat} {ts : List TypeId} (h : Typed W row ts) (ob : Obj) : Typed (W.alloc ob) row ts := fun g hg => by
 obtain ⟨cur, t, fz, h1, h2⟩ := h g hg
 exact ⟨cur, t, fz, (((Below.refl W.heap.size W).alloc (Nat.le_refl _) ob).block _ (heap_lt h1)).trans h1, h2⟩

theorem growR_snoc {base : Nat} {wr w3 : World} {v : Value} {ps : List (Rn × Int)} {n : Nat} {r : Rn} {z : Int} {g cap : Nat} {ob : Obj} (h : GrowR wr base v ps n) (hz : NumR wr r.val z n)
  (hown : w3.ownsRow base 40 2 (.slice (some ⟨g, 0, none⟩) (ps.length + 1) cap) (ps.length + 1) (ps.flatMap rcells ++ rcells (r, z)))
  (hg : (wr.alloc ob).grownBy w3 v.ownBlock) : GrowR w3 base (.slice (some ⟨g, 0, none⟩) (ps.length + 1) cap) (ps ++ [(r, z)]) n := by
 have hty : Typed (wr.alloc ob) v.ownBlock [3] := (ownsRow_typed h.1 (by decide)).alloc ob
 refine ⟨by rw [List.length_append, List.length_singleton, List.flatMap_append, List.flatMap_singleton]; exact hown, fun p hp => ?_⟩
 rcases List.mem_append.1 hp with h' | h'
 ·exact ((h.2 p h').below ((Below.refl _ _).alloc (Nat.le_refl _) ob) (Nat.le_refl _)).grown hg hty
 ·rw [List.mem_singleton] at h'
  rw [h']
  exact (hz.below ((Below.refl _ _).alloc (Nat.le_refl _) ob) (Nat.le_refl _)).grown hg hty

theorem rcells_at (ps : List (Rn × Int)) : ∀ i (h : i < ps.length), (ps.flatMap rcells)[i * 2]? = some (.int .i64 ps[i].1.s) ∧ (ps.flatMap rcells)[i * 2 + 1]? = some (.slice ps[i].1.o ps[i].1.l ps[i].1.c) := by
 induction ps with
 | nil => intro i h; exact absurd h (by simp)
 | cons p ps ih =>
  intro i h
  rw [List.flatMap_cons]
  cases i with
  | zero => exact ⟨rfl, rfl⟩
  | succ i =>
   obtain ⟨h1, h2⟩ := ih i (by simpa using h)
   have e1 : (i + 1) * 2 = i * 2 + 2 := by omega
   rw [e1, show i * 2 + 2 + 1 = i * 2 + 1 + 2 by omega, List.getElem?_append_right (by simp [rcells]), List.getElem?_append_right (by simp [rcells])]
   exact ⟨h1, h2⟩

theorem GrowR.row {W : World} {base : Nat} {v : Value} {ps : List (Rn × Int)} {n : Nat} (h : GrowR W base v ps n) : RowR W v (ps.map (·.2)) n := by
 obtain ⟨⟨-, h1⟩, h2⟩ := h
 have hlen : (ps.map (·.2)).length = ps.length := List.length_map ..
 rcases h1 with ⟨rfl, hn⟩ | ⟨g, cap, cur, rfl, hb, hh, hc1, hc2, hc3, hc4⟩
 ·exact ⟨none, 0, by rw [hlen, hn], by rw [hlen]; omega, fun h0 => absurd h0 (by rw [hlen]; omega)⟩
 ·refine ⟨_, cap, by rw [hlen], by rw [hlen]; exact hc1, fun h0 => ⟨g, cur, _, rfl, hh, fun i hi => ?_⟩⟩
  rw [hlen] at hi
  obtain ⟨e1, e2⟩ := rcells_at ps i hi
  have hcell : ∀ k u, k < ps.length * 2 → (ps.flatMap rcells)[k]? = some u → W.cell? ⟨g, k, none⟩ = some u := fun k u hk hu => by
   have := World.news_of_block hh k u (by rw [← hc4, List.getElem?_take, if_pos hk] at hu; exact hu)
   have e : (⟨g, 0, none⟩ : Addr).add k = ⟨g, k, none⟩ := by unfold Addr.add; split <;> simp_all
   rwa [e] at this
  refine ⟨ps[i].1.s, ps[i].1.o, ps[i].1.l, ps[i].1.c, hcell _ _ (by omega) e1, hcell _ _ (by omega) e2, ?_⟩
  have e3 : (ps.map (·.2)).getD i 0 = ps[i].2 := by
   rw [List.getD_eq_getElem?_getD, List.getElem?_map, List.getElem?_eq_getElem hi]; rfl
  rw [e3]
  exact h2 _ (List.getElem_mem hi)

def MatR (W : World) (v : Value) (zss : List (List Int)) (n : Nat) : Prop :=
 ∃ ao cap, v = .slice ao zss.length cap ∧ zss.length ≤ cap ∧ (0 < zss.length → ∃ b, ao = some ⟨b, 0, none⟩ ∧ b < W.heap.size ∧ ∀ i zs, zss[i]? = some zs → ∃ u, W.cell? ⟨b, i, none⟩ = some u ∧ RowR W u zs n)

theorem MatR.below {B : Nat} {w w' : World} {v : Value} {zss : List (List Int)} {n : Nat} (h : MatR w v zss n) (hb : Below B w w') (hB : w.heap.size ≤ B) : MatR w' v zss n := by
 obtain ⟨ao, cap, hv, h1, h2⟩ := h
 refine ⟨ao, cap, hv, h1, fun h0 => ?_⟩
 obtain ⟨b, e, hlt, hc⟩ := h2 h0
 refine ⟨b, e, Nat.lt_of_lt_of_le hlt hb.size, fun i zs hi => ?_⟩
 obtain ⟨u, h3, h4⟩ := hc i zs hi
 exact ⟨u, (hb.cell (p := ⟨b, i, none⟩) (Nat.lt_of_lt_of_le hlt hB)).trans h3, h4.below hb hB⟩

def GrowM (W : World) (base : Nat) (v : Value) (qs : List (Value × List Int)) (n : Nat) : Prop :=
 W.ownsRow base 106 1 v qs.length (qs.map (·.1)) ∧ ∀ q ∈ qs, RowR W q.1 q.2 n

theorem GrowM.later {W W' : World} {base : Nat} {v : Value} {qs : List (Value × List Int)} {n : Nat} (h : GrowM W base v qs n) (hb : Below W.heap.size W W') : GrowM W' base v qs n :=
 ⟨ownsRow_later h.1 hb, fun p hp => (h.2 p hp).below hb (Nat.le_refl _)⟩

theorem growM_snoc {base : Nat} {wr w3 : World} {v : Value} {qs : List (Value × List Int)} {n : Nat} {u : Value} {zs : List Int} {g cap : Nat} {ob : Obj} (h : GrowM wr base v qs n) (hz : RowR wr u zs n)
  (hown : w3.ownsRow base 106 1 (.slice (some ⟨g, 0, none⟩) (qs.length + 1) cap) (qs.length + 1) (qs.map (·.1) ++ [u]))
  (hg : (wr.alloc ob).grownBy w3 v.ownBlock) : GrowM w3 base (.slice (some ⟨g, 0, none⟩) (qs.length + 1) cap) (qs ++ [(u, zs)]) n := by
 have hty : Typed (wr.alloc ob) v.ownBlock [3, 40] := (ownsRow_typed h.1 (by decide)).alloc ob
 refine ⟨by rw [List.length_append, List.length_singleton, List.map_append]; exact hown, fun p hp => ?_⟩
 rcases List.mem_append.1 hp with h' | h'
 ·exact ((h.2 p h').below ((Below.refl _ _).alloc (Nat.le_refl _) ob) (Nat.le_refl _)).grown hg hty
 ·rw [List.mem_singleton] at h'
  rw [h']
  exact (hz.below ((Below.refl _ _).alloc (Nat.le_refl _) ob) (Nat.le_refl _)).grown hg hty

theorem GrowM.mat {W : World} {base : Nat} {v : Value} {qs : List (Value × List Int)} {n : Nat} (h : GrowM W base v qs n) : MatR W v (qs.map (·.2)) n := by
 obtain ⟨⟨-, h1⟩, h2⟩ := h
 have hlen : (qs.map (·.2)).length = qs.length := List.length_map ..
 rcases h1 with ⟨rfl, hn⟩ | ⟨g, cap, cur, rfl, hb, hh, hc1, hc2, hc3, hc4⟩
 ·exact ⟨none, 0, by rw [hlen, hn], by rw [hlen]; omega, fun h0 => absurd h0 (by rw [hlen]; omega)⟩
 ·refine ⟨_, cap, by rw [hlen], by rw [hlen]; exact hc1, fun h0 => ⟨g, rfl, heap_lt hh, fun i zs hi => ?_⟩⟩
  obtain ⟨hi', e⟩ := List.getElem?_eq_some_iff.1 hi
  rw [hlen] at hi'
  have e' : zs = qs[i].2 := by rw [← e, List.getElem_map]
  have := World.news_of_block hh i qs[i].1 (by
   have e : (qs.map (·.1))[i]? = some qs[i].1 := by rw [List.getElem?_map, List.getElem?_eq_getElem hi']; rfl
   rw [← hc4, List.getElem?_take, if_pos (by omega)] at e
   exact e)
  have ea : (⟨g, 0, none⟩ : Addr).add i = ⟨g, i, none⟩ := by unfold Addr.add; split <;> simp_all
  rw [ea] at this
  exact ⟨_, this, by rw [e']; exact h2 _ (List.getElem_mem hi')⟩

end Go.Proofs.YtdedolkgcdlmeaaGreatDoor

/- The reference: rows as they came in become its own. -/
namespace Go.Proofs.YtdedolkgcdlmeaaGreatDoor
open Go.RowKit Limbs Digs

theorem Tryz.infoRNum : (Tryz.prog.info? 40).map (fun i => (i.zero, i.size, i.bytes)) = some (some (.agg #[.int .i64 0, .slice none 0 0]), 2, 32) := by kernel_rfl
theorem Tryz.infoRRow : (Tryz.prog.info? 106).map (fun i => (i.zero, i.size, i.bytes)) = some (some (.slice none 0 0), 1, 24) := by kernel_rfl

set_option maxRecDepth 100000 in
set_option maxHeartbeats 1600000 in
theorem fromMat_any (w : World) (v : Value) (zss : List (List Int)) (n : Nat) (hv : MatN w v zss n) (hn : n ≤ 1000) (hl : zss.length ≤ 1000) (hr : ∀ zs ∈ zss, zs.length ≤ 1000) :
  Calls Tryz.prog 18 #[v] w fun e w' => ∃ u, e = .returned u ∧ MatR w' u zss (3 * n) ∧ Below w.heap.size w w' := by
 obtain ⟨i0, hi, hz0, hz1, hz2⟩ := info_parts Tryz.infoRNum
 obtain ⟨j0, hj, hy0, hy1, hy2⟩ := info_parts Tryz.infoRRow
 have HV := hide hv; have HR := hide hr
 obtain ⟨ao, cap, rfl, -, -⟩ := hv
 clear hr
 go_enter Tryz.func18, Tryz.ntmps18
 go_wp2
 go_loopw [3, 4] (fun out i wr => ∃ (k : Nat) (qs : List (Value × List Int)), k ≤ zss.length ∧ i = .int .i64 k ∧ GrowM wr w.heap.size out qs (3 * n) ∧ Hid (qs.map (·.2) = zss.take k) ∧ Below w.heap.size w wr) (fun _ i _ => zss.length - (intOf i).toNat)
 case atStart => exact ⟨0, [], Nat.zero_le _, rfl, ⟨World.ownsRow_nil _ _ _ _, fun _ h => by cases h⟩, by show _ = _; simp, Below.refl _ _⟩
 case round =>
  obtain ⟨k, qs, hk, rfl, hgm, HQ, hbe⟩ := hrel
  have HGM := hide hgm; have HBE := hide hbe
  have HQL : Hid (qs.length = k) := by
   have := congrArg List.length HQ.out
   rw [List.length_map, List.length_take] at this
   show qs.length = k
   omega
  clear hgm hbe
  by_cases hkl : k < zss.length
  ·obtain ⟨_, _, e, -, hc⟩ := HV.out.below HBE.out (Nat.le_refl _)
   simp only [Value.slice.injEq, true_and] at e
   obtain ⟨rfl, rfl⟩ := e
   obtain ⟨b, off, rfl, hblt, hc⟩ := hc (by omega)
   obtain ⟨u, cu, hu⟩ := hc k zss[k] (by simp [hkl])
   have HU := hide hu
   have hzl := HR.out _ (List.getElem_mem hkl)
   have HQ' : Hid (∀ r : Value, (qs ++ [(r, zss[k])]).map (·.2) = zss.take (k + 1)) := fun r => by
    rw [List.map_append, HQ.out, List.take_succ_eq_append_getElem hkl]; rfl
   clear hc
   generalize zss[k] = zs at *
   obtain ⟨vo, vcap, rfl, -, -⟩ := hu
   go_wp2
   obtain ⟨wo, rfl⟩ : ∃ wo : World, wo = wr := ⟨_, rfl⟩
   go_loopw [5, 6] (fun r i wr => ∃ (q : Nat) (ps : List (Rn × Int)), q ≤ zs.length ∧ i = .int .i64 q ∧ GrowR wr wo.heap.size r ps (3 * n) ∧ Hid (ps.map (·.2) = zs.take q) ∧ Below wo.heap.size wo wr) (fun _ i _ => zs.length - (intOf i).toNat)
   case atStart => exact ⟨0, [], Nat.zero_le _, rfl, GrowR.nil _ _ _, by show _ = _; simp, Below.refl _ _⟩
   case round =>
    obtain ⟨q, ps, hq, rfl, hgr, HP, hbi⟩ := hrel
    have HGR := hide hgr; have HBI := hide hbi
    have HPL : Hid (ps.length = q) := by
     have := congrArg List.length HP.out
     rw [List.length_map, List.length_take] at this
     show ps.length = q
     omega
    clear hgr hbi
    by_cases hql : q < zs.length
    ·have cu2 : wr.cell? ⟨b, off + k, none⟩ = some (.slice vo zs.length vcap) := (HBI.out.cell (p := ⟨b, off + k, none⟩) hblt).trans cu
     obtain ⟨ab, aoff, _, e⟩ := HU.out.form (by omega)
     simp only [Value.slice.injEq, true_and] at e
     obtain ⟨rfl, rfl⟩ := e
     obtain ⟨la, an, ao, al, ac, a0, a1, na⟩ := (HU.out.below HBI.out (Nat.le_refl _)).at q hql
     have NA := hide na
     have HP' : Hid (∀ r : Rn, (ps ++ [(r, zs.getD q 0)]).map (·.2) = zs.take (q + 1)) := fun r => by
      rw [List.map_append, HP.out, List.take_succ_eq_append_getElem hql, List.getD_eq_getElem?_getD, List.getElem?_eq_getElem hql]; rfl
     clear na
     generalize zs.getD q 0 = z at *
     go_wp2_with fail
     refine (from_any wr _ z n NA.out (by omega)).mono ?_
     rintro e w3 ⟨r, rfl, hr, hb3⟩
     obtain ⟨rs, ro, rl, rc, rfl, -⟩ := hr.form
     have HG3 := hide (HGR.out.later hb3)
     have HB3 := hide (HBI.out.trans (hb3.mono HBI.out.size))
     have HR3 : Hid (NumR w3 (Rn.val ⟨rs, ro, rl, rc⟩) z (3 * n)) := hr
     have hown := HG3.out.1
     clear hr hb3 HGR HBI a0 a1 cu2 NA
     go_wp2_with (at_builtin; refine wpList_append_lies _ rfl _ _ 106 rfl wo.heap.size 40 i0 (.agg #[.int .i64 0, .slice none 0 0]) 2 32 (by kernel_rfl) hi hz0 hz1 hz2 rfl (by decide) u5 ps.length (ps.flatMap rcells) rfl (hown.alloc _) ⟨w3.heap.size, 0, none⟩ 1 1 [.int .i64 rs, .slice ro rl rc] rfl rfl (World.news_of_block (heap_alloc_new w3 _)) (fun u hu => by simp only [List.mem_cons, List.mem_nil_iff, or_false] at hu; rcases hu with rfl | rfl <;> rfl) (by decide) (by unfold maxLen; have := HPL.out; omega) (by have := HPL.out; omega) (by simp; have := HB3.out.size; omega) (w3.heap.size + 1) (by simp) ?_)
     intro g cap' w5 hown5 hgrow5 hat5 hlt5
     have HN := hide (growR_snoc HG3.out HR3.out hown5 hgrow5)
     have HB5 := hide (HB3.out.trans (owns_below hown HB3.out.size hgrow5))
     have HP5 := hide (HP'.out ⟨rs, ro, rl, rc⟩)
     clear hown hown5 hgrow5 hat5 hlt5 HG3 HR3 HB3 HP' HP
     go_wp2
     go_roundw
     case rel => exact ⟨q + 1, _, by omega, by go_num, HN.out, HP5, HB5.out⟩
     case measure => simp [intOf]; omega
    ·obtain rfl : q = zs.length := by omega
     have cu2 : wr.cell? ⟨b, off + k, none⟩ = some (.slice vo zs.length vcap) := (HBI.out.cell (p := ⟨b, off + k, none⟩) hblt).trans cu
     have HRR : Hid (RowR wr u5 zs (3 * n)) := by
      have := HGR.out.row
      rw [HP.out, List.take_length] at this
      exact this
     have HG2 := hide (HGM.out.later HBI.out)
     have HB2 := hide (HBE.out.trans (HBI.out.mono HBE.out.size))
     obtain ⟨so, sl, sc, rfl⟩ : ∃ so sl sc, u5 = .slice so sl sc := by
      obtain ⟨so, sc, e, -⟩ := HRR.out
      exact ⟨_, _, _, e⟩
     have hown := HG2.out.1
     clear HGR HP HPL
     go_wp2_with (at_builtin; refine wpList_append_lies _ rfl _ _ 43 rfl w.heap.size 106 j0 (.slice none 0 0) 1 24 (by kernel_rfl) hj hy0 hy1 hy2 rfl (by decide) u3 qs.length (qs.map (·.1)) rfl (hown.alloc _) ⟨wr.heap.size, 0, none⟩ 1 1 [.slice so sl sc] rfl rfl (World.news_of_block (heap_alloc_new wr _)) (fun u hu => by rw [List.mem_singleton] at hu; rw [hu]; rfl) (by decide) (by unfold maxLen; have := HQL.out; omega) (by have := HQL.out; omega) (by simp; have := HB2.out.size; omega) (wr.heap.size + 1) (by simp) ?_)
     intro g cap' w5 hown5 hgrow5 hat5 hlt5
     have HN := hide (growM_snoc HG2.out HRR.out hown5 hgrow5)
     have HB5 := hide (HB2.out.trans (owns_below hown HB2.out.size hgrow5))
     have HQ5 := hide (HQ'.out (.slice so sl sc))
     clear hown hown5 hgrow5 hat5 hlt5 HG2 HRR HB2 HQ' HQ cu2
     go_wp2
     go_roundw
     case rel => exact ⟨k + 1, _, by omega, by go_num, HN.out, HQ5, HB5.out⟩
     case measure => simp [intOf]; omega
  ·obtain rfl : k = zss.length := by omega
   have HF : Hid (MatR wr u3 zss (3 * n)) := by
    have := HGM.out.mat
    rw [HQ.out, List.take_length] at this
    exact this
   clear HGM HQ
   go_wp2
   go_ret
   exact ⟨_, rfl, HF.out, HBE.out⟩

end Go.Proofs.YtdedolkgcdlmeaaGreatDoor

/- A row of the reference's numbers of one's own, being made. -/
namespace Go.Proofs.YtdedolkgcdlmeaaGreatDoor
open Go.RowKit Limbs Digs

theorem NumR.nought (w : World) (n : Nat) : NumR w (.agg #[.int .i64 0, .slice none 0 0]) 0 n :=
 ⟨0, .slice none 0 0, [], rfl, ⟨none, 0, rfl, Nat.le_refl _, by simp, by intro i; simp, fun h => absurd h (by simp)⟩, .inl rfl, by simp, .inl ⟨rfl, rfl, rfl⟩, by simp⟩

structure RowO (w W : World) (P : Nat) (zs : List Int) (nb : Nat → Nat) : Prop where
 cells : ∀ i, i < zs.length → ∃ (s : Int) (o : Option Addr) (l c : Nat), W.cell? ⟨P, i * 2, none⟩ = some (.int .i64 s) ∧ W.cell? ⟨P, i * 2 + 1, none⟩ = some (.slice o l c) ∧ NumR W (.agg #[.int .i64 s, .slice o l c]) (zs.getD i 0) (nb i)
 low : w.heap.size ≤ P
 below : Below w.heap.size w W
 blk : ∃ cs, W.heap[P]? = some (.cells cs 40)

theorem RowO.lt {w W : World} {P : Nat} {zs : List Int} {nb : Nat → Nat} (h : RowO w W P zs nb) : P < W.heap.size := by
 obtain ⟨cs, e⟩ := h.blk
 exact heap_lt e

theorem RowO.later {w W W' : World} {P : Nat} {zs : List Int} {nb : Nat → Nat} (h : RowO w W P zs nb) (hb : Below W.heap.size W W') : RowO w W' P zs nb where
 cells := fun i hi => by
  obtain ⟨s, o, l, c, h1, h2, h3⟩ := h.cells i hi
  exact ⟨s, o, l, c, (hb.cell (p := ⟨P, i * 2, none⟩) h.lt).trans h1, (hb.cell (p := ⟨P, i * 2 + 1, none⟩) h.lt).trans h2, h3.below hb (Nat.le_refl _)⟩
 low := h.low
 below := h.below.trans (hb.mono h.below.size)
 blk := by obtain ⟨cs, e⟩ := h.blk; exact ⟨cs, (hb.block _ (heap_lt e)).trans e⟩

theorem RowO.drew {w W : World} {P : Nat} {zs : List Int} {nb : Nat → Nat} (h : RowO w W P zs nb) : RowO w W.drew P zs nb := ⟨h.cells, h.low, h.below.drew, h.blk⟩

theorem RowO.mono {w W : World} {P : Nat} {zs : List Int} {nb nb' : Nat → Nat} (h : RowO w W P zs nb) (hn : ∀ i, i < zs.length → nb i ≤ nb' i) : RowO w W P zs nb' where
 cells := fun i hi => by
  obtain ⟨s, o, l, c, h1, h2, h3⟩ := h.cells i hi
  exact ⟨s, o, l, c, h1, h2, h3.mono (hn i hi)⟩
 low := h.low
 below := h.below
 blk := h.blk

theorem RowO.thaw {w W : World} {P : Nat} {zs : List Int} {nb : Nat → Nat} (h : RowO w W P zs nb) (k : Nat) : W.frozen? ⟨P, k, none⟩ = false := by
 obtain ⟨cs, e⟩ := h.blk
 simp [World.frozen?, e]

theorem madeR_cell (m i : Nat) (hi : i < m) : (madeCells #[.int .i64 0, .slice none 0 0] (m * 2))[i * 2]? = some (.int .i64 0) ∧ (madeCells #[.int .i64 0, .slice none 0 0] (m * 2))[i * 2 + 1]? = some (.slice none 0 0) := by
 have h1 : i * 2 < m * 2 := by omega
 have h2 : i * 2 + 1 < m * 2 := by omega
 have e1 : i * 2 % 2 = 0 := by omega
 have e2 : (i * 2 + 1) % 2 = 1 := by omega
 constructor
 ·simp [madeCells, h1, e1]
 ·simp [madeCells, h2, e2]

theorem RowO.made (w W : World) (hb : Below w.heap.size w W) (m : Nat) (nb : Nat → Nat) : RowO w (W.alloc (.cells (madeCells #[.int .i64 0, .slice none 0 0] (m * 2)) 40)) W.heap.size (List.replicate m 0) nb where
 cells := fun i hi => by
  rw [List.length_replicate] at hi
  refine ⟨0, none, 0, 0, ?_, ?_, ?_⟩
  ·rw [World.cell?_alloc_new]; exact (madeR_cell m i hi).1
  ·rw [World.cell?_alloc_new]; exact (madeR_cell m i hi).2
  ·have e : (List.replicate m (0 : Int)).getD i 0 = 0 := by
    rw [List.getD_eq_getElem?_getD, List.getElem?_replicate]
    split <;> rfl
   rw [e]
   exact NumR.nought _ _
 low := hb.size
 below := hb.alloc hb.size _
 blk := ⟨_, heap_alloc_new W _⟩

theorem NumR.setTyped {w : World} {v : Value} {z : Int} {n : Nat} (h : NumR w v z n) {B : Nat} {c : Array Value} {t : TypeId} {fz : Nat × Nat} (hB : w.heap[B]? = some (.cells c t fz)) (ht : t ≠ 3) (k : Nat) (u : Value) : NumR (w.setCell ⟨B, k, none⟩ u) v z n := by
 obtain ⟨s, sl, ds, h1, h2, h3⟩ := h
 exact ⟨s, sl, ds, h1, h2.setCell hB ht k u, h3⟩

theorem RowO.set {w W : World} {P : Nat} {zs : List Int} {nb : Nat → Nat} (h : RowO w W P zs nb) {k : Nat} (hk : k < zs.length) {s : Int} {o : Option Addr} {l c : Nat} {z : Int} {m : Nat} (hz : NumR W (.agg #[.int .i64 s, .slice o l c]) z m) :
  RowO w ((W.setCell ⟨P, k * 2, none⟩ (.int .i64 s)).setCell ⟨P, k * 2 + 1, none⟩ (.slice o l c)) P (zs.set k z) (fun i => if i = k then m else nb i) := by
 obtain ⟨cs, hblk⟩ := h.blk
 have hblk' := heap_setCell_same W P (k * 2) _ _ (.int .i64 s) hblk
 obtain ⟨s0, o0, l0, c0, k0, k1, -⟩ := h.cells k hk
 have k1' : (W.setCell ⟨P, k * 2, none⟩ (.int .i64 s)).cell? ⟨P, k * 2 + 1, none⟩ = some (.slice o0 l0 c0) := (World.cell?_setCell_other (h := fun e => by simp at e) ..).trans k1
 have keep : ∀ {v : Value} {y : Int} {q : Nat}, NumR W v y q → NumR ((W.setCell ⟨P, k * 2, none⟩ (.int .i64 s)).setCell ⟨P, k * 2 + 1, none⟩ (.slice o l c)) v y q := fun hv =>
  (hv.setTyped hblk (by decide) _ _).setTyped hblk' (by decide) _ _
 have hlen : (zs.set k z).length = zs.length := List.length_set
 refine ⟨fun i hi => ?_, h.low, (h.below.setCell (by exact h.low) _).setCell (by exact h.low) _, ⟨_, heap_setCell_same _ P (k * 2 + 1) _ _ _ hblk'⟩⟩
 rw [hlen] at hi
 by_cases hik : i = k
 ·subst hik
  refine ⟨s, o, l, c, (World.cell?_setCell_other (h := fun e => by simp at e) ..).trans (World.cell?_setCell_same (h := k0) ..), World.cell?_setCell_same (h := k1') .., ?_⟩
  have e : (zs.set i z).getD i 0 = z := by rw [List.getD_eq_getElem?_getD, List.getElem?_set_self hi]; rfl
  rw [e, if_pos rfl]
  exact keep hz
 ·obtain ⟨s1, o1, l1, c1, m0, m1, m2⟩ := h.cells i hi
  refine ⟨s1, o1, l1, c1, ?_, ?_, ?_⟩
  ·exact ((World.cell?_setCell_other (h := fun e => by simp at e <;> omega) ..).trans (World.cell?_setCell_other (h := fun e => by simp at e <;> omega) ..)).trans m0
  ·exact ((World.cell?_setCell_other (h := fun e => by simp at e <;> omega) ..).trans (World.cell?_setCell_other (h := fun e => by simp at e <;> omega) ..)).trans m1
  ·have e : (zs.set k z).getD i 0 = zs.getD i 0 := by
    rw [List.getD_eq_getElem?_getD, List.getD_eq_getElem?_getD, List.getElem?_set_ne (by omega)]
   rw [e, if_neg hik]
   exact keep m2

theorem RowO.row {w W : World} {P : Nat} {zs : List Int} {nb : Nat → Nat} {n : Nat} (h : RowO w W P zs nb) (hn : ∀ i, i < zs.length → nb i ≤ n) : RowR W (.slice (some ⟨P, 0, none⟩) zs.length zs.length) zs n := by
 obtain ⟨cs, hblk⟩ := h.blk
 refine ⟨_, _, rfl, Nat.le_refl _, fun _ => ⟨P, cs, _, rfl, hblk, fun i hi => ?_⟩⟩
 obtain ⟨s, o, l, c, h1, h2, h3⟩ := h.cells i hi
 exact ⟨s, o, l, c, h1, h2, h3.mono (hn i hi)⟩

end Go.Proofs.YtdedolkgcdlmeaaGreatDoor
