/- bag: a catalog's lattices, in memory of their own. -/
import Derived.Test.YtjdnhdcaifogmaaGreatDoorBgP
import Derived.Shelf.Small.Bits
import Derived.Shelf.Small.Wraps
import Derived.Shelf.Strings.BuilderK
import Derived.Shelf.Strconv.Itoa3
import Derived.Test.YtjdnhdcaifogmaaGreatDoorProg
import Derived.Test.YtjdnhdcaifogmaaGreatDoorBpG

namespace Go.Proofs.YtjdnhdcaifogmaaGreatDoor
open Go.RowKit

theorem run_mkN (m : Nat) (hm : m ≤ 1000) (W : World) : (Instr.makeSlice 25 (.int .i64 (m : Int)) (.int .i64 (m : Int))).run Tryz.prog W = .ok (.slice (some ⟨W.heap.size, 0, none⟩) m m) (W.alloc (.cells (madeCells #[.string ⟨#[]⟩, .int .i64 0, .slice none 0 0] (m * 3)) 66)) := by
 obtain ⟨i0, hi, hz0, hz1, hz2⟩ := info_got Tryz.infoNamed
 have h := run_make (P := Tryz.prog) W 25 66 i0 (.agg #[.string ⟨#[]⟩, .int .i64 0, .slice none 0 0]) (by kernel_rfl) hi hz0 .i64 .i64 m m (by omega) (by omega) (by rw [hz2]; omega) (by omega)
 rw [hz1, Int.toNat_natCast] at h
 exact h

theorem made_three (m : Nat) : (madeCells #[.string ⟨#[]⟩, .int .i64 0, .slice none 0 0] (m * 3)).toList = (List.replicate m [Value.string ⟨#[]⟩, .int .i64 0, .slice none 0 0]).flatten := by
 induction m with
 | zero => simp [madeCells]
 | succ m ih =>
  have e : (madeCells #[.string ⟨#[]⟩, .int .i64 0, .slice none 0 0] ((m + 1) * 3)).toList = (madeCells #[.string ⟨#[]⟩, .int .i64 0, .slice none 0 0] (m * 3)).toList ++ [Value.string ⟨#[]⟩, .int .i64 0, .slice none 0 0] := by
   unfold madeCells
   rw [Array.toList_map, Array.toList_map, Array.toList_range, Array.toList_range, show (m + 1) * 3 = m * 3 + 1 + 1 + 1 by omega, List.range_succ, List.range_succ, List.range_succ]
   simp only [List.map_append, List.map_cons, List.map_nil, List.append_assoc, List.cons_append, List.nil_append]
   have h0 : m * 3 % 3 = 0 := by omega
   have h1 : (m * 3 + 1) % 3 = 1 := by omega
   have h2 : (m * 3 + 1 + 1) % 3 = 2 := by omega
   simp [h0, h1, h2]
  rw [e, ih, List.replicate_succ', List.flatten_append]; simp

structure FillN (w wr : World) (base P n k : Nat) (rs : List Nc) : Prop where
 own : wr.ownsRow base 66 3 (.slice (some ⟨P, 0, none⟩) n n) n (rs.flatMap Nc.cells ++ (List.replicate (n - k) [Value.string ⟨#[]⟩, .int .i64 0, .slice none 0 0]).flatten)
 len : rs.length = k
 ins : ∀ q ∈ rs, NcFresh (P + 1) wr q
 below : Below w.heap.size w wr

theorem FillN.start (w W : World) (n : Nat) (hb : Below w.heap.size w W) (hn : n ≤ maxLen) : FillN w (W.alloc (.cells (madeCells #[.string ⟨#[]⟩, .int .i64 0, .slice none 0 0] (n * 3)) 66)) W.heap.size W.heap.size n 0 [] where
 own := by
  refine ⟨by rw [List.flatMap_nil, List.nil_append, Nat.sub_zero, ← made_three, Array.length_toList, size_madeCells], .inr ⟨W.heap.size, n, _, rfl, Nat.le_refl _, heap_alloc_new W _, Nat.le_refl _, hn, by rw [size_madeCells], ?_⟩⟩
  rw [made_three, List.flatMap_nil, List.nil_append, Nat.sub_zero]
  exact List.take_of_length_le (by rw [← made_three, Array.length_toList, size_madeCells]; exact Nat.le_refl _)
 len := rfl
 ins := fun _ h => by cases h
 below := hb.alloc hb.size _

theorem FillN.later {w wr w' : World} {base P n k : Nat} {rs : List Nc} (h : FillN w wr base P n k rs) (hb : Below wr.heap.size wr w') : FillN w w' base P n k rs :=
 ⟨ownsRow_later h.own hb, h.len, fun g hg => (h.ins g hg).later hb, h.below.trans (hb.mono h.below.size)⟩

theorem FillN.cell {w wr : World} {base P n k : Nat} {rs : List Nc} (h : FillN w wr base P n k rs) (hk : k < n) : wr.cell? ⟨P, k * 3, none⟩ = some (.string ⟨#[]⟩) ∧ wr.cell? ⟨P, k * 3 + 1, none⟩ = some (.int .i64 0) ∧ wr.cell? ⟨P, k * 3 + 2, none⟩ = some (.slice none 0 0) ∧ ∀ j, wr.frozen? ⟨P, j, none⟩ = false := by
 obtain ⟨g, cap, e, -, hc⟩ := own_at h.own (by omega)
 simp only [Value.slice.injEq, Option.some.injEq, Addr.mk.injEq, and_true, true_and] at e
 obtain ⟨rfl, rfl⟩ := e
 have hl : (rs.flatMap Nc.cells).length = k * 3 := by rw [nccells_len, h.len]
 have key : ∀ j, j < 3 → (rs.flatMap Nc.cells ++ (List.replicate (n - k) [Value.string ⟨#[]⟩, .int .i64 0, .slice none 0 0]).flatten)[k * 3 + j]? = [Value.string ⟨#[]⟩, .int .i64 0, .slice none 0 0][j]? := fun j hj => by
  rw [List.getElem?_append_right (by omega), hl, show n - k = (n - k - 1) + 1 by omega, List.replicate_succ, List.flatten_cons, List.getElem?_append_left (by simp; omega), show k * 3 + j - k * 3 = j by omega]
 exact ⟨hc _ _ ((key 0 (by omega)).trans rfl), hc _ _ ((key 1 (by omega)).trans rfl), hc _ _ ((key 2 (by omega)).trans rfl), own_free h.own⟩

theorem FillN.put {w wr : World} {base P n k : Nat} {rs : List Nc} (h : FillN w wr base P n k rs) (hk : k < n) (hP : w.heap.size ≤ P) {q : Nc} (hq : NcFresh (P + 1) wr q) : FillN w (((wr.setCell ⟨P, k * 3, none⟩ (.string q.x.name)).setCell ⟨P, k * 3 + 1, none⟩ (.int .i64 q.x.n)).setCell ⟨P, k * 3 + 2, none⟩ (.slice q.o q.l q.c)) base P n (k + 1) (rs ++ [q]) where
 own := by
  have hl : (rs.flatMap Nc.cells).length = k * 3 := by rw [nccells_len, h.len]
  have h1 := own_set (own_set (own_set h.own (k * 3) (.string q.x.name)) (k * 3 + 1) (.int .i64 q.x.n)) (k * 3 + 2) (.slice q.o q.l q.c)
  have e : ((((rs.flatMap Nc.cells ++ (List.replicate (n - k) [Value.string ⟨#[]⟩, .int .i64 0, .slice none 0 0]).flatten).set (k * 3) (.string q.x.name)).set (k * 3 + 1) (.int .i64 q.x.n)).set (k * 3 + 2) (.slice q.o q.l q.c)) = (rs ++ [q]).flatMap Nc.cells ++ (List.replicate (n - (k + 1)) [Value.string ⟨#[]⟩, .int .i64 0, .slice none 0 0]).flatten := by
   rw [List.set_append_right _ _ (by omega), List.set_append_right _ _ (by omega), List.set_append_right _ _ (by omega), hl, Nat.sub_self, show k * 3 + 1 - k * 3 = 1 by omega, show k * 3 + 2 - k * 3 = 2 by omega, show n - k = (n - (k + 1)) + 1 by omega, List.replicate_succ, List.flatten_cons, List.flatMap_append, List.append_assoc]
   simp [Nc.cells]
  rw [e] at h1
  exact h1
 len := by rw [List.length_append, h.len]; rfl
 ins := fun x hx => by
  rcases List.mem_append.1 hx with h' | h'
  ·exact (((h.ins x h').set (p := ⟨P, k * 3, none⟩) (Nat.lt_succ_self P) _).set (p := ⟨P, k * 3 + 1, none⟩) (Nat.lt_succ_self P) _).set (p := ⟨P, k * 3 + 2, none⟩) (Nat.lt_succ_self P) _
  ·rw [List.mem_singleton] at h'; subst h'
   exact ((hq.set (p := ⟨P, k * 3, none⟩) (Nat.lt_succ_self P) _).set (p := ⟨P, k * 3 + 1, none⟩) (Nat.lt_succ_self P) _).set (p := ⟨P, k * 3 + 2, none⟩) (Nat.lt_succ_self P) _
 below := ((h.below.setCell (p := ⟨P, k * 3, none⟩) hP _).setCell (p := ⟨P, k * 3 + 1, none⟩) hP _).setCell (p := ⟨P, k * 3 + 2, none⟩) hP _

theorem FillN.cat {w wr : World} {base P n : Nat} {rs : List Nc} (h : FillN w wr base P n n rs) : CatN wr (.slice (some ⟨P, 0, none⟩) n n) rs := by
 have ho := h.own
 rw [Nat.sub_self, List.replicate_zero, List.flatten_nil, List.append_nil] at ho
 have hl := h.len
 subst hl
 exact catN_of_owns ho (fun q hq => (h.ins q hq).ins)

theorem One.other {W : World} {B : Nat} {u : Value} (h : One W B u) {p : Addr} (hp : p.block ≠ B) (x : Value) : One (W.setCell p x) B u :=
 ⟨(World.cell?_setCell_other _ _ _ _ (fun e => hp (by rw [e]))).trans h.1, by simpa using h.2.1, by simpa using h.2.2⟩

def CatPost (w : World) (cs : List Nmd) (e : Ending) (w' : World) : Prop := ∃ u rs, e = .returned u ∧ CatN w' u rs ∧ rs.map (·.x) = cs ∧ Below w.heap.size w w'

def CatNew (w : World) (cs : List Nmd) (e : Ending) (w' : World) : Prop := ∃ P n rs, e = .returned (.slice (some ⟨P, 0, none⟩) n n) ∧ w.heap.size < P ∧ FillN w w' P P n n rs ∧ rs.map (·.x) = cs

set_option linter.unusedSimpArgs false in
set_option maxRecDepth 100000 in
set_option maxHeartbeats 1600000 in
theorem lattices_any3 (w : World) (v : Value) (qs : List Nc) (h : CatV w v qs) (hq : qs.length ≤ 100) (hok : ∀ x ∈ qs.map (·.x), NmOk x) :
  Calls Tryz.prog 13 #[v] w fun e w' => CatNew w (qs.map (·.x)) e w' := by
 obtain ⟨u, rfl, hu⟩ := h
 obtain ⟨ao, cap, rfl, hcap, -⟩ := id hu
 have HQ := hide hu; have HOK := hide hok
 have hm := run_mkN qs.length (by omega)
 have hb1 := alloc_below w (.cells #[.slice ao qs.length cap] 27)
 have X1 := hide (One.new w (.slice ao qs.length cap) 27)
 have HB := hide hb1
 have HS : Hid ((w.alloc (.cells #[.slice ao qs.length cap] 27)).heap.size = w.heap.size + 1) := by show _ = _; simp
 obtain ⟨c0, -, -⟩ := X1.out
 clear hu hok hb1
 go_enter Tryz.func13, Tryz.ntmps13
 go_wp2_with fail
 generalize w.alloc (.cells #[.slice ao qs.length cap] 27) = W0 at *
 have HF0 := hide (FillN.start w W0 qs.length HB.out (by unfold maxLen; omega))
 have hbM := alloc_below W0 (.cells (madeCells #[.string ⟨#[]⟩, .int .i64 0, .slice none 0 0] (qs.length * 3)) 66)
 have X1M := hide (X1.out.later hbM)
 clear X1 hbM c0
 obtain ⟨c0, -, -⟩ := X1M.out
 rw [HS.out] at HF0
 generalize W0.alloc (.cells (madeCells #[.string ⟨#[]⟩, .int .i64 0, .slice none 0 0] (qs.length * 3)) 66) = W1 at *
 obtain ⟨P, hP⟩ : ∃ P, w.heap.size + 1 = P := ⟨_, rfl⟩
 rw [hP] at HF0
 rw [hP]
 have HPB : Hid (P = w.heap.size + 1) := hP.symm
 have HN : Hid (FillN w W1 P P qs.length 0 []) := HF0.out
 clear HF0 HB HS hm hP
 go_wp2_with fail
 go_loopw [12] (fun i wr => ∃ (k : Nat) (rs : List Nc), k ≤ qs.length ∧ i = .int .i64 k ∧ Hid (FillN w wr P P qs.length k rs) ∧ Hid (rs.map (·.x) = (qs.map (·.x)).take k) ∧ Hid (One wr w.heap.size (.slice ao qs.length cap))) (fun i _ => qs.length - (intOf i).toNat)
 case atStart => exact ⟨0, [], Nat.zero_le _, rfl, HN, hide (by simp), X1M⟩
 case round =>
  clear HN X1M c0
  obtain ⟨k, rs, hk, rfl, HFI, HP, X1⟩ := hrel
  obtain ⟨c0, -, -⟩ := X1.out
  by_cases hkl : k < qs.length
  ·have HQ1 := hide (HQ.out.below HFI.out.below)
   obtain ⟨b, off, cap', e⟩ := HQ1.out.form (by omega)
   simp only [Value.slice.injEq, true_and] at e
   obtain ⟨rfl, rfl⟩ := e
   obtain ⟨hlt, d0, d1, d2, hin⟩ := HQ1.out.at k hkl
   have hx := HOK.out qs[k].x (List.mem_map.2 ⟨_, List.getElem_mem hkl, rfl⟩)
   have HCO := hide (copied_any wr qs[k] hin (by have := hx.few; omega) (fun g hg => by
    have h1 := (genF_ok.1 (hx.gens g hg)).1
    have h2 := hx.n
    refine ⟨by omega, fun e => ?_⟩
    rw [e] at h1
    simp at h1
    omega))
   have HP' : Hid (∀ q : Nc, q.x = qs[k].x → (rs ++ [q]).map (·.x) = (qs.map (·.x)).take (k + 1)) := fun q e => by
    rw [List.map_append, HP.out, List.take_succ_eq_append_getElem (by rw [List.length_map]; exact hkl), List.getElem_map]; simp [e]
   clear hin hx HQ1 HP
   generalize qs[k] = q at *
   obtain ⟨⟨nm, n, gens⟩, go, gl, gc⟩ := q
   go_wp2_with fail
   refine HCO.out.mono ?_
   rintro e w2 ⟨⟨⟨nm2, n2, gens2⟩, go2, gl2, gc2⟩, rfl, hx2, hfr, hb⟩
   have HF2 := hide (HFI.out.later hb); have X2 := hide (X1.out.later hb)
   obtain ⟨y0, y1, y2, y3⟩ := HF2.out.cell hkl
   have f0 := y3 (k * 3); have f1 := y3 (k * 3 + 1); have f2 := y3 (k * 3 + 2)
   have hPw := HFI.out.own.lt P rfl
   have HN3 := hide (HF2.out.put hkl (by have := HPB.out; omega) (hfr.mono (base' := P + 1) (by omega)))
   have X3 := hide (((X2.out.other (p := ⟨P, k * 3, none⟩) (by show P ≠ w.heap.size; have := HPB.out; omega) (.string nm2)).other (p := ⟨P, k * 3 + 1, none⟩) (by show P ≠ w.heap.size; have := HPB.out; omega) (.int .i64 n2)).other (p := ⟨P, k * 3 + 2, none⟩) (by show P ≠ w.heap.size; have := HPB.out; omega) (.slice go2 gl2 gc2))
   have HP2 := hide (HP'.out _ hx2)
   clear hfr hb hx2 HFI HF2 X1 X2 c0 d0 d1 d2 y3 HCO HP' hPw
   simp only [Nc.val]
   go_wp2
   go_roundw
   case rel => exact ⟨k + 1, _, by omega, by go_num, HN3, HP2, X3⟩
   case measure => simp [intOf]; omega
  ·obtain rfl : k = qs.length := by omega
   have hpp := HP.out
   rw [List.take_of_length_le (by rw [List.length_map]; exact Nat.le_refl _)] at hpp
   have HPP := hide hpp
   clear hpp HP c0
   go_wp2
   go_ret
   exact ⟨P, qs.length, rs, rfl, by have := HPB.out; omega, HFI.out, HPP.out⟩

theorem lattices_any2 (w : World) (v : Value) (qs : List Nc) (h : CatV w v qs) (hq : qs.length ≤ 100) (hok : ∀ x ∈ qs.map (·.x), NmOk x) :
  Calls Tryz.prog 13 #[v] w fun e w' => CatPost w (qs.map (·.x)) e w' := by
 refine (lattices_any3 w v qs h hq hok).mono ?_
 rintro e w' ⟨P, n, rs, rfl, -, hf, hx⟩
 exact ⟨_, rs, rfl, hf.cat, hx, hf.below⟩

end Go.Proofs.YtjdnhdcaifogmaaGreatDoor

/- Library functions' contracts, laid at this translation: strconv.Itoa, bits.LeadingZeros32, strings.CutPrefix, the Builder's writes and its text. -/
namespace Go.Proofs
open Go.Shelf Go.RowKit Go.Sort
def Tryz.lays171_ren : Go.Shelf.Ren := ⟨fun | 171 => 45 | 243 => 65 | 246 => 78 | 283 => 93 | 284 => 94 | 285 => 95 | 286 => 96 | 129 => 107 | 317 => 106 | 318 => 108 | 319 => 109 | 320 => 110 | 337 => 117 | 338 => 118 | n => n, fun | 3 => 3 | 9 => 9 | 2 => 2 | 4 => 4 | 171 => 138 | 0 => 0 | 53 => 113 | 37 => 58 | 5 => 5 | 173 => 141 | 212 => 154 | 51 => 143 | 20 => 20 | 213 => 155 | 46 => 80 | 232 => 165 | 233 => 166 | n => n, fun | 17 => 3 | 18 => 4 | 19 => 5 | n => n⟩
theorem Tryz.lays171 : Go.Proofs.Lays.n171 Tryz.prog Tryz.lays171_ren := {
 mixed := by kernel_rfl
 f129 := Tryz.func107.trans (congrArg some (by kernel_rfl))
 f171 := Tryz.func45.trans (congrArg some (by kernel_rfl))
 f243 := Tryz.func65.trans (congrArg some (by kernel_rfl))
 f246 := Tryz.func78.trans (congrArg some (by kernel_rfl))
 f283 := Tryz.func93.trans (congrArg some (by kernel_rfl))
 f284 := Tryz.func94.trans (congrArg some (by kernel_rfl))
 f285 := Tryz.func95.trans (congrArg some (by kernel_rfl))
 f286 := Tryz.func96.trans (congrArg some (by kernel_rfl))
 f317 := Tryz.func106.trans (congrArg some (by kernel_rfl))
 f318 := Tryz.func108.trans (congrArg some (by kernel_rfl))
 f319 := Tryz.func109.trans (congrArg some (by kernel_rfl))
 f320 := Tryz.func110.trans (congrArg some (by kernel_rfl))
 f337 := Tryz.func117.trans (congrArg some (by kernel_rfl))
 f338 := Tryz.func118.trans (congrArg some (by kernel_rfl))
 t0 := Tryz.underlying0
 a0 := Tryz.isAgg0
 z0 := Tryz.sizeOf0
 v0 := Tryz.zeroValue0
 t2 := Tryz.underlying2
 a2 := Tryz.isAgg2
 z2 := Tryz.sizeOf2
 v2 := Tryz.zeroValue2
 t3 := Tryz.underlying3
 a3 := Tryz.isAgg3
 z3 := Tryz.sizeOf3
 v3 := Tryz.zeroValue3
 t4 := Tryz.underlying4
 a4 := Tryz.isAgg4
 z4 := Tryz.sizeOf4
 v4 := Tryz.zeroValue4
 t5 := Tryz.underlying5
 a5 := Tryz.isAgg5
 z5 := Tryz.sizeOf5
 v5 := Tryz.zeroValue5
 t9 := Tryz.underlying9
 a9 := Tryz.isAgg9
 z9 := Tryz.sizeOf9
 v9 := Tryz.zeroValue9
 t20 := Tryz.underlying20
 a20 := Tryz.isAgg20
 z20 := Tryz.sizeOf20
 v20 := Tryz.zeroValue20
 t37 := Tryz.underlying58
 a37 := Tryz.isAgg58
 z37 := Tryz.sizeOf58
 v37 := Tryz.zeroValue58
 t46 := Tryz.underlying80
 a46 := Tryz.isAgg80
 z46 := Tryz.sizeOf80
 v46 := Tryz.zeroValue80
 t51 := Tryz.underlying143
 a51 := Tryz.isAgg143
 z51 := Tryz.sizeOf143
 v51 := Tryz.zeroValue143
 t53 := Tryz.underlying113
 a53 := Tryz.isAgg113
 z53 := Tryz.sizeOf113
 v53 := Tryz.zeroValue113
 t171 := Tryz.underlying138
 a171 := Tryz.isAgg138
 z171 := Tryz.sizeOf138
 v171 := Tryz.zeroValue138
 t173 := Tryz.underlying141
 a173 := Tryz.isAgg141
 z173 := Tryz.sizeOf141
 v173 := Tryz.zeroValue141
 t212 := Tryz.underlying154
 a212 := Tryz.isAgg154
 z212 := Tryz.sizeOf154
 v212 := Tryz.zeroValue154
 t213 := Tryz.underlying155
 a213 := Tryz.isAgg155
 z213 := Tryz.sizeOf155
 t232 := Tryz.underlying165
 a232 := Tryz.isAgg165
 z232 := Tryz.sizeOf165
 v232 := Tryz.zeroValue165
 t233 := Tryz.underlying166
 a233 := Tryz.isAgg166
 z233 := Tryz.sizeOf166
 v233 := Tryz.zeroValue166
 g17 := by kernel_rfl
 g18 := by kernel_rfl
 g19 := by kernel_rfl }
open Go.RowKit Go.Sort Go.Lib in
theorem Tryz.strconv_Itoa_small (i : Nat) (hi : i < 100) (w : World) :
  Calls Tryz.prog 45 #[.int .i64 i] w fun e w' => e = .returned (.string ⟨(Lib.decDigits i).toArray⟩) ∧ w' = w := Any.strconv_Itoa_small Tryz.lays171 i hi w
def Tryz.lays169_ren : Go.Shelf.Ren := ⟨fun | 169 => 23 | n => n, fun | 70 => 57 | 9 => 9 | 0 => 0 | 72 => 60 | 37 => 58 | 127 => 92 | 3 => 3 | 5 => 5 | n => n, fun | n => n⟩
theorem Tryz.lays169 : Go.Proofs.Lays.n169 Tryz.prog Tryz.lays169_ren := {
 mixed := by kernel_rfl
 f169 := Tryz.func23.trans (congrArg some (by kernel_rfl))
 t0 := Tryz.underlying0
 a0 := Tryz.isAgg0
 z0 := Tryz.sizeOf0
 v0 := Tryz.zeroValue0
 t3 := Tryz.underlying3
 a3 := Tryz.isAgg3
 z3 := Tryz.sizeOf3
 v3 := Tryz.zeroValue3
 t9 := Tryz.underlying9
 a9 := Tryz.isAgg9
 z9 := Tryz.sizeOf9
 v9 := Tryz.zeroValue9
 t37 := Tryz.underlying58
 a37 := Tryz.isAgg58
 z37 := Tryz.sizeOf58
 v37 := Tryz.zeroValue58
 t70 := Tryz.underlying57
 a70 := Tryz.isAgg57
 z70 := Tryz.sizeOf57
 v70 := Tryz.zeroValue57
 t72 := Tryz.underlying60
 a72 := Tryz.isAgg60
 z72 := Tryz.sizeOf60
 v72 := Tryz.zeroValue60
 t127 := Tryz.underlying92
 a127 := Tryz.isAgg92
 z127 := Tryz.sizeOf92
 v127 := Tryz.zeroValue92 }
theorem Tryz.Builder_Extra_169 : Builder.Extra Tryz.prog Tryz.lays169_ren := {
 sizeBuilder := by kernel_rfl
 liesBuilder := by kernel_rfl
 t5 := Tryz.underlying5
 a5 := Tryz.isAgg5
 z5 := Tryz.sizeOf5
 v5 := Tryz.zeroValue5
 infoByte := by kernel_rfl
 cellsByte := by kernel_rfl
 sizeByte := by kernel_rfl
 neB5 := by decide }
open Go.RowKit in
theorem Tryz.Builder_String_any_k (B b : Nat) (l : List UInt8) (w : World) (h : Lib.IsBuilderF 60 5 B b (Lib.byteCells l) w) (hBw : B ≤ w.heap.size) :
  Calls Tryz.prog 23 #[.pointer (some ⟨b, 0, none⟩)] w fun e w' => e = .returned (.string ⟨l.toArray⟩) ∧ (Lib.IsBuilderF 60 5 B b (Lib.byteCells l) w' ∧ Below B w w' ∧ Lib.OthersKept 5 (some b) w w') := Any.Builder_String_any_k Tryz.lays169 Tryz.Builder_Extra_169 B b l w h hBw
def Tryz.lays166_ren : Go.Shelf.Ren := ⟨fun | 166 => 21 | 240 => 44 | 276 => 64 | n => n, fun | 0 => 0 | 3 => 3 | 4 => 4 | 5 => 5 | 9 => 9 | 20 => 20 | 37 => 58 | 70 => 57 | 72 => 60 | 75 => 34 | 80 => 32 | 164 => 110 | n => n, fun | n => n⟩
theorem Tryz.lays166 : Go.Proofs.Lays.n166 Tryz.prog Tryz.lays166_ren := {
 mixed := by kernel_rfl
 f166 := Tryz.func21.trans (congrArg some (by kernel_rfl))
 f240 := Tryz.func44.trans (congrArg some (by kernel_rfl))
 f276 := Tryz.func64.trans (congrArg some (by kernel_rfl))
 t0 := Tryz.underlying0
 a0 := Tryz.isAgg0
 z0 := Tryz.sizeOf0
 v0 := Tryz.zeroValue0
 t3 := Tryz.underlying3
 a3 := Tryz.isAgg3
 z3 := Tryz.sizeOf3
 v3 := Tryz.zeroValue3
 t4 := Tryz.underlying4
 a4 := Tryz.isAgg4
 z4 := Tryz.sizeOf4
 v4 := Tryz.zeroValue4
 t9 := Tryz.underlying9
 a9 := Tryz.isAgg9
 z9 := Tryz.sizeOf9
 v9 := Tryz.zeroValue9
 t20 := Tryz.underlying20
 a20 := Tryz.isAgg20
 z20 := Tryz.sizeOf20
 v20 := Tryz.zeroValue20
 t37 := Tryz.underlying58
 a37 := Tryz.isAgg58
 z37 := Tryz.sizeOf58
 v37 := Tryz.zeroValue58
 t70 := Tryz.underlying57
 a70 := Tryz.isAgg57
 z70 := Tryz.sizeOf57
 v70 := Tryz.zeroValue57
 t72 := Tryz.underlying60
 a72 := Tryz.isAgg60
 z72 := Tryz.sizeOf60
 v72 := Tryz.zeroValue60
 t75 := Tryz.underlying34
 a75 := Tryz.isAgg34
 z75 := Tryz.sizeOf34
 v75 := Tryz.zeroValue34
 t164 := Tryz.underlying110
 a164 := Tryz.isAgg110
 z164 := Tryz.sizeOf110
 v164 := Tryz.zeroValue110 }
theorem Tryz.Builder_Extra_166 : Builder.Extra Tryz.prog Tryz.lays166_ren := {
 sizeBuilder := by kernel_rfl
 liesBuilder := by kernel_rfl
 t5 := Tryz.underlying5
 a5 := Tryz.isAgg5
 z5 := Tryz.sizeOf5
 v5 := Tryz.zeroValue5
 infoByte := by kernel_rfl
 cellsByte := by kernel_rfl
 sizeByte := by kernel_rfl
 neB5 := by decide }
open Go.RowKit in
theorem Tryz.Builder_WriteString_k (B b : Nat) (bs : List Value) (s : ByteArray) (w : World) (h : Lib.IsBuilderF 60 5 B b bs w) (hlen : bs.length + s.size ≤ 140737488355328) (hBw : B ≤ w.heap.size) :
  Calls Tryz.prog 21 #[.pointer (some ⟨b, 0, none⟩), .string s] w fun e w' => e = .returned (.tuple #[.int .i64 s.size, .nilIface]) ∧ (Lib.BuilderAtF 60 5 B b (.pointer (some ⟨b, 0, none⟩)) (bs ++ Lib.strCells s) w' ∧ Below B w w' ∧ Lib.OthersKept 5 (some b) w w') := Any.Builder_WriteString_k Tryz.lays166 Tryz.Builder_Extra_166 B b bs s w h hlen hBw
end Go.Proofs

/- A Builder whose bytes lie above a height: what lies below that, it alone aside, stays. -/
namespace Go.Proofs.YtjdnhdcaifogmaaGreatDoor
open Go.RowKit

structure ButB (C b : Nat) (W W' : World) : Prop where
 os : W'.os = W.os
 tape : W'.tape = W.tape
 output : W'.output = W.output
 size : W.heap.size ≤ W'.heap.size
 block : ∀ k, k < C → k ≠ b → W'.heap[k]? = W.heap[k]?

theorem ButB.of {C b : Nat} {W W' : World} (h : Below C W W') : ButB C b W W' := ⟨h.os, h.tape, h.output, h.size, fun k hk _ => h.block k hk⟩

theorem ButB.trans {C b : Nat} {W W' W'' : World} (h : ButB C b W W') (k : ButB C b W' W'') : ButB C b W W'' :=
 ⟨k.os.trans h.os, k.tape.trans h.tape, k.output.trans h.output, Nat.le_trans h.size k.size, fun i hi hb => (k.block i hi hb).trans (h.block i hi hb)⟩

theorem ButB.set {C b : Nat} {W W' : World} (h : ButB C b W W') (i : Nat) (v : Value) : ButB C b W (W'.setCell ⟨b, i, none⟩ v) :=
 ⟨h.os, h.tape, h.output, by simpa using h.size, fun k hk hb => (heap_setCell_other _ _ _ _ hb).trans (h.block k hk hb)⟩

theorem ButB.below {C b : Nat} {w W W' : World} {K : Nat} (h : ButB C b W W') (hw : Below K w W) (hK : K ≤ b) (hC : K ≤ C) : Below K w W' where
 os := h.os.trans hw.os
 tape := h.tape.trans hw.tape
 output := h.output.trans hw.output
 size := Nat.le_trans hw.size h.size
 block := fun k hk => (h.block k (by omega) (by omega)).trans (hw.block k hk)

def Bld (C b : Nat) (l : List UInt8) (W : World) : Prop :=
 b < C ∧ C ≤ W.heap.size ∧ ∃ p v, W.heap[b]? = some (.cells #[p, v] 60 (0, 0)) ∧ (p = .pointer none ∨ p = .pointer (some ⟨b, 0, none⟩)) ∧ BufB C W v l

theorem Bld.later {C b : Nat} {l : List UInt8} {W W' : World} (h : Bld C b l W) (hb : Below W.heap.size W W') : Bld C b l W' := by
 obtain ⟨h1, h2, p, v, h3, h4, h5⟩ := h
 exact ⟨h1, Nat.le_trans h2 hb.size, p, v, (hb.block _ (heap_lt h3)).trans h3, h4, h5.later hb⟩

theorem Bld.new (W W' : World) (hb : Below (W.alloc (.cells #[.pointer none, .slice none 0 0] 60)).heap.size (W.alloc (.cells #[.pointer none, .slice none 0 0] 60)) W') : Bld W'.heap.size W.heap.size [] W' := by
 have hs := hb.size
 simp at hs
 exact ⟨by omega, Nat.le_refl _, .pointer none, .slice none 0 0, (hb.block _ (by simp)).trans (heap_alloc_new W _), .inl rfl, World.ownsRow_nil _ _ _ _⟩

theorem Bld.isB {C b : Nat} {l : List UInt8} {W : World} (h : Bld C b l W) : Lib.IsBuilderF 60 5 b b (Lib.byteCells l) W := by
 obtain ⟨h1, h2, p, v, h3, h4, h5⟩ := h
 have ho : W.ownsRowF b 5 1 v (Lib.byteCells l).length (Lib.byteCells l) := by
  rw [Lib.byteCells_length]
  have h6 : W.ownsRow b 5 1 v l.length (Lib.byteCells l) := by
   refine ⟨h5.1, ?_⟩
   rcases h5.2 with hn | ⟨g, cap, cur, e, hbg, rest⟩
   ·exact .inl hn
   ·exact .inr ⟨g, cap, cur, e, by omega, rest⟩
  exact World.ownsRowF_of h6
 have hne : v.ownBlock ≠ some b := fun e => by
  rcases h5.2 with ⟨hn, -⟩ | ⟨g, cap, cur, e', hbg, -⟩
  ·rw [hn] at e; cases e
  ·rw [e'] at e
   simp only [Value.ownBlock, Option.some.injEq] at e
   omega
 rcases h4 with rfl | rfl
 ·exact .inl ⟨Nat.le_refl _, v, h3, ho, hne⟩
 ·exact .inr ⟨Nat.le_refl _, v, h3, ho, hne⟩

theorem cell_two {W : World} {b : Nat} {p v : Value} {t : TypeId} (h : W.heap[b]? = some (.cells #[p, v] t (0, 0))) : W.cell? ⟨b, 0, none⟩ = some p ∧ W.cell? ⟨b, 1, none⟩ = some v ∧ ∀ k, W.frozen? ⟨b, k, none⟩ = false := by
 refine ⟨by rw [Lib.cell_of_heap h]; rfl, by rw [Lib.cell_of_heap h]; rfl, fun k => ?_⟩
 simp [World.frozen?, h]

theorem heap_two {W : World} {b : Nat} {p v : Value} {t : TypeId} (h : W.heap[b]? = some (.cells #[p, v] t (0, 0))) (u : Value) : (W.setCell ⟨b, 0, none⟩ u).heap[b]? = some (.cells #[u, v] t (0, 0)) ∧ (W.setCell ⟨b, 1, none⟩ u).heap[b]? = some (.cells #[p, u] t (0, 0)) :=
 ⟨heap_setCell_same W b 0 _ _ u h, heap_setCell_same W b 1 _ _ u h⟩

theorem BufB.set {C : Nat} {W : World} {v : Value} {l : List UInt8} (h : BufB C W v l) {p : Addr} (hp : p.block < C) (u : Value) : BufB C (W.setCell p u) v l := ownsRow_setCell_below h hp u

set_option linter.unusedSimpArgs false in
set_option maxRecDepth 100000 in
set_option maxHeartbeats 1600000 in
theorem writeS_at (C b : Nat) (l : List UInt8) (s : ByteArray) (w : World) (p v : Value) (h1 : b < C) (h2 : C ≤ w.heap.size) (h3 : w.heap[b]? = some (.cells #[p, v] 60 (0, 0))) (h4 : p = .pointer none ∨ p = .pointer (some ⟨b, 0, none⟩)) (h5 : BufB C w v l) (hl : l.length + s.size ≤ 1000000) :
  Calls Tryz.prog 21 #[.pointer (some ⟨b, 0, none⟩), .string s] w fun e w' => e = .returned (.tuple #[.int .i64 s.size, .nilIface]) ∧ Bld C b (l ++ s.data.toList) w' ∧ ButB C b w w' := by
 obtain ⟨c0, c1, cf⟩ := cell_two h3
 have f0 := cf 0; have f1 := cf 1
 rcases h4 with rfl | rfl
 ·have hW := (heap_two h3 (.pointer (some ⟨b, 0, none⟩))).1
  have hB : BufB C (w.setCell ⟨b, 0, none⟩ (.pointer (some ⟨b, 0, none⟩))) v l := h5.set (p := ⟨b, 0, none⟩) h1 _
  have hBu := (ButB.of (b := b) (Below.refl C w)).set 0 (.pointer (some ⟨b, 0, none⟩))
  obtain ⟨d0, d1, df⟩ := cell_two hW
  have g1 := df 1
  obtain ⟨o, c, A, hr, hA, hbA⟩ := hB.str (by simpa using h2) s 58 hl
  obtain ⟨n, hn⟩ : ∃ n, (l ++ s.data.toList).length = n := ⟨_, rfl⟩
  rw [hn] at hr hA
  clear hn
  have hA2 := (hbA.block b h1).trans hW
  obtain ⟨e0, e1, ef⟩ := cell_two hA2
  have k1 := ef 1
  have HR := hide hr
  have HF : Hid (Bld C b (l ++ s.data.toList) (A.setCell ⟨b, 1, none⟩ (.slice o n c))) := ⟨h1, by have := hbA.size; simp at this ⊢; omega, _, _, (heap_two hA2 (.slice o n c)).2, .inr rfl, hA.set (p := ⟨b, 1, none⟩) h1 _⟩
  have HG := hide ((hBu.trans (ButB.of hbA)).set 1 (.slice o n c))
  have hshape : w.shape? b = some (60, 2) := by simp [World.shape?, h3]
  have HCH := hide (Any.Builder_copyCheck_fresh { Go.Proofs.Tryz.lays166 with } Go.Proofs.Tryz.Builder_Extra_166.toX72 b w c0 hshape f0)
  clear hr hA hbA hA2 hB hBu hW df ef cf h5 h3 hshape
  go_enter Tryz.func21, Tryz.ntmps21
  go_wp2_with fail
  refine HCH.out.mono ?_
  rintro e w1 ⟨rfl, rfl⟩
  go_wp2_with (at_builtin; refine Lib.wpList_append_run _ rfl _ _ _ _ rfl _ _ rfl rfl _ _ HR.out ?_)
  go_ret2
  exact ⟨rfl, HF.out, HG.out⟩
 ·obtain ⟨o, c, A, hr, hA, hbA⟩ := h5.str h2 s 58 hl
  obtain ⟨n, hn⟩ : ∃ n, (l ++ s.data.toList).length = n := ⟨_, rfl⟩
  rw [hn] at hr hA
  clear hn
  have hA2 := (hbA.block b h1).trans h3
  obtain ⟨e0, e1, ef⟩ := cell_two hA2
  have k1 := ef 1
  have HR := hide hr
  have HF : Hid (Bld C b (l ++ s.data.toList) (A.setCell ⟨b, 1, none⟩ (.slice o n c))) := ⟨h1, by have := hbA.size; simp; omega, _, _, (heap_two hA2 (.slice o n c)).2, .inr rfl, hA.set (p := ⟨b, 1, none⟩) h1 _⟩
  have HG := hide ((ButB.of (b := b) hbA).set 1 (.slice o n c))
  have HCH := hide (Any.Builder_copyCheck_used { Go.Proofs.Tryz.lays166 with } Go.Proofs.Tryz.Builder_Extra_166.toX72 b w c0)
  clear hr hA hbA hA2 ef cf h5 h3
  go_enter Tryz.func21, Tryz.ntmps21
  go_wp2_with fail
  refine HCH.out.mono ?_
  rintro e w1 ⟨rfl, rfl⟩
  go_wp2_with (at_builtin; refine Lib.wpList_append_run _ rfl _ _ _ _ rfl _ _ rfl rfl _ _ HR.out ?_)
  go_ret2
  exact ⟨rfl, HF.out, HG.out⟩

theorem writeS_any (C b : Nat) (l : List UInt8) (s : ByteArray) (w : World) (h : Bld C b l w) (hl : l.length + s.size ≤ 1000000) :
  Calls Tryz.prog 21 #[.pointer (some ⟨b, 0, none⟩), .string s] w fun e w' => e = .returned (.tuple #[.int .i64 s.size, .nilIface]) ∧ Bld C b (l ++ s.data.toList) w' ∧ ButB C b w w' := by
 obtain ⟨h1, h2, p, v, h3, h4, h5⟩ := h
 exact writeS_at C b l s w p v h1 h2 h3 h4 h5 hl

theorem stringS_any (C b : Nat) (l : List UInt8) (w : World) (h : Bld C b l w) :
  Calls Tryz.prog 23 #[.pointer (some ⟨b, 0, none⟩)] w fun e w' => e = .returned (.string ⟨l.toArray⟩) ∧ Below b w w' := by
 refine (Go.Proofs.Tryz.Builder_String_any_k b b l w h.isB (by have := h.1; have := h.2.1; omega)).mono ?_
 rintro e w' ⟨rfl, -, hb, -⟩
 exact ⟨rfl, hb⟩

end Go.Proofs.YtjdnhdcaifogmaaGreatDoor
