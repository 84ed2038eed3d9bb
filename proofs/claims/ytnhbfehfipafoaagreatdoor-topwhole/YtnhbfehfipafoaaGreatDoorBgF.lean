/- Lists whose elements have several cells: what lies in them, what is appended to them. No function of the program. -/
import Derived.Test.YtnhbfehfipafoaaGreatDoorBgD
import Derived.Lib.AppendZeros

namespace Go.Proofs.YtnhbfehfipafoaaGreatDoor
open Go.RowKit

def SeqV (W : World) (v : Value) (n : Nat) (cs : List Value) : Prop :=
 ∃ ao cap, v = .slice ao n cap ∧ n ≤ cap ∧ (0 < n → ∃ b off, ao = some ⟨b, off, none⟩ ∧ b < W.heap.size ∧ ∀ j u, cs[j]? = some u → W.cell? ⟨b, off + j, none⟩ = some u)

theorem SeqV.below {C : Nat} {W W' : World} {v : Value} {n : Nat} {cs : List Value} (h : SeqV W v n cs) (hb : Below C W W') (hC : W.heap.size ≤ C) : SeqV W' v n cs := by
 obtain ⟨ao, cap, e, hn, h⟩ := h
 refine ⟨ao, cap, e, hn, fun h0 => ?_⟩
 obtain ⟨b, off, e, hlt, h⟩ := h h0
 exact ⟨b, off, e, Nat.lt_of_lt_of_le hlt hb.size, fun j u hu => (hb.cell (p := ⟨b, off + j, none⟩) (Nat.lt_of_lt_of_le hlt hC)).trans (h j u hu)⟩

theorem add_none (b off k : Nat) : (⟨b, off, none⟩ : Addr).add k = ⟨b, off + k, none⟩ := by unfold Addr.add; split <;> simp_all

theorem SeqV.take {W : World} {ao : Option Addr} {cap n sz : Nat} {cs : List Value} (h : SeqV W (.slice ao n cap) n cs) (k : Nat) (hk : k ≤ n) : SeqV W (.slice ao k cap) k (cs.take (k * sz)) := by
 obtain ⟨ao', cap', e, hn, h⟩ := h
 simp only [Value.slice.injEq, true_and] at e
 obtain ⟨rfl, rfl⟩ := e
 refine ⟨ao, cap, rfl, by omega, fun h0 => ?_⟩
 obtain ⟨b, off, e, hlt, h⟩ := h (by omega)
 exact ⟨b, off, e, hlt, fun j u hu => h j u (by
  rw [List.getElem?_take] at hu
  split at hu
  ·exact hu
  ·cases hu)⟩

theorem SeqV.drop {W : World} {ao : Option Addr} {cap n sz : Nat} {cs : List Value} (h : SeqV W (.slice ao n cap) n cs) (k : Nat) (hk : k ≤ n) (so : Option Addr) (hso : k < n → ∀ b off, ao = some ⟨b, off, none⟩ → so = some ⟨b, off + k * sz, none⟩) : SeqV W (.slice so (n - k) (cap - k)) (n - k) (cs.drop (k * sz)) := by
 obtain ⟨ao', cap', e, hn, h⟩ := h
 simp only [Value.slice.injEq, true_and] at e
 obtain ⟨rfl, rfl⟩ := e
 refine ⟨so, cap - k, rfl, by omega, fun h0 => ?_⟩
 obtain ⟨b, off, rfl, hlt, h⟩ := h (by omega)
 refine ⟨b, off + k * sz, hso (by omega) b off rfl, hlt, fun j u hu => ?_⟩
 rw [List.getElem?_drop] at hu
 have := h (k * sz + j) u hu
 rwa [← Nat.add_assoc] at this

theorem append_zero {P : Program} (w : World) (t ty e : TypeId) (i : TypeInfo) (ht : P.underlying t = some (.slice e)) (hi : P.info? e = some i) (b : Option Addr) (n cap : Nat) (hn : n ≤ cap) (ao : Option Addr) (c : Nat) :
  (Builtin.append_ #[t, t] ty #[.slice b n cap, .slice ao 0 c]).run P w = .ok (.slice b n cap) w := by
 cases ao <;> cases b <;> simp [Builtin.append_, run_underlying ht, sizeOf, typeInfo, hi, Builtin.lenOf, Builtin.firstCells, loadCells, loadCellsFrom, hn, storeCells]

theorem seq_more {P : Program} (w W : World) (base : Nat) (hw : w.heap.size ≤ base) (hbw : Below base w W) (hbase : base ≤ W.heap.size) (t ty e : TypeId) (i : TypeInfo) (z : Value) (sz by' : Nat) (ht : P.underlying t = some (.slice e)) (hi : P.info? e = some i) (hz : i.zero = some z)
  (hsize : i.size = sz) (hby : i.bytes = by') (hzs : z.cells.size = sz) (hsz : 0 < sz) (v : Value) (n : Nat) (xs : List Value) (hown : W.ownsRow base e sz v n xs)
  (u : Value) (m : Nat) (ys : List Value) (hl : ys.length = m * sz) (hu : SeqV w u m ys) (h1 : ∀ y ∈ ys, y.oneCell' = true) (h63 : n + m ≤ maxLen) (hbytes : (n + m) * by' ≤ 140737488355328) :
  ∃ o c W', (Builtin.append_ #[t, t] ty #[v, u]).run P W = .ok (.slice o (n + m) c) W' ∧ W'.ownsRow base e sz (.slice o (n + m) c) (n + m) (xs ++ ys) ∧ Below base w W' := by
 obtain ⟨ao, cap, rfl, hcap, hh⟩ := hu
 by_cases h0 : m = 0
 ·subst h0
  obtain ⟨o, c, rfl, hlc⟩ := owns_form hown
  have : ys = [] := List.eq_nil_of_length_eq_zero (by simpa using hl)
  subst this
  exact ⟨o, c, W, append_zero W _ _ _ i ht hi o n c hlc ao cap, by simpa using hown, hbw⟩
 ·obtain ⟨b, off, rfl, hlt, hc⟩ := hh (by omega)
  obtain ⟨v', W', hr, hown', hg, -⟩ := run_append_own (P := P) W base t ty e i z sz by' ht hi hz hsize hby hzs hsz v n xs hown ⟨b, off, none⟩ m cap ys hl (fun j y hy => by rw [add_none]; exact (hbw.cell (p := ⟨b, off + j, none⟩) (Nat.lt_of_lt_of_le hlt hw)).trans (hc j y hy)) h1 h63 hbytes hbase
  obtain ⟨o, c, rfl, -⟩ := owns_form hown'
  exact ⟨o, c, W', hr, hown', hbw.grown hg hbase (fun k hk => (hown.lt k hk).1)⟩

theorem owns_seq {W : World} {base : Nat} {e : TypeId} {sz : Nat} {v : Value} {n : Nat} {xs : List Value} (h : W.ownsRow base e sz v n xs) : SeqV W v n xs := by
 have hx := h.1
 rcases h.2 with ⟨rfl, rfl⟩ | ⟨g, cap, cur, rfl, hb, hh, hc1, hc2, hc3, hc4⟩
 ·exact ⟨none, 0, rfl, Nat.le_refl _, fun h0 => absurd h0 (by omega)⟩
 ·refine ⟨_, cap, rfl, hc1, fun h0 => ⟨g, 0, rfl, heap_lt hh, fun k u hu => ?_⟩⟩
  have hk : k < n * sz := by
   have := (List.getElem?_eq_some_iff.1 hu).1
   omega
  have := World.news_of_block hh k u (by rw [← hc4, List.getElem?_take, if_pos hk] at hu; exact hu)
  rw [add_none] at this
  exact this

theorem owns_zeros (w : World) (e : TypeId) (z : Value) (m cp : Nat) (hge : m ≤ cp) (hle : cp ≤ maxLen) :
  (w.drew.alloc (.cells (Builtin.zeroCells z.cells m ++ Builtin.zeroCells z.cells (cp - m)) e)).ownsRow w.heap.size e z.cells.size (.slice (some ⟨w.heap.size, 0, none⟩) 0 cp) 0 [] := by
 refine ⟨by simp, .inr ⟨w.heap.size, _, _, rfl, Nat.le_refl _, heap_alloc_new w.drew _, Nat.zero_le _, hle, ?_, by simp⟩⟩
 rw [Array.size_append, size_zeroCells, size_zeroCells, ← Nat.add_mul]
 congr 1
 omega

theorem catN_seq {W : World} {v : Value} {qs : List Nc} (h : CatN W v qs) : SeqV W v qs.length (qs.flatMap Nc.cells) := by
 obtain ⟨ao, cap, e, hn, hh⟩ := id h
 refine ⟨ao, cap, e, hn, fun h0 => ?_⟩
 obtain ⟨b, off, e', hlt, -⟩ := hh h0
 subst e e'
 exact ⟨b, off, rfl, hlt.lt, fun j u hu => by have := h.news j u hu; rwa [add_none] at this⟩

theorem catN_of_seq {W : World} {v : Value} {qs : List Nc} (h : SeqV W v qs.length (qs.flatMap Nc.cells)) (hin : ∀ q ∈ qs, NcIn W q) (hkin : KinH W v) : CatN W v qs := by
 obtain ⟨ao, cap, e, hn, hh⟩ := h
 refine ⟨ao, cap, e, hn, fun h0 => ?_⟩
 obtain ⟨b, off, e', hlt, hc⟩ := hh h0
 refine ⟨b, off, e', hkin ⟨b, off, none⟩ _ cap (by rw [e, e']) h0, fun i q hi => ?_⟩
 obtain ⟨hi', rfl⟩ := List.getElem?_eq_some_iff.1 hi
 refine ⟨?_, ?_, ?_, hin _ (List.getElem_mem hi')⟩
 ·have := nccells_at qs i hi' 0 (by omega); rw [Nat.add_zero] at this; exact hc _ _ (by rw [this]; rfl)
 ·have := hc (i * 3 + 1) _ ((nccells_at qs i hi' 1 (by omega)).trans rfl); rwa [← Nat.add_assoc] at this
 ·have := hc (i * 3 + 2) _ ((nccells_at qs i hi' 2 (by omega)).trans rfl); rwa [← Nat.add_assoc] at this

abbrev Gc := Value × List Int

def GcIn (W : World) (g : Gc) : Prop := RowS W g.1 g.2 ∧ KinH W g.1

theorem GcIn.below {C : Nat} {W W' : World} {g : Gc} (h : GcIn W g) (hb : Below C W W') (hC : W.heap.size ≤ C) : GcIn W' g := ⟨RowS.below h.1 hb hC, h.2.below hb hC⟩

theorem GcIn.set {W : World} {g : Gc} (h : GcIn W g) {p : Addr} {x : Value} (hr : RowS (W.setCell p x) g.1 g.2) : GcIn (W.setCell p x) g := ⟨hr, h.2.set p x⟩

theorem GensIn.set {W : World} {v : Value} {gs : List (List Int)} (h : GensIn W v gs) {p : Addr} {x : Value} (h' : RowsS (W.setCell p x) v gs) (hne : ∀ r ∈ gs, ∀ u, W.cell? p = some u → ¬ RowS W u r) : GensIn (W.setCell p x) v gs := by
 refine ⟨h', h.2.1.set p x, fun b off n c e i hi u hu => ?_⟩
 obtain ⟨⟨ao, cap, e', hn, hh⟩, hk⟩ := h
 have hk2 := hk.2 b off n c e i hi
 rw [e] at e'
 simp only [Value.slice.injEq] at e'
 obtain ⟨e1, rfl, -⟩ := e'
 obtain ⟨b', off', e2, -, hc⟩ := hh (by omega)
 rw [← e1] at e2
 simp only [Option.some.injEq, Addr.mk.injEq, and_true] at e2
 obtain ⟨rfl, rfl⟩ := e2
 obtain ⟨u', hu', hr⟩ := hc i _ (List.getElem?_eq_getElem hi)
 rw [World.cell?_setCell_other _ _ _ _ (fun e3 => hne _ (List.getElem_mem hi) u' (by rw [e3]; exact hu') hr)] at hu
 exact (hk2 u hu).set p x

theorem rowsS_seq {W : World} {v : Value} {gs : List (List Int)} (h : GensIn W v gs) : ∃ ps : List Gc, ps.map (·.2) = gs ∧ SeqV W v ps.length (ps.map (·.1)) ∧ ∀ g ∈ ps, GcIn W g := by
 obtain ⟨⟨ao, cap, rfl, hn, hh⟩, hkin⟩ := h
 by_cases h0 : gs.length = 0
 ·obtain rfl := List.eq_nil_of_length_eq_zero h0
  exact ⟨[], rfl, ⟨ao, cap, rfl, by simp, fun h => absurd h (by simp)⟩, fun _ h => by cases h⟩
 ·obtain ⟨b, off, rfl, hlt, hc⟩ := hh (by omega)
  let f : Nat → Value := fun i => if hi : i < gs.length then Classical.choose (hc i gs[i] (by simp [hi])) else undef
  have hf : ∀ i (hi : i < gs.length), W.cell? ⟨b, off + i, none⟩ = some (f i) ∧ RowS W (f i) gs[i] := fun i hi => by
   have := Classical.choose_spec (hc i gs[i] (by simp [hi]))
   simpa only [f, dif_pos hi] using this
  have hrl : ((List.range gs.length).map fun i => (f i, gs.getD i [])).length = gs.length := by simp
  refine ⟨(List.range gs.length).map fun i => (f i, gs.getD i []), ?_, ⟨_, cap, by rw [hrl], by rw [hrl]; exact hn, fun _ => ⟨b, off, rfl, hlt, fun j u hu => ?_⟩⟩, fun g hg => ?_⟩
  ·apply List.ext_getElem (by rw [List.length_map, hrl])
   intro i h1 h2
   rw [List.getElem_map, List.getElem_map, List.getElem_range, List.getD_eq_getElem?_getD, List.getElem?_eq_getElem h2]; rfl
  ·have hj : j < gs.length := by have := (List.getElem?_eq_some_iff.1 hu).1; simpa using this
   rw [List.getElem?_map, List.getElem?_map, List.getElem?_range hj] at hu
   rw [(hf j hj).1]
   simpa using hu
  ·obtain ⟨i, hi, rfl⟩ := List.getElem_of_mem hg
   rw [hrl] at hi
   have := (hf i hi).2
   rw [List.getElem_map, List.getElem_range]
   refine ⟨?_, hkin.2 b off _ cap rfl i hi _ (hf i hi).1⟩
   show RowS W (f i) (gs.getD i [])
   rwa [List.getD_eq_getElem?_getD, List.getElem?_eq_getElem hi]

theorem rowsS_of_seq {W : World} {v : Value} {ps : List Gc} (h : SeqV W v ps.length (ps.map (·.1))) (hin : ∀ g ∈ ps, GcIn W g) (hkin : KinH W v) : GensIn W v (ps.map (·.2)) := by
 refine ⟨?_, hkin, fun b off n c e i hi u hu => ?_⟩
 rotate_left
 ·obtain ⟨ao, cap, e', hn, hh⟩ := h
  rw [e] at e'
  simp only [Value.slice.injEq] at e'
  obtain ⟨e1, rfl, -⟩ := e'
  obtain ⟨b', off', e2, -, hc⟩ := hh (by omega)
  rw [← e1] at e2
  simp only [Option.some.injEq, Addr.mk.injEq, and_true] at e2
  obtain ⟨rfl, rfl⟩ := e2
  have := hc i _ (by rw [List.getElem?_map, List.getElem?_eq_getElem hi]; rfl)
  rw [hu] at this
  obtain rfl := Option.some.inj this
  exact (hin _ (List.getElem_mem hi)).2
 obtain ⟨ao, cap, e, hn, hh⟩ := h
 refine ⟨ao, cap, by rw [List.length_map]; exact e, by rw [List.length_map]; exact hn, fun h0 => ?_⟩
 rw [List.length_map] at h0
 obtain ⟨b, off, e', hlt, hc⟩ := hh h0
 refine ⟨b, off, e', hlt, fun i r hi => ?_⟩
 obtain ⟨hi', rfl⟩ := List.getElem?_eq_some_iff.1 hi
 rw [List.length_map] at hi'
 exact ⟨ps[i].1, hc i _ (by rw [List.getElem?_map, List.getElem?_eq_getElem hi']; rfl), by rw [List.getElem_map]; exact (hin _ (List.getElem_mem hi')).1⟩

theorem gcells_one {W : World} {ps : List Gc} (hin : ∀ g ∈ ps, GcIn W g) : ∀ u ∈ ps.map (·.1), u.oneCell' = true := fun u hu => by
 obtain ⟨g, hg, rfl⟩ := List.mem_map.1 hu
 obtain ⟨ao, cap, e, -⟩ := (hin g hg).1
 rw [e]; rfl

end Go.Proofs.YtnhbfehfipafoaaGreatDoor

/- slices.Grow, Concat and Clone of lists of named lattices, and of generators. -/
namespace Go.Proofs.YtnhbfehfipafoaaGreatDoor
open Go.RowKit

theorem Tryz.infoNamed : (Tryz.prog.info? 107).map (fun i => (i.zero, i.size, i.bytes)) = some (some (.agg #[.string ⟨#[]⟩, .int .i64 0, .slice none 0 0]), 3, 48) := by kernel_rfl
theorem Tryz.infoIntsB : (Tryz.prog.info? 41).map (fun i => (i.zero, i.size, i.bytes)) = some (some (.slice none 0 0), 1, 24) := by kernel_rfl

structure Lists (w : World) (rb : Nat) (us : List Value) (ns : List Nat) (css : List (List Value)) : Prop where
 lt : rb < w.heap.size
 ln : ns.length = us.length
 lc : css.length = us.length
 at' : ∀ k (h : k < us.length), w.cell? ⟨rb, k, none⟩ = some us[k] ∧ SeqV w us[k] (ns[k]'(by omega)) (css[k]'(by omega))

theorem Lists.below {w w' : World} {rb : Nat} {us : List Value} {ns : List Nat} {css : List (List Value)} (h : Lists w rb us ns css) (hb : Below w.heap.size w w') : Lists w' rb us ns css :=
 ⟨Nat.lt_of_lt_of_le h.lt hb.size, h.ln, h.lc, fun k hk => ⟨(hb.cell (p := ⟨rb, k, none⟩) h.lt).trans (h.at' k hk).1, (h.at' k hk).2.below hb (Nat.le_refl _)⟩⟩

theorem sum_take_succ (ns : List Nat) (k : Nat) (h : k < ns.length) : (ns.take (k + 1)).sum = (ns.take k).sum + ns[k] := by
 rw [List.take_succ_eq_append_getElem h, List.sum_append]; simp

theorem sum_take_le (ns : List Nat) (k : Nat) : (ns.take k).sum ≤ ns.sum := by
 conv => rhs; rw [← List.take_append_drop k ns]
 rw [List.sum_append]; omega

theorem flat_take_succ (css : List (List Value)) (k : Nat) (h : k < css.length) : (css.take (k + 1)).flatten = (css.take k).flatten ++ css[k] := by
 rw [List.take_succ_eq_append_getElem h, List.flatten_append]; simp

set_option linter.unusedSimpArgs false in
set_option maxRecDepth 100000 in
set_option maxHeartbeats 1600000 in
theorem growN (w : World) (m : Nat) (hm : m ≤ 1000) :
  Calls Tryz.prog 139 #[.slice none 0 0, .int .i64 (m : Int)] w fun e w' => ∃ v, e = .returned v ∧ w'.ownsRow w.heap.size 107 3 v 0 [] ∧ Below w.heap.size w w' := by
 obtain ⟨j0, hj, hy0, hy1, hy2⟩ := info_got Tryz.infoNamed
 by_cases h0 : m = 0
 ·subst h0
  clear hj hy0 hy1 hy2
  go_enter Tryz.func139, Tryz.ntmps139
  go_wp2
  go_ret
  exact ⟨_, rfl, World.ownsRow_nil _ _ _ _, Below.refl _ _⟩
 ·have HR := hide (fun ty => Lib.run_append_nil_zeros (P := Tryz.prog) w 36 3 ty 107 j0 (.agg #[.string ⟨#[]⟩, .int .i64 0, .slice none 0 0]) .i64 .i64 (by kernel_rfl) (by kernel_rfl) hj hy0 m (by omega) (by omega) (by omega) (by rw [hy2]; omega))
  have hge := grownCap_ge w m 0 107
  have hle := grownCap_le_maxLen w m 0 107 (by unfold maxLen; omega)
  clear hj hy0 hy1 hy2
  have HG : Hid ((w.drew.alloc (.cells (Builtin.zeroCells (Value.cells (.agg #[.string ⟨#[]⟩, .int .i64 0, .slice none 0 0])) m ++ Builtin.zeroCells (Value.cells (.agg #[.string ⟨#[]⟩, .int .i64 0, .slice none 0 0])) (grownCap w m 0 107 - m)) 107)).ownsRow w.heap.size 107 3 (.slice (some ⟨w.heap.size, 0, none⟩) 0 (grownCap w m 0 107)) 0 []) := owns_zeros w 107 (.agg #[.string ⟨#[]⟩, .int .i64 0, .slice none 0 0]) m _ hge hle
  have HB := hide ((Below.refl w.heap.size w).drew.alloc (Nat.le_refl _) (.cells (Builtin.zeroCells (Value.cells (.agg #[.string ⟨#[]⟩, .int .i64 0, .slice none 0 0])) m ++ Builtin.zeroCells (Value.cells (.agg #[.string ⟨#[]⟩, .int .i64 0, .slice none 0 0])) (grownCap w m 0 107 - m)) 107))
  generalize w.drew.alloc (.cells (Builtin.zeroCells (Value.cells (.agg #[.string ⟨#[]⟩, .int .i64 0, .slice none 0 0])) m ++ Builtin.zeroCells (Value.cells (.agg #[.string ⟨#[]⟩, .int .i64 0, .slice none 0 0])) (grownCap w m 0 107 - m)) 107) = W1 at *
  generalize grownCap w m 0 107 = cp at *
  unfold maxLen at hle
  go_enter Tryz.func139, Tryz.ntmps139
  go_wp2_with (at_builtin; refine Lib.wpList_append_run _ rfl _ _ _ _ rfl _ _ rfl rfl _ _ (HR.out _) ?_)
  go_wp2
  go_ret
  exact ⟨_, rfl, HG.out, HB.out⟩

set_option linter.unusedSimpArgs false in
set_option maxRecDepth 100000 in
set_option maxHeartbeats 1600000 in
theorem concatN (w : World) (rb c : Nat) (us : List Value) (ns : List Nat) (css : List (List Value)) (h : Lists w rb us ns css) (h0 : 0 < us.length) (hu9 : us.length ≤ 9) (hs : ns.sum ≤ 1000) (hone : ∀ cs ∈ css, ∀ y ∈ cs, y.oneCell' = true) (hlen : ∀ k (h : k < css.length) (h' : k < ns.length), css[k].length = ns[k] * 3) :
  Calls Tryz.prog 120 #[.slice (some ⟨rb, 0, none⟩) us.length c] w fun e w' => ∃ v, e = .returned v ∧ w'.ownsRow w.heap.size 107 3 v ns.sum css.flatten ∧ Below w.heap.size w w' := by
 obtain ⟨j0, hj, hy0, hy1, hy2⟩ := info_got Tryz.infoNamed
 have HT := hide h; have HO := hide hone; have HLN := hide hlen
 have hln := h.ln; have hlc := h.lc
 have HMORE := hide (fun (W : World) (hbw : Below w.heap.size w W) (v : Value) (n : Nat) (xs : List Value) (hown : W.ownsRow w.heap.size 107 3 v n xs) (u : Value) (m : Nat) (ys : List Value) (hl : ys.length = m * 3) (hu : SeqV w u m ys) (h1 : ∀ y ∈ ys, y.oneCell' = true) (hnm : n + m ≤ 1000) => seq_more (P := Tryz.prog) w W w.heap.size (Nat.le_refl _) hbw hbw.size 36 36 107 j0 (.agg #[.string ⟨#[]⟩, .int .i64 0, .slice none 0 0]) 3 48 (by kernel_rfl) hj hy0 hy1 hy2 rfl (by decide) v n xs hown u m ys hl hu h1 (by unfold maxLen; omega) (by omega))
 clear h hone hlen hj hy0 hy1 hy2
 go_enter Tryz.func120, Tryz.ntmps120
 go_wp2
 go_loopw [3, 11] (fun s i wr => ∃ k : Nat, k ≤ us.length ∧ i = .int .i64 k ∧ s = .int .i64 ((ns.take k).sum : Nat) ∧ w = wr) (fun _ i _ => us.length - (intOf i).toNat)
 case atStart => exact ⟨0, Nat.zero_le _, rfl, rfl, rfl⟩
 case round =>
  obtain ⟨k, hk, rfl, rfl, rfl⟩ := hrel
  by_cases hkl : k < us.length
  ·obtain ⟨c0, hseq⟩ := HT.out.at' k hkl
   obtain ⟨ao, cap, e, -⟩ := hseq
   rw [e] at c0
   have hst := sum_take_succ ns k (by omega)
   have hs1 := sum_take_le ns (k + 1)
   generalize (ns.take k).sum = S0 at *
   generalize ns[k] = nk at *
   have hS1 : S0 + nk ≤ 1000 := by omega
   have HST := hide hst
   clear e hst hs1
   go_wp2
   go_roundw
   case rel => exact ⟨k + 1, by omega, by go_num, (by rw [HST.out]; go_num), (by first | rfl | trivial)⟩
   case measure => simp [intOf]; omega
  ·obtain rfl : k = us.length := by omega
   have e0 : (ns.take us.length).sum = ns.sum := by rw [← hln, List.take_length]
   rw [e0]
   clear e0
   go_wp2_with fail
   refine (growN w ns.sum hs).mono ?_
   rintro e w1 ⟨v, rfl, hg, hb⟩
   have HG := hide hg; have HB := hide hb
   clear hg hb
   go_wp2
   go_loopw [6, 27] (fun s i wo => ∃ (k : Nat), k ≤ us.length ∧ i = .int .i64 k ∧ Hid (wo.ownsRow w.heap.size 107 3 s (ns.take k).sum (css.take k).flatten) ∧ Hid (Below w.heap.size w wo)) (fun _ i _ => us.length - (intOf i).toNat)
   case atStart => exact ⟨0, Nat.zero_le _, rfl, HG, HB⟩
   case round =>
    obtain ⟨k, hk, rfl, HGV, HBO⟩ := hrel
    by_cases hkl : k < us.length
    ·obtain ⟨c0, hseq⟩ := HT.out.at' k hkl
     have c1 := (HBO.out.cell (p := ⟨rb, k, none⟩) HT.out.lt).trans c0
     have hst := sum_take_succ ns k (by omega)
     have hs1 := sum_take_le ns (k + 1)
     obtain ⟨o, cp, W', hr, hown, hbel⟩ := HMORE.out wr HBO.out _ _ _ HGV.out us[k] ns[k] css[k] (HLN.out k (by omega) (by omega)) hseq (HO.out _ (List.getElem_mem _)) (by omega)
     rw [← hst, ← flat_take_succ css k (by omega)] at hown
     rw [← hst] at hr
     have HR := hide hr; have HW := hide hown; have HBL := hide hbel
     obtain ⟨ao, cap, e, -⟩ := hseq
     rw [e] at c1 HR
     clear hr hown hbel c0 e hst HGV HBO
     obtain ⟨S1, hS⟩ : ∃ S1, (ns.take (k + 1)).sum = S1 := ⟨_, rfl⟩
     rw [hS] at HR HW
     have HS := hide hS
     clear hS hs1
     go_wp2_with (at_builtin; refine Lib.wpList_append_run _ rfl _ _ _ _ rfl _ _ rfl rfl _ _ HR.out ?_)
     go_wp2
     go_roundw
     case rel => exact ⟨k + 1, by omega, by go_num, (by rw [HS.out]; exact HW), HBL⟩
     case measure => simp [intOf]; omega
    ·obtain rfl : k = us.length := by omega
     have HM := HGV.out
     rw [show ns.take us.length = ns by rw [← hln, List.take_length], show css.take us.length = css by rw [← hlc, List.take_length]] at HM
     have HM2 := hide HM
     clear HM
     go_wp2
     go_ret
     exact ⟨_, rfl, HM2.out, HBO.out⟩

set_option linter.unusedSimpArgs false in
set_option maxRecDepth 100000 in
set_option maxHeartbeats 1600000 in
theorem cloneN (w : World) (u : Value) (m : Nat) (ys : List Value) (hu : SeqV w u m ys) (hl : ys.length = m * 3) (hm : m ≤ 1000) (h1 : ∀ y ∈ ys, y.oneCell' = true) :
  Calls Tryz.prog 140 #[u] w fun e w' => ∃ v, e = .returned v ∧ w'.ownsRow w.heap.size 107 3 v m ys ∧ Below w.heap.size w w' := by
 obtain ⟨j0, hj, hy0, hy1, hy2⟩ := info_got Tryz.infoNamed
 obtain ⟨ao, cap, rfl, -⟩ := id hu
 cases ao with
 | none =>
  obtain ⟨ao', cap', e, -, hh⟩ := hu
  simp only [Value.slice.injEq, true_and] at e
  have hm0 : m = 0 := by
   rcases Nat.eq_zero_or_pos m with h | h
   ·exact h
   ·obtain ⟨b, off, e', -⟩ := hh h
    rw [e'] at e
    cases e.1
  subst hm0
  obtain rfl : ys = [] := List.eq_nil_of_length_eq_zero (by simpa using hl)
  have g : Sem.run Tryz.prog (binOp .eql 36 (.slice none 0 cap) (.slice none 0 0)) w = .ok (.bool true) w := by kernel_rfl
  clear hj hy0 hy1 hy2 hh e
  go_enter Tryz.func140, Tryz.ntmps140
  go_wp2
  go_ret
  exact ⟨_, rfl, World.ownsRow_nil _ _ _ _, Below.refl _ _⟩
 | some ad =>
  have g : Sem.run Tryz.prog (binOp .eql 36 (.slice (some ad) m cap) (.slice none 0 0)) w = .ok (.bool false) w := by kernel_rfl
  have hb1 : Below w.heap.size w (w.alloc (.cells #[] 107)) := alloc_below w _
  obtain ⟨o, c, W', hr, hown, hbel⟩ := seq_more (P := Tryz.prog) w (w.alloc (.cells #[] 107)) w.heap.size (Nat.le_refl _) hb1 hb1.size 36 36 107 j0 (.agg #[.string ⟨#[]⟩, .int .i64 0, .slice none 0 0]) 3 48 (by kernel_rfl) hj hy0 hy1 hy2 rfl (by decide) (.slice (some ⟨w.heap.size, 0, none⟩) 0 0) 0 [] ⟨by simp, .inr ⟨w.heap.size, 0, #[], rfl, Nat.le_refl _, heap_alloc_new w _, Nat.le_refl _, Nat.zero_le _, by simp, by simp⟩⟩ _ m ys hl hu h1 (by unfold maxLen; omega) (by omega)
  rw [Nat.zero_add, List.nil_append] at hown
  rw [Nat.zero_add] at hr
  have HR := hide hr; have HW := hide hown; have HBL := hide hbel
  clear hj hy0 hy1 hy2 hu hr hown hbel hb1
  go_enter Tryz.func140, Tryz.ntmps140
  go_wp2_with (at_builtin; refine Lib.wpList_append_run _ rfl _ _ _ _ rfl _ _ rfl rfl _ _ HR.out ?_)
  go_wp2
  go_ret
  exact ⟨_, rfl, HW.out, HBL.out⟩

set_option linter.unusedSimpArgs false in
set_option maxRecDepth 100000 in
set_option maxHeartbeats 1600000 in
theorem growG (w : World) (m : Nat) (hm : m ≤ 1000) :
  Calls Tryz.prog 141 #[.slice none 0 0, .int .i64 (m : Int)] w fun e w' => ∃ v, e = .returned v ∧ w'.ownsRow w.heap.size 41 1 v 0 [] ∧ Below w.heap.size w w' := by
 obtain ⟨j0, hj, hy0, hy1, hy2⟩ := info_got Tryz.infoIntsB
 by_cases h0 : m = 0
 ·subst h0
  clear hj hy0 hy1 hy2
  go_enter Tryz.func141, Tryz.ntmps141
  go_wp2
  go_ret
  exact ⟨_, rfl, World.ownsRow_nil _ _ _ _, Below.refl _ _⟩
 ·have HR := hide (fun ty => Lib.run_append_nil_zeros (P := Tryz.prog) w 105 3 ty 41 j0 (.slice none 0 0) .i64 .i64 (by kernel_rfl) (by kernel_rfl) hj hy0 m (by omega) (by omega) (by omega) (by rw [hy2]; omega))
  have hge := grownCap_ge w m 0 41
  have hle := grownCap_le_maxLen w m 0 41 (by unfold maxLen; omega)
  clear hj hy0 hy1 hy2
  have HG : Hid ((w.drew.alloc (.cells (Builtin.zeroCells (Value.cells (.slice none 0 0)) m ++ Builtin.zeroCells (Value.cells (.slice none 0 0)) (grownCap w m 0 41 - m)) 41)).ownsRow w.heap.size 41 1 (.slice (some ⟨w.heap.size, 0, none⟩) 0 (grownCap w m 0 41)) 0 []) := owns_zeros w 41 (.slice none 0 0) m _ hge hle
  have HB := hide ((Below.refl w.heap.size w).drew.alloc (Nat.le_refl _) (.cells (Builtin.zeroCells (Value.cells (.slice none 0 0)) m ++ Builtin.zeroCells (Value.cells (.slice none 0 0)) (grownCap w m 0 41 - m)) 41))
  generalize w.drew.alloc (.cells (Builtin.zeroCells (Value.cells (.slice none 0 0)) m ++ Builtin.zeroCells (Value.cells (.slice none 0 0)) (grownCap w m 0 41 - m)) 41) = W1 at *
  generalize grownCap w m 0 41 = cp at *
  unfold maxLen at hle
  go_enter Tryz.func141, Tryz.ntmps141
  go_wp2_with (at_builtin; refine Lib.wpList_append_run _ rfl _ _ _ _ rfl _ _ rfl rfl _ _ (HR.out _) ?_)
  go_wp2
  go_ret
  exact ⟨_, rfl, HG.out, HB.out⟩

set_option linter.unusedSimpArgs false in
set_option maxRecDepth 100000 in
set_option maxHeartbeats 1600000 in
theorem concatG (w : World) (rb c : Nat) (us : List Value) (ns : List Nat) (css : List (List Value)) (h : Lists w rb us ns css) (h0 : 0 < us.length) (hu9 : us.length ≤ 9) (hs : ns.sum ≤ 1000) (hone : ∀ cs ∈ css, ∀ y ∈ cs, y.oneCell' = true) (hlen : ∀ k (h : k < css.length) (h' : k < ns.length), css[k].length = ns[k] * 1) :
  Calls Tryz.prog 124 #[.slice (some ⟨rb, 0, none⟩) us.length c] w fun e w' => ∃ v, e = .returned v ∧ w'.ownsRow w.heap.size 41 1 v ns.sum css.flatten ∧ Below w.heap.size w w' := by
 obtain ⟨j0, hj, hy0, hy1, hy2⟩ := info_got Tryz.infoIntsB
 have HT := hide h; have HO := hide hone; have HLN := hide hlen
 have hln := h.ln; have hlc := h.lc
 have HMORE := hide (fun (W : World) (hbw : Below w.heap.size w W) (v : Value) (n : Nat) (xs : List Value) (hown : W.ownsRow w.heap.size 41 1 v n xs) (u : Value) (m : Nat) (ys : List Value) (hl : ys.length = m * 1) (hu : SeqV w u m ys) (h1 : ∀ y ∈ ys, y.oneCell' = true) (hnm : n + m ≤ 1000) => seq_more (P := Tryz.prog) w W w.heap.size (Nat.le_refl _) hbw hbw.size 105 105 41 j0 (.slice none 0 0) 1 24 (by kernel_rfl) hj hy0 hy1 hy2 rfl (by decide) v n xs hown u m ys hl hu h1 (by unfold maxLen; omega) (by omega))
 clear h hone hlen hj hy0 hy1 hy2
 go_enter Tryz.func124, Tryz.ntmps124
 go_wp2
 go_loopw [3, 11] (fun s i wr => ∃ k : Nat, k ≤ us.length ∧ i = .int .i64 k ∧ s = .int .i64 ((ns.take k).sum : Nat) ∧ w = wr) (fun _ i _ => us.length - (intOf i).toNat)
 case atStart => exact ⟨0, Nat.zero_le _, rfl, rfl, rfl⟩
 case round =>
  obtain ⟨k, hk, rfl, rfl, rfl⟩ := hrel
  by_cases hkl : k < us.length
  ·obtain ⟨c0, hseq⟩ := HT.out.at' k hkl
   obtain ⟨ao, cap, e, -⟩ := hseq
   rw [e] at c0
   have hst := sum_take_succ ns k (by omega)
   have hs1 := sum_take_le ns (k + 1)
   generalize (ns.take k).sum = S0 at *
   generalize ns[k] = nk at *
   have hS1 : S0 + nk ≤ 1000 := by omega
   have HST := hide hst
   clear e hst hs1
   go_wp2
   go_roundw
   case rel => exact ⟨k + 1, by omega, by go_num, (by rw [HST.out]; go_num), (by first | rfl | trivial)⟩
   case measure => simp [intOf]; omega
  ·obtain rfl : k = us.length := by omega
   have e0 : (ns.take us.length).sum = ns.sum := by rw [← hln, List.take_length]
   rw [e0]
   clear e0
   go_wp2_with fail
   refine (growG w ns.sum hs).mono ?_
   rintro e w1 ⟨v, rfl, hg, hb⟩
   have HG := hide hg; have HB := hide hb
   clear hg hb
   go_wp2
   go_loopw [6, 27] (fun s i wo => ∃ (k : Nat), k ≤ us.length ∧ i = .int .i64 k ∧ Hid (wo.ownsRow w.heap.size 41 1 s (ns.take k).sum (css.take k).flatten) ∧ Hid (Below w.heap.size w wo)) (fun _ i _ => us.length - (intOf i).toNat)
   case atStart => exact ⟨0, Nat.zero_le _, rfl, HG, HB⟩
   case round =>
    obtain ⟨k, hk, rfl, HGV, HBO⟩ := hrel
    by_cases hkl : k < us.length
    ·obtain ⟨c0, hseq⟩ := HT.out.at' k hkl
     have c1 := (HBO.out.cell (p := ⟨rb, k, none⟩) HT.out.lt).trans c0
     have hst := sum_take_succ ns k (by omega)
     have hs1 := sum_take_le ns (k + 1)
     obtain ⟨o, cp, W', hr, hown, hbel⟩ := HMORE.out wr HBO.out _ _ _ HGV.out us[k] ns[k] css[k] (HLN.out k (by omega) (by omega)) hseq (HO.out _ (List.getElem_mem _)) (by omega)
     rw [← hst, ← flat_take_succ css k (by omega)] at hown
     rw [← hst] at hr
     have HR := hide hr; have HW := hide hown; have HBL := hide hbel
     obtain ⟨ao, cap, e, -⟩ := hseq
     rw [e] at c1 HR
     clear hr hown hbel c0 e hst HGV HBO
     obtain ⟨S1, hS⟩ : ∃ S1, (ns.take (k + 1)).sum = S1 := ⟨_, rfl⟩
     rw [hS] at HR HW
     have HS := hide hS
     clear hS hs1
     go_wp2_with (at_builtin; refine Lib.wpList_append_run _ rfl _ _ _ _ rfl _ _ rfl rfl _ _ HR.out ?_)
     go_wp2
     go_roundw
     case rel => exact ⟨k + 1, by omega, by go_num, (by rw [HS.out]; exact HW), HBL⟩
     case measure => simp [intOf]; omega
    ·obtain rfl : k = us.length := by omega
     have HM := HGV.out
     rw [show ns.take us.length = ns by rw [← hln, List.take_length], show css.take us.length = css by rw [← hlc, List.take_length]] at HM
     have HM2 := hide HM
     clear HM
     go_wp2
     go_ret
     exact ⟨_, rfl, HM2.out, HBO.out⟩

end Go.Proofs.YtnhbfehfipafoaaGreatDoor
