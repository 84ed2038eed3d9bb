/- What stays where a variable of a lattice is written, and where rows of the reference grow. -/
import Derived.Test.YtjblidoilphifadGreatDoorLatQ
import Derived.Test.YtjblidoilphifadGreatDoorRowO
import Derived.Test.YtjblidoilphifadGreatDoorGrowB
import Derived.Test.YtjblidoilphifadGreatDoorSwap
import Derived.Test.YtjblidoilphifadGreatDoorVecX

namespace Go.Proofs.YtjblidoilphifadGreatDoor
open Go.RowKit Limbs Digs

/-- A slice is appended to slices; and where they lie then. -/
theorem wpList_append_slh {P : Program} {w : World} {ops : Array Oper} {rest : List Oper} {op : Oper} {a : Act} {Q : Exit → Act → World → Prop} (hgd : op.guard = none) (s x : Operand) (t : TypeId)
    (ho : op.op = .call { callee := .builtin .append, args := #[s, x], argTypes := #[t, t] })
    (base : Nat) (e : TypeId) (i : TypeInfo) (bytes : Nat) (ht : P.underlying t = some (.slice e)) (hi : P.info? e = some i) (hz : i.zero = some (.slice none 0 0))
    (hsize : i.size = 1) (hby : i.bytes = bytes) (v : Value) (n : Nat) (xs : List Value) (hs : a.eval s = v) (hown : w.ownsRow base e 1 v n xs) (hall : AllSl w v.ownBlock)
    (ad : Addr) (cc : Nat) (o : Option Addr) (l c : Nat) (hx : a.eval x = .slice (some ad) 1 cc) (hnews : ∀ j u, [Value.slice o l c][j]? = some u → w.cell? (ad.add j) = some u)
    (h63 : n + 1 ≤ maxLen) (hbytes : (n + 1) * bytes ≤ 140737488355328) (hbase : base ≤ w.heap.size)
    (h : ∀ g cap w', w'.ownsRow base e 1 (.slice (some ⟨g, 0, none⟩) (n + 1) cap) (n + 1) (xs ++ [.slice o l c]) → w.grownBy w' v.ownBlock → AllSl w' (some g) → (v.ownBlock = some g ∨ g = w.heap.size) → wpList P ops Q rest (a.put op.dst (.slice (some ⟨g, 0, none⟩) (n + 1) cap)) w') : wpList P ops Q (op :: rest) a w := by
  refine wpList_plain hgd fun K hK => ?_
  subst hby
  obtain ⟨g, cap, w', hr, h2, h3, h4, h5⟩ := run_append_lies (P := P) w t op.type base e i (.slice none 0 0) 1 i.bytes ht hi hz hsize rfl rfl (by decide) v n xs hown ad 1 cc [.slice o l c] rfl hnews (fun u hu => by rw [List.mem_singleton] at hu; rw [hu]; rfl) (by decide) h63 hbytes hbase _ rfl
  have hA := run_append_sl w t op.type base e i ht hi hz hsize v n xs hown hall ad o l c cc hnews h63 hbytes g cap w' hr
  unfold Oper.wp execOp
  simp only [ho, resolve, invoke, builtin, Sem.run_bind, Sem.run_pure, Result.andThen_ok, List.map_toArray, List.map_cons, List.map_nil, hs, hx, hr]
  exact hK _ _ (h g cap w' h2 h3 hA h4)

/-- A list of rows that lies apart from that block. -/
def Sep (u : Value) (row : Option Nat) : Prop := ∀ a l c, u = .slice (some a) l c → some a.block ≠ row

theorem Fresh.sep {base g : Nat} {u : Value} (h : Fresh base u) (hg : g < base) : Sep u (some g) := fun a l c e h' => by
  have := h a l c e
  simp only [Option.some.injEq] at h'
  omega

theorem MatN.grownH {W W' : World} {row : Option Nat} {u : Value} {hs : List (List Int)} {n : Nat} (h : MatN W u hs n) (hg : W.grownBy W' row) (hr : AllSl W row) (hsep : 0 < hs.length → Sep u row) : MatN W' u hs n := by
  obtain ⟨ao, cap, rfl, h1, h2⟩ := h
  refine ⟨ao, cap, rfl, h1, fun h0 => ?_⟩
  obtain ⟨b, off, rfl, hlt, hc⟩ := h2 h0
  refine ⟨b, off, rfl, Nat.lt_of_lt_of_le hlt hg.size, fun i zs hi => ?_⟩
  obtain ⟨v, cv, hv⟩ := hc i zs hi
  exact ⟨v, hg.cell cv (show some b ≠ row from hsep h0 _ _ _ rfl), hv.grownS hg hr⟩

/-- A lattice's own variable is written: rows whose list is another block stay. -/
theorem MatN.setVar {W : World} {B : Nat} {u : Value} {hs : List (List Int)} {nv : Nat} {x : Int} {o : Option Addr} {l c : Nat} (y z : Value) (h : MatN W u hs nv) (hsep : 0 < hs.length → Sep u (some B)) (c0 : W.cell? ⟨B, 0, none⟩ = some (.int .i64 x)) (c1 : W.cell? ⟨B, 1, none⟩ = some (.slice o l c)) :
    MatN ((W.setCell ⟨B, 0, none⟩ y).setCell ⟨B, 1, none⟩ z) u hs nv := by
  have k1 : (W.setCell ⟨B, 0, none⟩ y).cell? ⟨B, 1, none⟩ = some (.slice o l c) := Eq.trans (World.cell?_setCell_other (h := fun e => by simp at e) ..) c1
  have stay : ∀ (b o : Nat) (v : Value), W.cell? ⟨b, o, none⟩ = some v → ¬ (b = B ∧ o = 0) → ¬ (b = B ∧ o = 1) → ((W.setCell ⟨B, 0, none⟩ y).setCell ⟨B, 1, none⟩ z).cell? ⟨b, o, none⟩ = some v := fun b o v hv h0 h1 =>
    Eq.trans (World.cell?_setCell_other (h := fun e => h1 (by simp only [Addr.mk.injEq, and_true] at e; exact ⟨e.1.symm, e.2.symm⟩)) ..) (Eq.trans (World.cell?_setCell_other (h := fun e => h0 (by simp only [Addr.mk.injEq, and_true] at e; exact ⟨e.1.symm, e.2.symm⟩)) ..) hv)
  have hsz : ((W.setCell ⟨B, 0, none⟩ y).setCell ⟨B, 1, none⟩ z).heap.size = W.heap.size := by simp
  obtain ⟨ao, cap, rfl, h1, h2⟩ := h
  refine ⟨ao, cap, rfl, h1, fun hh => ?_⟩
  obtain ⟨b, off, rfl, hlt, hc⟩ := h2 hh
  have hbB : b ≠ B := fun e => hsep hh _ _ _ rfl (by rw [e])
  refine ⟨b, off, rfl, by rw [hsz]; exact hlt, fun i zs hi => ?_⟩
  obtain ⟨v, cv, hv⟩ := hc i zs hi
  refine ⟨_, stay _ _ _ cv (fun h => hbB h.1) (fun h => hbB h.1), ?_⟩
  obtain ⟨vo, vcap, ev, g1, g2⟩ := hv
  refine ⟨vo, vcap, ev, g1, fun h0 => ?_⟩
  obtain ⟨vb, voff, e, vlt, hat⟩ := g2 h0
  refine ⟨vb, voff, e, by rw [hsz]; exact vlt, fun j hj => ?_⟩
  obtain ⟨neg, o', l', c', d0, d1, hn⟩ := hat j hj
  refine ⟨neg, o', l', c', stay _ _ _ d0 (fun ⟨e1, e2⟩ => ?_) (fun ⟨e1, e2⟩ => ?_), stay _ _ _ d1 (fun ⟨e1, e2⟩ => ?_) (fun ⟨e1, e2⟩ => ?_), (hn.setCell c0 (by simp)).setCell k1 (by simp)⟩
  · rw [e1, e2, c0] at d0; cases d0
  · rw [e1, e2, c1] at d0; cases d0
  · rw [e1, e2, c0] at d1; cases d1
  · have e3 : voff + j * 2 = 0 := by omega
    rw [e1, e3, c0] at d0; cases d0

theorem GrowM.setTyped {W : World} {base : Nat} {v : Value} {qs : List (Value × List Int)} {n : Nat} (h : GrowM W base v qs n) {B : Nat} {c : Array Value} {t : TypeId} {fz : Nat × Nat} (hB : W.heap[B]? = some (.cells c t fz)) (ht : t ≠ 3) (ht' : t ≠ 64) (ht2 : t ≠ 112) (k : Nat) (u : Value) : GrowM (W.setCell ⟨B, k, none⟩ u) base v qs n := by
  refine ⟨⟨h.1.1, ?_⟩, fun q hq => (h.2 q hq).setTyped hB ht ht' k u⟩
  rcases h.1.2 with h' | ⟨g, cap, cur, e, hb, hh, rest⟩
  · exact .inl h'
  · have hne : g ≠ B := fun e => by
      rw [e, hB] at hh
      simp only [Option.some.injEq, Obj.cells.injEq] at hh
      exact ht2 hh.2.1
    exact .inr ⟨g, cap, cur, e, hb, (Below.heap_setCell W ⟨B, k, none⟩ u g hne).trans hh, rest⟩

theorem AllSl.setCell {W : World} {row : Option Nat} (h : AllSl W row) {B : Nat} (hne : row ≠ some B) (k : Nat) (u : Value) : AllSl (W.setCell ⟨B, k, none⟩ u) row := fun g hg => by
  obtain ⟨cur, t, fz, hh, hs⟩ := h g hg
  exact ⟨cur, t, fz, (Below.heap_setCell W ⟨B, k, none⟩ u g (fun e => hne (by rw [hg, e]))).trans hh, hs⟩

/-- A lattice's own variable. -/
def BVar (W : World) (B : Nat) (n : Int) (u : Value) : Prop := Box W B (.int .i64 n) u ∧ ∃ cs, W.heap[B]? = some (.cells cs 25 (0, 0))

theorem BVar.later {W W' : World} {B C : Nat} {n : Int} {u : Value} (h : BVar W B n u) (hb : Below C W W') (hB : B < C) : BVar W' B n u := by
  obtain ⟨h1, cs, h2⟩ := h
  exact ⟨h1.later hb hB, cs, (hb.block _ hB).trans h2⟩

theorem BVar.lt {W : World} {B : Nat} {n : Int} {u : Value} (h : BVar W B n u) : B < W.heap.size := by
  obtain ⟨-, cs, h2⟩ := h
  exact heap_lt h2

theorem BVar.apart {W : World} {B : Nat} {n : Int} {u : Value} {row : Option Nat} (h : BVar W B n u) (hr : AllSl W row) : row ≠ some B := fun e => by
  subst e
  obtain ⟨o, l, c, e⟩ := hr.cell h.1.1
  cases e

theorem BVar.grown {W W' : World} {B : Nat} {n : Int} {u : Value} {row : Option Nat} (h : BVar W B n u) (hg : W.grownBy W' row) (hr : AllSl W row) : BVar W' B n u := by
  have hne := h.apart hr
  have hlt := h.lt
  obtain ⟨⟨h1, h2, h3, h4⟩, cs, h5⟩ := h
  have hb := hg.block B hlt (fun e => hne e.symm)
  exact ⟨⟨(World.cell?_of_block (a := ⟨B, 0, none⟩) hb).trans h1, (World.cell?_of_block (a := ⟨B, 1, none⟩) hb).trans h2, (World.frozen?_of_block (a := ⟨B, 0, none⟩) hb).trans h3, (World.frozen?_of_block (a := ⟨B, 1, none⟩) hb).trans h4⟩, cs, hb.trans h5⟩

theorem BVar.write {W : World} {B : Nat} {n : Int} {u : Value} (h : BVar W B n u) (n' : Int) (u' : Value) : BVar ((W.setCell ⟨B, 0, none⟩ (.int .i64 n')).setCell ⟨B, 1, none⟩ u') B n' u' := by
  obtain ⟨h1, cs, h2⟩ := h
  exact ⟨h1.write _ _, _, heap_setCell_same _ B 1 _ _ _ (heap_setCell_same W B 0 _ _ _ h2)⟩

theorem GrowM.setVar {W : World} {base : Nat} {v : Value} {qs : List (Value × List Int)} {n : Nat} (h : GrowM W base v qs n) {B : Nat} {m : Int} {u : Value} (hB : BVar W B m u) (y z : Value) : GrowM ((W.setCell ⟨B, 0, none⟩ y).setCell ⟨B, 1, none⟩ z) base v qs n := by
  obtain ⟨-, cs, h2⟩ := hB
  exact (h.setTyped h2 (by decide) (by decide) (by decide) 0 y).setTyped (heap_setCell_same W B 0 _ _ y h2) (by decide) (by decide) (by decide) 1 z

end Go.Proofs.YtjblidoilphifadGreatDoor

/- The reference: so much of each of two rows. -/
namespace Go.Proofs.YtjblidoilphifadGreatDoor
open Go.RowKit Limbs Digs

/-- A row that is made. -/
def RowPost (w : World) (zs : List Int) (n : Nat) (e : Ending) (w' : World) : Prop := ∃ v, e = .returned v ∧ RowR w' v zs n ∧ Below w.heap.size w w'

set_option linter.unusedSimpArgs false in
set_option maxRecDepth 100000 in
set_option maxHeartbeats 4000000 in
theorem combineR_any (w : World) (vx va vy vb : Value) (x y : Int) (us vs : List Int) (nx na ny nb m : Nat) (hx : NumR w vx x nx) (ha : RowR w va us na) (hy : NumR w vy y ny) (hb : RowR w vb vs nb) (hl : us.length = vs.length) (h8 : us.length ≤ 1000)
    (h1 : nx + na + 1 ≤ m) (h2 : ny + nb + 1 ≤ m) (hm : m ≤ 100000000000) :
    Calls Tryz.prog 71 #[vx, va, vy, vb] w fun e w' => RowPost w (List.zipWith (fun p q => x * p + y * q) us vs) (m + 1) e w' := by
  obtain ⟨i0, hi, hz0, hz1, hz2⟩ := info_parts Tryz.infoRNum
  have HI0 := hide hi; have HZ0 := hide hz0; have HZ1 := hide hz1; have HZ2 := hide hz2
  clear hi hz0 hz1 hz2
  have HA := hide ha; have HB := hide hb; have HX := hide hx; have HY := hide hy
  have hlt := zip_len (fun p q => x * p + y * q) us vs hl
  have HZ := hide (zip_getD (fun p q => x * p + y * q) us vs hl)
  obtain ⟨xs, xo, xl, xc, rfl, -⟩ := hx.form
  obtain ⟨ys, yo, yl, yc, rfl, -⟩ := hy.form
  obtain ⟨ao', acap, rfl, -, -⟩ := ha
  obtain ⟨bo', bcap, rfl, -, -⟩ := hb
  clear hx hy
  have HL := hide hl
  clear hl
  have hT := two w (.int .i64 xs) (.slice xo xl xc) (.int .i64 ys) (.slice yo yl yc) 64 64
  obtain ⟨W0, hW0⟩ : ∃ W0 : World, W0 = (w.alloc (.cells #[.int .i64 xs, .slice xo xl xc] 64)).alloc (.cells #[.int .i64 ys, .slice yo yl yc] 64) := ⟨_, rfl⟩
  have hsz : W0.heap.size = w.heap.size + 2 := by rw [hW0]; simp
  rw [← hW0] at hT
  have HT := hide hT; have HSZ := hide hsz
  have HLT := hide hlt
  clear hT hsz hlt
  generalize List.zipWith (fun p q => x * p + y * q) us vs = ts at *
  go_enter Tryz.func71, Tryz.ntmps71
  go_wp2
  rw [← hW0]
  clear hW0
  go_loopw [9, 10] (fun out i wr => ∃ (k : Nat) (ps : List (Rn × Int)), k ≤ us.length ∧ i = .int .i64 k ∧ Hid (GrowR wr (w.heap.size + 2) out ps (m + 1)) ∧ Hid (ps.map (·.2) = ts.take k) ∧ Hid (Below (w.heap.size + 2) W0 wr)) (fun _ i _ => us.length - (intOf i).toNat)
  case atStart => exact ⟨0, [], Nat.zero_le _, rfl, hide (GrowR.nil _ _ _), hide (by simp), hide (Below.refl _ _)⟩
  case round =>
    obtain ⟨k, ps, hk, rfl, HG, HP, HBE⟩ := hrel
    have HPL : Hid (ps.length = k) := by
      have := congrArg List.length HP.out
      rw [List.length_map, List.length_take] at this
      show ps.length = k
      have := HLT.out
      omega
    have hbs : w.heap.size + 2 ≤ wr.heap.size := by have := HBE.out.size; have := HSZ.out; omega
    by_cases hkl : k < us.length
    · have hbw : Below w.heap.size w wr := HT.out.below.trans (HBE.out.mono (by omega))
      have hky : k < vs.length := by have := HL.out; omega
      obtain ⟨ab, _, e, la, sa, ao, al, ac, a2, a3, na'⟩ := (HA.out.below hbw (Nat.le_refl _)).at k hkl
      simp only [Value.slice.injEq, true_and] at e
      obtain ⟨rfl, rfl⟩ := e
      obtain ⟨bb, _, e, lb, sb, bo, bl, bc, a6, a7, nb'⟩ := (HB.out.below hbw (Nat.le_refl _)).at k hky
      simp only [Value.slice.injEq, true_and] at e
      obtain ⟨rfl, rfl⟩ := e
      have law : ab < w.heap.size := by
        obtain ⟨_, _, e, l, -⟩ := HA.out.at k hkl
        simp only [Value.slice.injEq, Option.some.injEq, Addr.mk.injEq, and_true, true_and] at e
        omega
      have lbw : bb < w.heap.size := by
        obtain ⟨_, _, e, l, -⟩ := HB.out.at k hky
        simp only [Value.slice.injEq, Option.some.injEq, Addr.mk.injEq, and_true, true_and] at e
        omega
      have NA := hide na'; have NB := hide nb'
      have NX := hide (HX.out.below hbw (Nat.le_refl _)); have NY := hide (HY.out.below hbw (Nat.le_refl _))
      obtain ⟨a0, a1, -, -⟩ := HT.out.fst.later HBE.out (by omega)
      obtain ⟨a4, a5, -, -⟩ := HT.out.res.later HBE.out (by omega)
      have lx : w.heap.size < wr.heap.size := by omega
      have ly : w.heap.size + 1 < wr.heap.size := by omega
      have HTS : Hid (∀ r : Rn, (ps ++ [(r, x * us.getD k 0 + y * vs.getD k 0)]).map (·.2) = ts.take (k + 1)) := fun r => by
        have hkt : k < ts.length := by have := HLT.out; omega
        rw [List.map_append, HP.out, List.take_succ_eq_append_getElem hkt, ← HZ.out k hkl, List.getD_eq_getElem?_getD, List.getElem?_eq_getElem hkt]; rfl
      have HBW := hide hbw
      clear na' nb' hbw
      generalize us.getD k 0 = p at *
      generalize vs.getD k 0 = q at *
      go_wp2_with fail
      refine upto_start (S := (fun w' => w'.cell? ⟨w.heap.size, 0, none⟩ = some (.int .i64 xs) ∧ w'.cell? ⟨w.heap.size, 1, none⟩ = some (.slice xo xl xc) ∧ w'.cell? ⟨ab, k * 2, none⟩ = some (.int .i64 sa) ∧ w'.cell? ⟨ab, k * 2 + 1, none⟩ = some (.slice ao al ac) ∧ w'.cell? ⟨w.heap.size + 1, 0, none⟩ = some (.int .i64 ys) ∧ w'.cell? ⟨w.heap.size + 1, 1, none⟩ = some (.slice yo yl yc) ∧ w'.cell? ⟨bb, k * 2, none⟩ = some (.int .i64 sb) ∧ w'.cell? ⟨bb, k * 2 + 1, none⟩ = some (.slice bo bl bc))) (k := 17) (by kernel_rfl) (by (try dsimp only); go_keep) (fun hHeld => ?_)
      refine upto_run (v := ?_) 0 17 [] rfl rfl (by kernel_rfl) (by kernel_rfl) (by kernel_rfl) (by kernel_rfl) (by kernel_rfl) (fun _ _ _ h => h) (by rfl) ?_ (by assumption) ?_
      rotate_left
      · (intro w hSw; (try dsimp only at hSw); go_simp; with_reducible rfl)
      simp only [Act.put, List.setIfInBounds_toArray, List.set_cons_zero, List.set_cons_succ]
      refine upto_run (v := ?_) 1 18 [] rfl rfl (by kernel_rfl) (by kernel_rfl) (by kernel_rfl) (by kernel_rfl) (by kernel_rfl) (fun _ _ _ h => h) (by rfl) ?_ (by assumption) ?_
      rotate_left
      · (intro w hSw; (try dsimp only at hSw); go_simp; with_reducible rfl)
      simp only [Act.put, List.setIfInBounds_toArray, List.set_cons_zero, List.set_cons_succ]
      refine upto_run (v := ?_) 2 19 [] rfl rfl (by kernel_rfl) (by kernel_rfl) (by kernel_rfl) (by kernel_rfl) (by kernel_rfl) (fun _ _ _ h => h) (by rfl) ?_ (by assumption) ?_
      rotate_left
      · (intro w hSw; (try dsimp only at hSw); go_simp; with_reducible rfl)
      simp only [Act.put, List.setIfInBounds_toArray, List.set_cons_zero, List.set_cons_succ]
      refine upto_run (v := ?_) 3 20 [] rfl rfl (by kernel_rfl) (by kernel_rfl) (by kernel_rfl) (by kernel_rfl) (by kernel_rfl) (fun _ _ _ h => h) (by rfl) ?_ (by assumption) ?_
      rotate_left
      · (intro w hSw; (try dsimp only at hSw); go_simp; with_reducible rfl)
      simp only [Act.put, List.setIfInBounds_toArray, List.set_cons_zero, List.set_cons_succ]
      refine upto_run (v := ?_) 4 21 [] rfl rfl (by kernel_rfl) (by kernel_rfl) (by kernel_rfl) (by kernel_rfl) (by kernel_rfl) (fun _ _ _ h => h) (by rfl) ?_ (by assumption) ?_
      rotate_left
      · (intro w hSw; (try dsimp only at hSw); go_simp; with_reducible rfl)
      simp only [Act.put, List.setIfInBounds_toArray, List.set_cons_zero, List.set_cons_succ]
      refine upto_run (v := ?_) 5 22 [] rfl rfl (by kernel_rfl) (by kernel_rfl) (by kernel_rfl) (by kernel_rfl) (by kernel_rfl) (fun _ _ _ h => h) (by rfl) ?_ (by assumption) ?_
      rotate_left
      · (intro w hSw; (try dsimp only at hSw); go_simp; with_reducible rfl)
      simp only [Act.put, List.setIfInBounds_toArray, List.set_cons_zero, List.set_cons_succ]
      refine upto_run (v := ?_) 7 24 [] rfl rfl (by kernel_rfl) (by kernel_rfl) (by kernel_rfl) (by kernel_rfl) (by kernel_rfl) (fun _ _ _ h => h) (by rfl) ?_ (by assumption) ?_
      rotate_left
      · (intro w hSw; (try dsimp only at hSw); go_simp; with_reducible rfl)
      simp only [Act.put, List.setIfInBounds_toArray, List.set_cons_zero, List.set_cons_succ]
      refine upto_run (v := ?_) 8 25 [] rfl rfl (by kernel_rfl) (by kernel_rfl) (by kernel_rfl) (by kernel_rfl) (by kernel_rfl) (fun _ _ _ h => h) (by rfl) ?_ (by assumption) ?_
      rotate_left
      · (intro w hSw; (try dsimp only at hSw); go_simp; with_reducible rfl)
      simp only [Act.put, List.setIfInBounds_toArray, List.set_cons_zero, List.set_cons_succ]
      refine upto_run (v := ?_) 9 26 [] rfl rfl (by kernel_rfl) (by kernel_rfl) (by kernel_rfl) (by kernel_rfl) (by kernel_rfl) (fun _ _ _ h => h) (by rfl) ?_ (by assumption) ?_
      rotate_left
      · (intro w hSw; (try dsimp only at hSw); go_simp; with_reducible rfl)
      simp only [Act.put, List.setIfInBounds_toArray, List.set_cons_zero, List.set_cons_succ]
      refine upto_run (v := ?_) 10 27 [] rfl rfl (by kernel_rfl) (by kernel_rfl) (by kernel_rfl) (by kernel_rfl) (by kernel_rfl) (fun _ _ _ h => h) (by rfl) ?_ (by assumption) ?_
      rotate_left
      · (intro w hSw; (try dsimp only at hSw); go_simp; with_reducible rfl)
      simp only [Act.put, List.setIfInBounds_toArray, List.set_cons_zero, List.set_cons_succ]
      refine upto_run (v := ?_) 11 28 [] rfl rfl (by kernel_rfl) (by kernel_rfl) (by kernel_rfl) (by kernel_rfl) (by kernel_rfl) (fun _ _ _ h => h) (by rfl) ?_ (by assumption) ?_
      rotate_left
      · (intro w hSw; (try dsimp only at hSw); go_simp; with_reducible rfl)
      simp only [Act.put, List.setIfInBounds_toArray, List.set_cons_zero, List.set_cons_succ]
      refine upto_one 6 (by kernel_rfl) rfl (fun K hK => ?_)
      go_simp
      (refine (times_any _ _ _ x p nx na (by exact NX.out) (by exact NA.out) (by omega) (by omega)).mono ?_; rintro e w2 ⟨r2, rfl, hr2, hb⟩; have b0 := (hb.cell (p := ⟨w.heap.size, 0, none⟩) lx).trans a0; have b1 := (hb.cell (p := ⟨w.heap.size, 1, none⟩) lx).trans a1; have b2 := (hb.cell (p := ⟨ab, k * 2, none⟩) la).trans a2; have b3 := (hb.cell (p := ⟨ab, k * 2 + 1, none⟩) la).trans a3; have b4 := (hb.cell (p := ⟨w.heap.size + 1, 0, none⟩) ly).trans a4; have b5 := (hb.cell (p := ⟨w.heap.size + 1, 1, none⟩) ly).trans a5; have b6 := (hb.cell (p := ⟨bb, k * 2, none⟩) lb).trans a6; have b7 := (hb.cell (p := ⟨bb, k * 2 + 1, none⟩) lb).trans a7; have hs2 : wr.heap.size ≤ w2.heap.size := hb.size; have HR2 := hide hr2; have HW2 : Hid (Below wr.heap.size wr w2) := ((Below.refl wr.heap.size wr).drew).trans hb; have NY2 := hide (NY.out.below HW2.out (Nat.le_refl _)); have NB2 := hide (NB.out.below HW2.out (Nat.le_refl _)); clear hb hr2)
      go_wp2_with fail
      refine hK.out _ _ (fun _ => by (try dsimp only); go_keep) ?_
      clear hK K
      try simp only [Act.put, List.setIfInBounds_toArray, List.set_cons_zero, List.set_cons_succ]
      refine upto_one 12 (by kernel_rfl) rfl (fun K hK => ?_)
      go_simp
      (refine (times_any _ _ _ y q ny nb (by exact NY2.out) (by exact NB2.out) (by omega) (by omega)).mono ?_; rintro e w3 ⟨r3, rfl, hr3, hb⟩; have c0 := (hb.cell (p := ⟨w.heap.size, 0, none⟩) (Nat.lt_of_lt_of_le lx hs2)).trans b0; have c1 := (hb.cell (p := ⟨w.heap.size, 1, none⟩) (Nat.lt_of_lt_of_le lx hs2)).trans b1; have c2 := (hb.cell (p := ⟨ab, k * 2, none⟩) (Nat.lt_of_lt_of_le la hs2)).trans b2; have c3 := (hb.cell (p := ⟨ab, k * 2 + 1, none⟩) (Nat.lt_of_lt_of_le la hs2)).trans b3; have c4 := (hb.cell (p := ⟨w.heap.size + 1, 0, none⟩) (Nat.lt_of_lt_of_le ly hs2)).trans b4; have c5 := (hb.cell (p := ⟨w.heap.size + 1, 1, none⟩) (Nat.lt_of_lt_of_le ly hs2)).trans b5; have c6 := (hb.cell (p := ⟨bb, k * 2, none⟩) (Nat.lt_of_lt_of_le lb hs2)).trans b6; have c7 := (hb.cell (p := ⟨bb, k * 2 + 1, none⟩) (Nat.lt_of_lt_of_le lb hs2)).trans b7; have hs3 : wr.heap.size ≤ w3.heap.size := Nat.le_trans hs2 hb.size; have HR3 := hide hr3; have HR2' := hide (HR2.out.below hb (Nat.le_refl _)); have HW3 := hide (HW2.out.trans (hb.mono HW2.out.size)); clear hb hr3)
      go_wp2_with fail
      refine hK.out _ _ (fun _ => by (try dsimp only); go_keep) ?_
      clear hK K
      try simp only [Act.put, List.setIfInBounds_toArray, List.set_cons_zero, List.set_cons_succ]
      refine upto_one 13 (by kernel_rfl) rfl (fun K hK => ?_)
      go_simp
      (refine (plus_any _ _ _ (x * p) (y * q) m (HR2'.out.mono (by omega)) (HR3.out.mono (by omega)) (by omega)).mono ?_; rintro e w4 ⟨r4, rfl, hr4, hb⟩; obtain ⟨rs, ro, rl, rc, rfl, -⟩ := hr4.form; have d0 := (hb.cell (p := ⟨w.heap.size, 0, none⟩) (Nat.lt_of_lt_of_le lx hs3)).trans c0; have d1 := (hb.cell (p := ⟨w.heap.size, 1, none⟩) (Nat.lt_of_lt_of_le lx hs3)).trans c1; have d2 := (hb.cell (p := ⟨ab, k * 2, none⟩) (Nat.lt_of_lt_of_le la hs3)).trans c2; have d3 := (hb.cell (p := ⟨ab, k * 2 + 1, none⟩) (Nat.lt_of_lt_of_le la hs3)).trans c3; have d4 := (hb.cell (p := ⟨w.heap.size + 1, 0, none⟩) (Nat.lt_of_lt_of_le ly hs3)).trans c4; have d5 := (hb.cell (p := ⟨w.heap.size + 1, 1, none⟩) (Nat.lt_of_lt_of_le ly hs3)).trans c5; have d6 := (hb.cell (p := ⟨bb, k * 2, none⟩) (Nat.lt_of_lt_of_le lb hs3)).trans c6; have d7 := (hb.cell (p := ⟨bb, k * 2 + 1, none⟩) (Nat.lt_of_lt_of_le lb hs3)).trans c7; have hs4 : wr.heap.size ≤ w4.heap.size := Nat.le_trans hs3 hb.size; have HR4 : Hid (NumR w4 (Rn.val ⟨rs, ro, rl, rc⟩) (x * p + y * q) (m + 1)) := hr4; have HW4 := hide (HW3.out.trans (hb.mono HW3.out.size)); have HG4 := hide (HG.out.later HW4.out); have ha4 : Below w4.heap.size w4 (w4.alloc (.cells #[.int .i64 rs, .slice ro rl rc] 64)) := (Below.refl _ _).alloc (Nat.le_refl _) _; have e0 := (ha4.cell (p := ⟨w.heap.size, 0, none⟩) (Nat.lt_of_lt_of_le lx hs4)).trans d0; have e1 := (ha4.cell (p := ⟨w.heap.size, 1, none⟩) (Nat.lt_of_lt_of_le lx hs4)).trans d1; have e2 := (ha4.cell (p := ⟨ab, k * 2, none⟩) (Nat.lt_of_lt_of_le la hs4)).trans d2; have e3 := (ha4.cell (p := ⟨ab, k * 2 + 1, none⟩) (Nat.lt_of_lt_of_le la hs4)).trans d3; have e4 := (ha4.cell (p := ⟨w.heap.size + 1, 0, none⟩) (Nat.lt_of_lt_of_le ly hs4)).trans d4; have e5 := (ha4.cell (p := ⟨w.heap.size + 1, 1, none⟩) (Nat.lt_of_lt_of_le ly hs4)).trans d5; have e6 := (ha4.cell (p := ⟨bb, k * 2, none⟩) (Nat.lt_of_lt_of_le lb hs4)).trans d6; have e7 := (ha4.cell (p := ⟨bb, k * 2 + 1, none⟩) (Nat.lt_of_lt_of_le lb hs4)).trans d7; clear hb hr4 ha4)
      go_wp2_with fail
      refine hK.out _ _ (fun _ => by (try dsimp only); go_keep) ?_
      clear hK K
      try simp only [Act.put, List.setIfInBounds_toArray, List.set_cons_zero, List.set_cons_succ]
      refine upto_one 14 (by kernel_rfl) rfl (fun K hK => ?_)
      go_simp
      refine hK.out _ _ (fun _ => by (try dsimp only); go_keep) ?_
      clear hK K
      try simp only [Act.put, List.setIfInBounds_toArray, List.set_cons_zero, List.set_cons_succ]
      refine upto_one 15 (by kernel_rfl) rfl (fun K hK => ?_)
      refine step_append_lies _ rfl _ _ 112 rfl (w.heap.size + 2) 64 i0 (.agg #[.int .i64 0, .slice none 0 0]) 2 32 (by kernel_rfl) HI0.out HZ0.out HZ1.out HZ2.out rfl (by decide) u9 ps.length (ps.flatMap rcells) rfl (HG4.out.1.alloc _) ⟨w4.heap.size, 0, none⟩ 1 1 [.int .i64 rs, .slice ro rl rc] rfl rfl (World.news_of_block (heap_alloc_new w4 _)) (fun u hu => by simp only [List.mem_cons, List.mem_nil_iff, or_false] at hu; rcases hu with rfl | rfl <;> rfl) (by decide) (by unfold maxLen; have := HPL.out; omega) (by have := HPL.out; omega) (by simp; omega) (w4.heap.size + 1) (by simp) ?_
      intro g cap' w5 hown5 hgrow5 hat5 hlt5
      have hb5 : Below (w.heap.size + 2) w4 w5 := owns_below HG4.out.1 (by omega) hgrow5
      have f0 := (hb5.cell (p := ⟨w.heap.size, 0, none⟩) (by show w.heap.size < w.heap.size + 2; omega)).trans d0; have f1 := (hb5.cell (p := ⟨w.heap.size, 1, none⟩) (by show w.heap.size < w.heap.size + 2; omega)).trans d1; have f2 := (hb5.cell (p := ⟨ab, k * 2, none⟩) (by show ab < w.heap.size + 2; omega)).trans d2; have f3 := (hb5.cell (p := ⟨ab, k * 2 + 1, none⟩) (by show ab < w.heap.size + 2; omega)).trans d3; have f4 := (hb5.cell (p := ⟨w.heap.size + 1, 0, none⟩) (by show w.heap.size + 1 < w.heap.size + 2; omega)).trans d4; have f5 := (hb5.cell (p := ⟨w.heap.size + 1, 1, none⟩) (by show w.heap.size + 1 < w.heap.size + 2; omega)).trans d5; have f6 := (hb5.cell (p := ⟨bb, k * 2, none⟩) (by show bb < w.heap.size + 2; omega)).trans d6; have f7 := (hb5.cell (p := ⟨bb, k * 2 + 1, none⟩) (by show bb < w.heap.size + 2; omega)).trans d7
      have HG5 := hide (growR_snoc HG4.out HR4.out hown5 hgrow5)
      have HB5 := hide (HBE.out.trans ((HW4.out.mono (by omega)).trans hb5))
      clear hown5 hgrow5 hat5 hlt5 hb5
      refine hK.out _ _ (fun _ => by (try dsimp only); go_keep) ?_
      clear hK K
      try simp only [Act.put, List.setIfInBounds_toArray, List.set_cons_zero, List.set_cons_succ]
      refine upto_one 16 (by kernel_rfl) rfl (fun K hK => ?_)
      go_simp
      refine hK.out _ _ (fun _ => by (try dsimp only); go_keep) ?_
      clear hK K
      try simp only [Act.put, List.setIfInBounds_toArray, List.set_cons_zero, List.set_cons_succ]
      refine upto_done (by kernel_rfl) ?_
      have HP5 := hide (HTS.out ⟨rs, ro, rl, rc⟩)
      clear a0 a1 a2 a3 a4 a5 a6 a7 b0 b1 b2 b3 b4 b5 b6 b7 c0 c1 c2 c3 c4 c5 c6 c7 d0 d1 d2 d3 d4 d5 d6 d7 e0 e1 e2 e3 e4 e5 e6 e7 f0 f1 f2 f3 f4 f5 f6 f7 HTS HG HG4 HR4 HR2 HR2' HR3
      go_wp2
      go_roundw
      case rel => exact ⟨k + 1, _, by omega, by go_num, HG5, HP5, HB5⟩
      case measure => simp [intOf]; omega
    · obtain rfl : k = us.length := by omega
      have HR : Hid (RowR wr u9 ts (m + 1)) := by
        have := HG.out.row
        rw [HP.out, List.take_of_length_le (by have := HLT.out; omega)] at this
        exact this
      have HB := hide (HT.out.below.trans (HBE.out.mono (by omega)))
      clear HG HP
      go_wp2
      go_ret
      exact ⟨_, rfl, HR.out, HB.out⟩

end Go.Proofs.YtjblidoilphifadGreatDoor
