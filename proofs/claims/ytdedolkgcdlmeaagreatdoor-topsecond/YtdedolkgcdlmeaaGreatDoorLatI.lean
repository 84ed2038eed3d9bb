/- What stays where a variable of a lattice is written, and where rows of the reference grow. -/
import Derived.Test.YtdedolkgcdlmeaaGreatDoorLatG
import Derived.Test.YtdedolkgcdlmeaaGreatDoorRowO
import Derived.Test.YtdedolkgcdlmeaaGreatDoorGrowB
namespace Go.Proofs.YtdedolkgcdlmeaaGreatDoor
open Go.RowKit Limbs Digs

/-- A slice is appended to slices; and where they lie then. -/
theorem wpList_append_slh {P : Program} {w : World} {ops : Array Oper} {rest : List Oper} {op : Oper} {a : Act} {Q : Exit → Act → World → Prop} (hgd : op.guard = none) (s x : Operand) (t : TypeId)
    (ho : op.op = .call { callee := .builtin .append, args := #[s, x], argTypes := #[t, t] })
    (base : Nat) (e : TypeId) (i : TypeInfo) (bytes : Nat) (ht : P.underlying t = some (.slice e)) (hi : P.info? e = some i) (hz : i.zero = some (.slice none 0 0))
    (hsize : i.size = 1) (hby : i.bytes = bytes) (v : Value) (n : Nat) (xs : List Value) (hs : a.eval s = v) (hown : w.ownsRow base e 1 v n xs) (hall : AllSl w v.ownBlock)
    (ad : Addr) (cc : Nat) (o : Option Addr) (l c : Nat) (hx : a.eval x = .slice (some ad) 1 cc) (hnews : ∀ j u, [Value.slice o l c][j]? = some u → w.cell? (ad.add j) = some u)
    (h63 : n + 1 ≤ maxLen) (hbytes : (n + 1) * bytes ≤ 140737488355328) (hbase : base ≤ w.heap.size)
    (h : ∀ g cap w', w'.ownsRow base e 1 (.slice (some ⟨g, 0, none⟩) (n + 1) cap) (n + 1) (xs ++ [.slice o l c]) → w.grownBy w' v.ownBlock → AllSl w' (some g) → (v.ownBlock = some g ∨ g = w.heap.size) → wpList P ops Q rest (a.put op.dst (.slice (some ⟨g, 0, none⟩) (n + 1) cap)) w') : wpList P ops Q (op :: rest) a w := by
  refine wpList_plain hgd fun K hK => ?_
  subst hby
  obtain ⟨g, cap, w', hr, h2, h3, h4, h5⟩ := run_append_lies (P := P) w t op.type base e i (.slice none 0 0) 1 i.bytes ht hi hz hsize rfl rfl (by decide) v n xs hown ad 1 cc [.slice o l c] rfl hnews (fun u hu => by rw [List.mem_singleton] at hu; rw [hu]; rfl) (by decide) h63 hbytes hbase _ rfl
  have hA := run_append_sl w t op.type base e i ht hi hz hsize v n xs hown hall ad o l c cc hnews h63 hbytes g cap w' hr
  unfold Oper.wp execOp
  simp only [ho, resolve, invoke, builtin, Sem.run_bind, Sem.run_pure, Result.andThen_ok, List.map_toArray, List.map_cons, List.map_nil, hs, hx, hr]
  exact hK _ _ (h g cap w' h2 h3 hA h4)

/-- A list of rows that lies apart from that block. -/
def Sep (u : Value) (row : Option Nat) : Prop := ∀ a l c, u = .slice (some a) l c → some a.block ≠ row

theorem Fresh.sep {base g : Nat} {u : Value} (h : Fresh base u) (hg : g < base) : Sep u (some g) := fun a l c e h' => by
  have := h a l c e
  simp only [Option.some.injEq] at h'
  omega

theorem MatN.grownH {W W' : World} {row : Option Nat} {u : Value} {hs : List (List Int)} {n : Nat} (h : MatN W u hs n) (hg : W.grownBy W' row) (hr : AllSl W row) (hsep : 0 < hs.length → Sep u row) : MatN W' u hs n := by
  obtain ⟨ao, cap, rfl, h1, h2⟩ := h
  refine ⟨ao, cap, rfl, h1, fun h0 => ?_⟩
  obtain ⟨b, off, rfl, hlt, hc⟩ := h2 h0
  refine ⟨b, off, rfl, Nat.lt_of_lt_of_le hlt hg.size, fun i zs hi => ?_⟩
  obtain ⟨v, cv, hv⟩ := hc i zs hi
  exact ⟨v, hg.cell cv (show some b ≠ row from hsep h0 _ _ _ rfl), hv.grownS hg hr⟩

/-- A lattice's own variable is written: rows whose list is another block stay. -/
theorem MatN.setVar {W : World} {B : Nat} {u : Value} {hs : List (List Int)} {nv : Nat} {x : Int} {o : Option Addr} {l c : Nat} (y z : Value) (h : MatN W u hs nv) (hsep : 0 < hs.length → Sep u (some B)) (c0 : W.cell? ⟨B, 0, none⟩ = some (.int .i64 x)) (c1 : W.cell? ⟨B, 1, none⟩ = some (.slice o l c)) :
    MatN ((W.setCell ⟨B, 0, none⟩ y).setCell ⟨B, 1, none⟩ z) u hs nv := by
  have k1 : (W.setCell ⟨B, 0, none⟩ y).cell? ⟨B, 1, none⟩ = some (.slice o l c) := Eq.trans (World.cell?_setCell_other (h := fun e => by simp at e) ..) c1
  have stay : ∀ (b o : Nat) (v : Value), W.cell? ⟨b, o, none⟩ = some v → ¬ (b = B ∧ o = 0) → ¬ (b = B ∧ o = 1) → ((W.setCell ⟨B, 0, none⟩ y).setCell ⟨B, 1, none⟩ z).cell? ⟨b, o, none⟩ = some v := fun b o v hv h0 h1 =>
    Eq.trans (World.cell?_setCell_other (h := fun e => h1 (by simp only [Addr.mk.injEq, and_true] at e; exact ⟨e.1.symm, e.2.symm⟩)) ..) (Eq.trans (World.cell?_setCell_other (h := fun e => h0 (by simp only [Addr.mk.injEq, and_true] at e; exact ⟨e.1.symm, e.2.symm⟩)) ..) hv)
  have hsz : ((W.setCell ⟨B, 0, none⟩ y).setCell ⟨B, 1, none⟩ z).heap.size = W.heap.size := by simp
  obtain ⟨ao, cap, rfl, h1, h2⟩ := h
  refine ⟨ao, cap, rfl, h1, fun hh => ?_⟩
  obtain ⟨b, off, rfl, hlt, hc⟩ := h2 hh
  have hbB : b ≠ B := fun e => hsep hh _ _ _ rfl (by rw [e])
  refine ⟨b, off, rfl, by rw [hsz]; exact hlt, fun i zs hi => ?_⟩
  obtain ⟨v, cv, hv⟩ := hc i zs hi
  refine ⟨_, stay _ _ _ cv (fun h => hbB h.1) (fun h => hbB h.1), ?_⟩
  obtain ⟨vo, vcap, ev, g1, g2⟩ := hv
  refine ⟨vo, vcap, ev, g1, fun h0 => ?_⟩
  obtain ⟨vb, voff, e, vlt, hat⟩ := g2 h0
  refine ⟨vb, voff, e, by rw [hsz]; exact vlt, fun j hj => ?_⟩
  obtain ⟨neg, o', l', c', d0, d1, hn⟩ := hat j hj
  refine ⟨neg, o', l', c', stay _ _ _ d0 (fun ⟨e1, e2⟩ => ?_) (fun ⟨e1, e2⟩ => ?_), stay _ _ _ d1 (fun ⟨e1, e2⟩ => ?_) (fun ⟨e1, e2⟩ => ?_), (hn.setCell c0 (by simp)).setCell k1 (by simp)⟩
  · rw [e1, e2, c0] at d0; cases d0
  · rw [e1, e2, c1] at d0; cases d0
  · rw [e1, e2, c0] at d1; cases d1
  · have e3 : voff + j * 2 = 0 := by omega
    rw [e1, e3, c0] at d0; cases d0

theorem GrowM.setTyped {W : World} {base : Nat} {v : Value} {qs : List (Value × List Int)} {n : Nat} (h : GrowM W base v qs n) {B : Nat} {c : Array Value} {t : TypeId} {fz : Nat × Nat} (hB : W.heap[B]? = some (.cells c t fz)) (ht : t ≠ 3) (ht' : t ≠ 40) (ht2 : t ≠ 106) (k : Nat) (u : Value) : GrowM (W.setCell ⟨B, k, none⟩ u) base v qs n := by
  refine ⟨⟨h.1.1, ?_⟩, fun q hq => (h.2 q hq).setTyped hB ht ht' k u⟩
  rcases h.1.2 with h' | ⟨g, cap, cur, e, hb, hh, rest⟩
  · exact .inl h'
  · have hne : g ≠ B := fun e => by
      rw [e, hB] at hh
      simp only [Option.some.injEq, Obj.cells.injEq] at hh
      exact ht2 hh.2.1
    exact .inr ⟨g, cap, cur, e, hb, (Below.heap_setCell W ⟨B, k, none⟩ u g hne).trans hh, rest⟩

theorem AllSl.setCell {W : World} {row : Option Nat} (h : AllSl W row) {B : Nat} (hne : row ≠ some B) (k : Nat) (u : Value) : AllSl (W.setCell ⟨B, k, none⟩ u) row := fun g hg => by
  obtain ⟨cur, t, fz, hh, hs⟩ := h g hg
  exact ⟨cur, t, fz, (Below.heap_setCell W ⟨B, k, none⟩ u g (fun e => hne (by rw [hg, e]))).trans hh, hs⟩

/-- A lattice's own variable. -/
def BVar (W : World) (B : Nat) (n : Int) (u : Value) : Prop := Box W B (.int .i64 n) u ∧ ∃ cs, W.heap[B]? = some (.cells cs 55 (0, 0))

theorem BVar.later {W W' : World} {B C : Nat} {n : Int} {u : Value} (h : BVar W B n u) (hb : Below C W W') (hB : B < C) : BVar W' B n u := by
  obtain ⟨h1, cs, h2⟩ := h
  exact ⟨h1.later hb hB, cs, (hb.block _ hB).trans h2⟩

theorem BVar.lt {W : World} {B : Nat} {n : Int} {u : Value} (h : BVar W B n u) : B < W.heap.size := by
  obtain ⟨-, cs, h2⟩ := h
  exact heap_lt h2

theorem BVar.apart {W : World} {B : Nat} {n : Int} {u : Value} {row : Option Nat} (h : BVar W B n u) (hr : AllSl W row) : row ≠ some B := fun e => by
  subst e
  obtain ⟨o, l, c, e⟩ := hr.cell h.1.1
  cases e

theorem BVar.grown {W W' : World} {B : Nat} {n : Int} {u : Value} {row : Option Nat} (h : BVar W B n u) (hg : W.grownBy W' row) (hr : AllSl W row) : BVar W' B n u := by
  have hne := h.apart hr
  have hlt := h.lt
  obtain ⟨⟨h1, h2, h3, h4⟩, cs, h5⟩ := h
  have hb := hg.block B hlt (fun e => hne e.symm)
  exact ⟨⟨(World.cell?_of_block (a := ⟨B, 0, none⟩) hb).trans h1, (World.cell?_of_block (a := ⟨B, 1, none⟩) hb).trans h2, (World.frozen?_of_block (a := ⟨B, 0, none⟩) hb).trans h3, (World.frozen?_of_block (a := ⟨B, 1, none⟩) hb).trans h4⟩, cs, hb.trans h5⟩

theorem BVar.write {W : World} {B : Nat} {n : Int} {u : Value} (h : BVar W B n u) (n' : Int) (u' : Value) : BVar ((W.setCell ⟨B, 0, none⟩ (.int .i64 n')).setCell ⟨B, 1, none⟩ u') B n' u' := by
  obtain ⟨h1, cs, h2⟩ := h
  exact ⟨h1.write _ _, _, heap_setCell_same _ B 1 _ _ _ (heap_setCell_same W B 0 _ _ _ h2)⟩

theorem GrowM.setVar {W : World} {base : Nat} {v : Value} {qs : List (Value × List Int)} {n : Nat} (h : GrowM W base v qs n) {B : Nat} {m : Int} {u : Value} (hB : BVar W B m u) (y z : Value) : GrowM ((W.setCell ⟨B, 0, none⟩ y).setCell ⟨B, 1, none⟩ z) base v qs n := by
  obtain ⟨-, cs, h2⟩ := hB
  exact (h.setTyped h2 (by decide) (by decide) (by decide) 0 y).setTyped (heap_setCell_same W B 0 _ _ y h2) (by decide) (by decide) (by decide) 1 z

end Go.Proofs.YtdedolkgcdlmeaaGreatDoor
