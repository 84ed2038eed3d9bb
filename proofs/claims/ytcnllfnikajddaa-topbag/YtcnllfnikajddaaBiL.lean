/- bag.Basis: the one form of a named lattice's generators. -/
import Derived.Test.YtcnllfnikajddaaMats
import Derived.Test.YtcnllfnikajddaaOfN
import Derived.Test.YtcnllfnikajddaaMeetL
import Derived.Test.YtcnllfnikajddaaBgL
import Derived.Test.YtcnllfnikajddaaBiH

namespace Go.Proofs.Ytcnllfnikajddaa
open Go.RowKit Limbs

theorem run_mkMb (m : Nat) (hm : m ≤ 1000) (W : World) : (Instr.makeSlice 41 (.int .i64 (m : Int)) (.int .i64 (m : Int))).run Try.prog W = .ok (.slice (some ⟨W.heap.size, 0, none⟩) m m) (W.alloc (.cells (madeCells #[.slice none 0 0] m) 59)) := by
 obtain ⟨i0, hi, hz0, hz1, hz2⟩ := info_parts Try.infoVec
 have h := run_make (P := Try.prog) W 41 59 i0 (.slice none 0 0) (by kernel_rfl) hi hz0 .i64 .i64 m m (by omega) (by omega) (by rw [hz2]; omega) (by omega)
 rw [hz1, Int.toNat_natCast, Nat.mul_one] at h
 exact h

theorem RowsI.put {w W W2 : World} {B m Q : Nat} {rows : List (List Int)} {k N : Nat} {r : List Int} (h : RowsI w W B m rows k N) (hk : k < m) (hb : Below W.heap.size W W2) (hr : rows.getD k [] = r)
  (hv : VecN W2 (.slice (some ⟨Q, 0, none⟩) r.length r.length) r N) (hQ : Q < W2.heap.size) (hne : Q ≠ B) : RowsI w (W2.setCell ⟨B, k, none⟩ (.slice (some ⟨Q, 0, none⟩) r.length r.length)) B m rows (k + 1) N := by
 subst hr
 have h2 := h.later hb
 have hnil := h2.nil k (Nat.le_refl _) hk
 have hu : ∀ z, (Value.slice none 0 0) ≠ .int .u32 z := fun z e => by cases e
 refine ⟨h2.low.setCell (p := ⟨B, k, none⟩) h2.high _, h2.high, by simpa using h2.lt, ?_, fun i h1 h3 => ?_, fun i hi => ?_⟩
 ·obtain ⟨cs, t, e⟩ := h2.blk
  exact ⟨_, t, heap_setCell_same W2 B k _ _ _ e⟩
 ·exact (World.cell?_setCell_other (h := fun e => by simp at e <;> omega) ..).trans (h2.nil i (by omega) h3)
 ·by_cases e : i = k
  ·subst e
   exact ⟨Q, World.cell?_setCell_same (h := hnil) .., hv.other hne hnil hu, by simpa using hQ, hne⟩
  ·obtain ⟨Q', e', hv', hq', hne'⟩ := h2.row i (by omega)
   exact ⟨Q', (World.cell?_setCell_other (h := fun e => by simp at e <;> omega) ..).trans e', hv'.other hne' hnil hu, by simpa using hq', hne'⟩

theorem nb2 : ∀ n, n < 5 → nbK n (n * 2 + 2) 2 n ≤ 100000 := by decide

def BasPost (w : World) (x : Nmd) (e : Ending) (w' : World) : Prop :=
 ((nmF x ≠ 0 ∧ e = .returned (.tuple #[.agg #[.int .i64 0, .slice none 0 0], errV (nmF x)])) ∨
  (∃ (n : Nat) (u : Value) (hs : List (List Int)), nmF x = 0 ∧ x.n = (n : Int) ∧ 1 ≤ n ∧ n ≤ 4 ∧ e = .returned (.tuple #[u, .nilIface]) ∧ LatN w' u n hs (n * 2 + 2) ∧ Alikes n (InL hs) (InL x.gens))) ∧ Below w.heap.size w w'

set_option linter.unusedSimpArgs false in
set_option maxRecDepth 100000 in
set_option maxHeartbeats 1600000 in
theorem bbasis_any (w : World) (q : Nc) (hq : NcIn w q) (hl : q.x.gens.length ≤ 1000) (hg : ∀ g ∈ q.x.gens, g.length ≤ 1000000) :
  Calls Try.prog 8 #[q.val] w fun e w' => BasPost w q.x e w' := by
 obtain ⟨⟨nm, n, gens⟩, go, gl, gc⟩ := q
 have hin : RowsS w (.slice go gl gc) gens := hq
 dsimp only at hl hg
 have hgl : gl = gens.length := by
  obtain ⟨_, _, e, -⟩ := id hin
  simp only [Value.slice.injEq] at e
  exact e.2.1
 subst hgl
 have HIN := hide hin; have HG := hide hg
 clear hq hin hg
 show Calls _ _ #[.agg #[.string nm, .int .i64 n, .slice go gens.length gc]] w _
 have hb1 := alloc_below w (.cells #[.string nm, .int .i64 n, .slice go gens.length gc] 37)
 have hs1 : (w.alloc (.cells #[.string nm, .int .i64 n, .slice go gens.length gc] 37)).heap.size = w.heap.size + 1 := by simp
 have hb2 := alloc_below (w.alloc (.cells #[.string nm, .int .i64 n, .slice go gens.length gc] 37)) (.cells #[.int .i64 0, .slice none 0 0] 43)
 have X10 := hide ((ThreeV.new w (.string nm) (.int .i64 n) (.slice go gens.length gc) 37).later hb2)
 have X20 : Hid (Box ((w.alloc (.cells #[.string nm, .int .i64 n, .slice go gens.length gc] 37)).alloc (.cells #[.int .i64 0, .slice none 0 0] 43)) (w.heap.size + 1) (.int .i64 0) (.slice none 0 0)) := box_new _ _ _ _ _ hs1.symm
 have HS0 : Hid (((w.alloc (.cells #[.string nm, .int .i64 n, .slice go gens.length gc] 37)).alloc (.cells #[.int .i64 0, .slice none 0 0] 43)).heap.size = w.heap.size + 2) := by show _ = _; simp
 have HB0 := hide (hb1.trans (hb2.mono hb1.size))
 clear hb1 hs1 hb2
 obtain ⟨c0, c1, c2, -⟩ := X10.out
 obtain ⟨d0, d1, z0, z1⟩ := X20.out
 have HCK := hide (fun (W : World) (hb : Below w.heap.size w W) => bcheck_any W ⟨⟨nm, n, gens⟩, go, gens.length, gc⟩ (NcIn.below (q := ⟨⟨nm, n, gens⟩, go, gens.length, gc⟩) HIN.out hb) hl HG.out)
 go_enter Try.func8, Try.ntmps8
 go_wp2_with fail
 generalize (w.alloc (.cells #[.string nm, .int .i64 n, .slice go gens.length gc] 37)).alloc (.cells #[.int .i64 0, .slice none 0 0] 43) = W0 at *
 refine (HCK.out W0 HB0.out).mono ?_
 rintro e w1 ⟨rfl, hb1⟩
 have X1 := hide (X10.out.later hb1); have X2 := hide (X20.out.later hb1 (by have := HS0.out; omega)); have HB := hide (HB0.out.trans (hb1.mono HB0.out.size))
 have HS1 : Hid (w.heap.size + 2 ≤ w1.heap.size) := by have h1 := HS0.out; have h2 := hb1.size; show _ ≤ _; omega
 clear hb1 HB0 X10 X20 HS0 c0 c1 c2 d0 d1 z0 z1 HCK
 obtain ⟨c0, c1, c2, -⟩ := X1.out
 obtain ⟨d0, d1, z0, z1⟩ := X2.out
 dsimp only
 by_cases h0 : nmF ⟨nm, n, gens⟩ = 0
 ·have hok := nmF_ok.1 h0
  rw [h0]
  have e0 : errV 0 = .nilIface := rfl
  rw [e0]
  obtain ⟨N, rfl⟩ := Int.eq_ofNat_of_zero_le (show 0 ≤ n by have := hok.n.1; dsimp only at this; omega)
  have hN1 : 1 ≤ N := by have := hok.n.1; dsimp only at this; omega
  have hN4 : N ≤ 4 := by have := hok.n.2; dsimp only at this; omega
  have HLN : Hid (∀ us ∈ gens, us.length = N) := fun us hu => by have := (genF_ok.1 (hok.gens us hu)).1; dsimp only at this; omega
  have hg10 : gens.length ≤ 10 := hok.few
  have HFIN : Hid (∀ (u : Value) (hs : List (List Int)) (w' : World), LatN w' u N hs (N * 2 + 2) → Alikes N (InL hs) (InL gens) → Below w.heap.size w w' → BasPost w ⟨nm, (N : Int), gens⟩ (.returned (.tuple #[u, .nilIface])) w') := fun u hs w' a1 a2 a3 => ⟨.inr ⟨N, u, hs, h0, rfl, hN1, hN4, rfl, a1, a2⟩, a3⟩
  have hmk := run_mkMb gens.length (by omega)
  clear h0 hok e0 HG
  have HS : Hid (RowsI w1 (w1.alloc (.cells (madeCells #[.slice none 0 0] gens.length) 59)) w1.heap.size gens.length gens 0 2) := RowsI.start (Below.refl _ _) _ _ _
  have X1m := hide (X1.out.later HS.out.low); have X2m := hide (X2.out.later HS.out.low (by have := HS1.out; omega))
  obtain ⟨k0, k1, k2, -⟩ := X1m.out
  go_wp2_with fail
  clear hmk k0 k1 k2 c0 c1 c2 d0 d1 z0 z1 X1m X2m
  go_loopw [22] (fun i wr => ∃ k : Nat, k ≤ gens.length ∧ i = .int .i64 k ∧ Hid (RowsI w1 wr w1.heap.size gens.length gens k 2)) (fun i _ => gens.length - (intOf i).toNat)
  case atStart => exact ⟨0, Nat.zero_le _, rfl, HS⟩
  case round =>
   clear HS
   obtain ⟨k, hk, rfl, HI⟩ := hrel
   have XA := hide (X1.out.later HI.out.low); have XB := hide (X2.out.later HI.out.low (by have := HS1.out; omega)); have HBr := hide (HB.out.trans (HI.out.low.mono HB.out.size))
   obtain ⟨c0, c1, c2, -⟩ := XA.out
   obtain ⟨d0, d1, z0, z1⟩ := XB.out
   by_cases hkl : k < gens.length
   ·obtain ⟨go', gc', e, -, hh⟩ := HIN.out
    simp only [Value.slice.injEq, true_and] at e
    obtain ⟨rfl, rfl⟩ := e
    obtain ⟨b, off, rfl, hlt, hc⟩ := hh (by omega)
    obtain ⟨u, hu, hr⟩ := hc k gens[k] (List.getElem?_eq_getElem hkl)
    obtain ⟨uo, uc, rfl⟩ := hr.form
    have e0 := (HBr.out.cell (p := ⟨b, off + k, none⟩) hlt).trans hu
    have HR := hide (hr.below HBr.out (Nat.le_refl _))
    have HL : Hid (gens[k].length = N) := HLN.out _ (List.getElem_mem hkl)
    have HGD : Hid (gens.getD k [] = gens[k]) := getD_row hkl
    clear hh hc hu hr
    generalize gens[k] = g at *
    have HOF := hide (ofV_new wr (.slice uo g.length uc) g HR.out (by have := HL.out; omega))
    have hgN := HL.out
    rw [hgN] at e0 HOF
    clear hgN
    go_wp2_with fail
    refine HOF.out.mono ?_
    rintro e w2 ⟨P, rfl, hV, -⟩
    have hPB : P ≠ w1.heap.size := by have h1 := hV.low; have h2 := HI.out.lt; omega
    have HV := hide hV
    have hb2 := hV.below
    have y2 := (HI.out.later hb2).nil k (Nat.le_refl _) hkl
    have y3 := (HI.out.later hb2).thaw k
    have HP := hide (HI.out.put hkl hb2 HGD.out hV.vec hV.lt hPB)
    rw [HL.out] at HP
    clear hV hb2 HOF c0 c1 c2 d0 d1 z0 z1 e0
    go_wp2
    go_roundw
    case rel => exact ⟨k + 1, by omega, by go_num, HP⟩
    case measure => simp [intOf]; omega
   ·obtain rfl : k = gens.length := by omega
    have HM := hide (HI.out.mat rfl)
    have HHE := hide (hermite_any wr _ gens N 2 HM.out HLN.out hN1 (by omega) (by omega) (nb2 N (by omega)))
    go_wp2_with fail
    refine HHE.out.mono ?_
    rintro e w2 ⟨u, hs, p, rfl, hu, hlen, hb2, hF, hA⟩
    have hpos : ∀ zs ∈ hs, 0 < zs.length := fun zs hz => by rw [hF.len zs hz]; omega
    have XA2 := hide (XA.out.later hb2); have XB2 := hide (XB.out.later hb2 (by have h1 := HS1.out; have h2 := HI.out.low.size; omega)); have HB2 := hide (HBr.out.trans (hb2.mono HBr.out.size))
    clear c0 c1 c2 d0 d1 z0 z1
    obtain ⟨c0, c1, c2, -⟩ := XA2.out
    obtain ⟨d0, d1, z0, z1⟩ := XB2.out
    have HP := hide (HFIN.out (.agg #[.int .i64 (N : Int), u]) hs ((w2.setCell ⟨w.heap.size + 1, 0, none⟩ (.int .i64 (N : Int))).setCell ⟨w.heap.size + 1, 1, none⟩ u) ⟨⟨u, rfl, hu.setBasis _ _ hpos d0 d1⟩, p, hF⟩ hA ((HB2.out.setCell (p := ⟨w.heap.size + 1, 0, none⟩) (by show w.heap.size ≤ w.heap.size + 1; omega) _).setCell (p := ⟨w.heap.size + 1, 1, none⟩) (by show w.heap.size ≤ w.heap.size + 1; omega) _))
    obtain ⟨uo, ucap, rfl, -, -⟩ := hu
    clear hF hA hpos hb2 HHE HM
    go_wp2
    exact bodyPost_ret (v := .tuple #[.agg #[.int .i64 (N : Int), .slice uo hs.length ucap], .nilIface]) (by simp [results, Try.results8, go_sem, d0, d1]) rfl HP.out
 ·have e0 : errV (nmF ⟨nm, n, gens⟩) = .iface 49 (.int .i64 (nmF ⟨nm, n, gens⟩ : Nat)) := if_neg h0
  have HFIN : Hid (∀ w' : World, Below w.heap.size w w' → BasPost w ⟨nm, n, gens⟩ (.returned (.tuple #[.agg #[.int .i64 0, .slice none 0 0], .iface 49 (.int .i64 (nmF ⟨nm, n, gens⟩ : Nat))])) w') := fun w' hb => ⟨.inl ⟨h0, by rw [e0]⟩, hb⟩
  rw [e0]
  clear h0 e0
  generalize nmF ⟨nm, n, gens⟩ = c at *
  have HBE := hide ((HB.out.setCell (p := ⟨w.heap.size + 1, 0, none⟩) (by show w.heap.size ≤ w.heap.size + 1; omega) (.int .i64 0)).setCell (p := ⟨w.heap.size + 1, 1, none⟩) (by show w.heap.size ≤ w.heap.size + 1; omega) (.slice none 0 0))
  go_wp2
  exact bodyPost_ret (v := .tuple #[.agg #[.int .i64 0, .slice none 0 0], .iface 49 (.int .i64 (c : Nat))]) (by simp [results, Try.results8, go_sem, d0, d1]) rfl (HFIN.out _ (by first | exact HBE.out | exact HB.out))

end Go.Proofs.Ytcnllfnikajddaa

/- TopBag: what holds in a round, without memory. -/
namespace Go.Proofs.Ytcnllfnikajddaa
open Go.RowKit

theorem placeL_own {cs : List Nmd} (hc : cs.Pairwise (fun x y => nlt x.name y.name = true)) {k : Nat} (hk : k < cs.length) {s : ByteArray} (hs : cs[k].name = s) : hasL cs s = true ∧ placeL cs s = k := by
 subst hs
 have h : hasL cs cs[k].name = true := List.any_eq_true.2 ⟨_, List.getElem_mem hk, by simp⟩
 refine ⟨h, ?_⟩
 obtain ⟨hP, e⟩ := (hasL_iff hc).1 h
 generalize placeL cs cs[k].name = P at *
 rcases Nat.lt_trichotomy P k with h1 | h1 | h1
 ·have := List.pairwise_iff_getElem.1 hc _ _ hP hk h1
  rw [e, nlt_irr] at this; cases this
 ·exact h1
 ·have := List.pairwise_iff_getElem.1 hc _ _ hk hP h1
  rw [e, nlt_irr] at this; cases this

def withG (x : Nmd) (gs : List (List Int)) : Nmd := ⟨x.name, x.n, gs⟩

theorem withG_ok {x : Nmd} (h : NmOk x) {gs : List (List Int)} (hp : gs.Perm x.gens) : NmOk (withG x gs) where
 name := h.name
 n := h.n
 few := by show gs.length ≤ 10; rw [hp.length_eq]; exact h.few
 gens := fun g hg => h.gens g (hp.mem_iff.1 hg)

theorem round_facts {cs : List Nmd} (hc : CatOk cs) {k : Nat} (hk : k < cs.length) {s : ByteArray} (hs : cs[k].name = s) (v : List Int) (h0 : (applyC cs ⟨3, s, 0, v⟩).1 = 0) :
  ∃ gs, gs.Perm cs[k].gens ∧ applyC (applyC cs ⟨3, s, 0, v⟩).2 ⟨4, s, 0, v⟩ = (0, cs.set k (withG cs[k] gs)) ∧ hasL (cs.set k (withG cs[k] gs)) s = true ∧ placeL (cs.set k (withG cs[k] gs)) s = k := by
 obtain ⟨h1, h2⟩ := placeL_own hc.rise hk hs
 obtain ⟨hP, gs, hp, e⟩ := put_take hc h1 v h0
 have hq := placeL_set (s := s) hP rfl ⟨cs[placeL cs s].name, cs[placeL cs s].n, gs⟩ rfl
 revert hp e hq
 generalize placeL cs s = P at *
 subst h2
 intro hp e hq
 exact ⟨gs, hp, e, by rw [← h1]; exact hq.2, hq.1⟩

theorem form_perm {n : Nat} {hs ks : List (List Int)} {gs1 gs2 : List (List Int)} (h1 : ∃ p, FormL n hs p) (h2 : ∃ p, FormL n ks p) (a1 : Alikes n (InL hs) (InL gs1)) (a2 : Alikes n (InL ks) (InL gs2)) (hp : ∀ v, v ∈ gs1 ↔ v ∈ gs2) : hs = ks := by
 obtain ⟨p, h1⟩ := h1
 obtain ⟨p', h2⟩ := h2
 exact formL_one h1 h2 (a1.trans ((alikes_mem hp).trans a2.symm))

theorem NmOk.sizes {x : Nmd} (h : NmOk x) : x.gens.length ≤ 1000 ∧ ∀ g ∈ x.gens, g.length ≤ 1000000 := by
 refine ⟨by have := h.few; omega, fun g hg => ?_⟩
 have h1 := (genF_ok.1 (h.gens g hg)).1
 have h2 := h.n
 omega

def NcAt (W : World) (b i : Nat) (u0 u1 u2 : Value) : Prop := b < W.heap.size ∧ W.cell? ⟨b, i, none⟩ = some u0 ∧ W.cell? ⟨b, i + 1, none⟩ = some u1 ∧ W.cell? ⟨b, i + 2, none⟩ = some u2

theorem NcAt.later {W W' : World} {b i : Nat} {u0 u1 u2 : Value} (h : NcAt W b i u0 u1 u2) (hb : Below W.heap.size W W') : NcAt W' b i u0 u1 u2 :=
 ⟨Nat.lt_of_lt_of_le h.1 hb.size, (hb.cell (p := ⟨b, i, none⟩) h.1).trans h.2.1, (hb.cell (p := ⟨b, i + 1, none⟩) h.1).trans h.2.2.1, (hb.cell (p := ⟨b, i + 2, none⟩) h.1).trans h.2.2.2⟩

theorem NcIn.len {W : World} {q : Nc} (h : NcIn W q) : q.l = q.x.gens.length := by
 obtain ⟨_, _, e, -⟩ := h
 simp only [Value.slice.injEq] at e
 exact e.2.1

end Go.Proofs.Ytcnllfnikajddaa

/- A variable that lies there. -/
namespace Go.Proofs.Ytcnllfnikajddaa
open Go.RowKit Limbs

def BoxL (W : World) (B : Nat) (u0 u1 : Value) : Prop := Box W B u0 u1 ∧ B < W.heap.size

theorem BoxL.later {W W' : World} {B : Nat} {u0 u1 : Value} (h : BoxL W B u0 u1) (hb : Below W.heap.size W W') : BoxL W' B u0 u1 := ⟨h.1.later hb h.2, Nat.lt_of_lt_of_le h.2 hb.size⟩

theorem BoxL.new (W : World) (u0 u1 : Value) (t : TypeId) : BoxL (W.alloc (.cells #[u0, u1] t)) W.heap.size u0 u1 := ⟨box_new W u0 u1 t _ rfl, by simp⟩

theorem below_new (W : World) (ob : Obj) : Below W.heap.size W (W.alloc ob) := (Below.refl _ _).alloc (Nat.le_refl _) _

end Go.Proofs.Ytcnllfnikajddaa

/- Lists that grow by one. -/
namespace Go.Proofs.Ytcnllfnikajddaa
open Go.RowKit

theorem step_append_run {P : Program} {ops : Array Oper} {o : Oper} {a : Act} {w : World} {K : Act → World → Prop} {Q : Exit → Act → World → Prop} {E : Prop} (hg : o.guard = none) (s x : Operand) (t tn : TypeId)
  (ho : o.op = .call { callee := .builtin .append, args := #[s, x], argTypes := #[t, tn] }) (vs vx : Value) (hs : a.eval s = vs) (hx : a.eval x = vx)
  (v' : Value) (w' : World) (hr : (Builtin.append_ #[t, tn] o.type #[vs, vx]).run P w = .ok v' w') (hK : K (a.put o.dst v') w') :
  if Region.wanted o (yielded ops a.tmps) = true then Oper.wp P o a w K Q else E := by
 rw [if_pos (by simp [Region.wanted, hg])]
 exact Lib.wp_append_run w s x t tn ho vs vx hs hx v' w' hr hK

theorem own_snoc {P : Program} (W : World) (base : Nat) (hbase : base ≤ W.heap.size) (t ty e : TypeId) (i : TypeInfo) (z : Value) (sz by' : Nat) (ht : P.underlying t = some (.slice e)) (hi : P.info? e = some i) (hz : i.zero = some z)
  (hsize : i.size = sz) (hby : i.bytes = by') (hzs : z.cells.size = sz) (hsz : 0 < sz) (v : Value) (n : Nat) (xs : List Value) (hown : W.ownsRow base e sz v n xs)
  (ys : Array Value) (tb : TypeId) (hl : ys.size = sz) (h1 : ∀ y ∈ ys.toList, y.oneCell' = true) (h63 : n + 1 ≤ maxLen) (hbytes : (n + 1) * by' ≤ 140737488355328) :
  ∃ o c W', (Builtin.append_ #[t, t] ty #[v, .slice (some ⟨W.heap.size, 0, none⟩) 1 1]).run P (W.alloc (.cells ys tb)) = .ok (.slice o (n + 1) c) W' ∧ W'.ownsRow base e sz (.slice o (n + 1) c) (n + 1) (xs ++ ys.toList) ∧ Below base W W' := by
 obtain ⟨v', W', hr, hown', hg, -⟩ := run_append_own (P := P) (W.alloc (.cells ys tb)) base t ty e i z sz by' ht hi hz hsize hby hzs hsz v n xs (hown.alloc _) ⟨W.heap.size, 0, none⟩ 1 1 ys.toList (by rw [Array.length_toList, hl, Nat.one_mul]) (World.news_of_block (heap_alloc_new W _)) h1 h63 hbytes (by simp; omega)
 obtain ⟨o, c, rfl, -⟩ := owns_form hown'
 exact ⟨o, c, W', hr, hown', owns_below hown hbase hg⟩

theorem gens_snoc (W : World) (base : Nat) (hbase : base ≤ W.heap.size) (v : Value) (n : Nat) (xs : List Value) (hown : W.ownsRow base 23 1 v n xs) (o : Option Addr) (l c : Nat) (hn : n ≤ 1000) :
  ∃ o' c' W', (Builtin.append_ #[35, 35] 35 #[v, .slice (some ⟨W.heap.size, 0, none⟩) 1 1]).run Try.prog (W.alloc (.cells #[.slice o l c] 23)) = .ok (.slice o' (n + 1) c') W' ∧ W'.ownsRow base 23 1 (.slice o' (n + 1) c') (n + 1) (xs ++ [.slice o l c]) ∧ Below base W W' := by
 obtain ⟨j0, hj, hy0, hy1, hy2⟩ := info_got Try.infoIntsB
 exact own_snoc W base hbase _ _ _ j0 _ 1 24 (by kernel_rfl) hj hy0 hy1 hy2 rfl (by decide) v n xs hown #[.slice o l c] _ rfl (fun y hy => by
  rw [List.mem_singleton] at hy
  rw [hy]; rfl) (by unfold maxLen; omega) (by omega)

theorem BoxT.laterC {W W' : World} {B C : Nat} {u0 u1 u2 : Value} (h : BoxT W B u0 u1 u2) (hb : Below C W W') (hC : B < C) : BoxT W' B u0 u1 u2 :=
 ⟨⟨(hb.cell (p := ⟨B, 0, none⟩) hC).trans h.1.1, (hb.cell (p := ⟨B, 1, none⟩) hC).trans h.1.2.1, (hb.cell (p := ⟨B, 2, none⟩) hC).trans h.1.2.2.1, Nat.lt_of_lt_of_le h.1.2.2.2 hb.size⟩, fun k => (hb.frozen (p := ⟨B, k, none⟩) hC).trans (h.2 k)⟩

structure BackI (W8 wr : World) (ps : List Gc) (m : Nat) (nm : ByteArray) (N : Int) (vo : Option Addr) (vc : Nat) : Prop where
 box : BoxT wr W8.heap.size (.string nm) (.int .i64 N) (.slice vo m vc)
 own : wr.ownsRow (W8.heap.size + 1) 23 1 (.slice vo m vc) m ((ps.reverse.take m).map (·.1))
 below : Below W8.heap.size W8 wr

theorem BackI.start (W8 : World) (ps : List Gc) (nm : ByteArray) (N : Int) (t : TypeId) : BackI W8 (W8.alloc (.cells #[.string nm, .int .i64 N, .slice none 0 0] t)) ps 0 nm N none 0 :=
 ⟨BoxT.new _ _ _ _ _, by rw [List.take_zero]; exact World.ownsRow_nil _ _ _ _, alloc_below _ _⟩

theorem BackI.step {W8 wr W' : World} {ps : List Gc} {u' : Gc} {m : Nat} {nm : ByteArray} {N : Int} {vo : Option Addr} {vc : Nat} (h : BackI W8 wr ps m nm N vo vc) (hm : m < ps.length) {o' : Option Addr} {c' : Nat} {u : Value} (hu : ps.reverse[m]? = some u') (hu1 : u'.1 = u)
  (hown : W'.ownsRow (W8.heap.size + 1) 23 1 (.slice o' (m + 1) c') (m + 1) ((ps.reverse.take m).map (·.1) ++ [u])) (hb : Below (W8.heap.size + 1) wr W') : BackI W8 (W'.setCell ⟨W8.heap.size, 2, none⟩ (.slice o' (m + 1) c')) ps (m + 1) nm N o' c' where
 box := (h.box.laterC hb (Nat.lt_succ_self _)).set2 _
 own := by
  have hl : m < ps.reverse.length := by rw [List.length_reverse]; exact hm
  have e : ps.reverse[m] = u' := by rw [List.getElem?_eq_getElem hl] at hu; exact Option.some.inj hu
  rw [List.take_succ_eq_append_getElem hl, List.map_append, e]
  show World.ownsRow _ _ _ _ _ _ (_ ++ [u'.1])
  rw [hu1]
  exact ownsRow_setCell_below hown (a := ⟨W8.heap.size, 2, none⟩) (Nat.lt_succ_self W8.heap.size) _
 below := (h.below.trans (hb.mono (Nat.le_succ _))).setCell (p := ⟨W8.heap.size, 2, none⟩) (Nat.le_refl _) _

theorem BackI.rows {W8 wr : World} {ps : List Gc} {nm : ByteArray} {N : Int} {vo : Option Addr} {vc : Nat} (h : BackI W8 wr ps ps.length nm N vo vc) (hin : ∀ g ∈ ps, GcIn W8 g) {gs : List (List Int)} (hps : ps.map (·.2) = gs) : NcIn wr ⟨⟨nm, N, gs.reverse⟩, vo, ps.length, vc⟩ := by
 have ho := owns_seq h.own
 have hl : ps.reverse.take ps.length = ps.reverse := List.take_of_length_le (by rw [List.length_reverse]; exact Nat.le_refl _)
 rw [hl] at ho
 have h2 := rowsS_of_seq (ps := ps.reverse) (v := .slice vo ps.length vc) (W := wr) (by rw [List.length_reverse]; exact ho) (fun g hg => (hin g (List.mem_reverse.1 hg)).below h.below (Nat.le_refl _))
 rw [List.map_reverse, hps] at h2
 exact h2

theorem BackI.rows' {W8 wr : World} {ps : List Gc} {m : Nat} {nm : ByteArray} {N : Int} {vo : Option Addr} {vc : Nat} (h : BackI W8 wr ps m nm N vo vc) (hm : ps.length = m) (hin : ∀ g ∈ ps, GcIn W8 g) {gs : List (List Int)} (hps : ps.map (·.2) = gs) : NcIn wr ⟨⟨nm, N, gs.reverse⟩, vo, m, vc⟩ := by
 subst hm
 exact h.rows hin hps

end Go.Proofs.Ytcnllfnikajddaa
