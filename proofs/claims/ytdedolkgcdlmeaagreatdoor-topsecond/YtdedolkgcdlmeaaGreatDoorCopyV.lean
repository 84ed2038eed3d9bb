/- copy: numbers of a vector go over into a vector of one's own. -/
import Derived.Test.YtdedolkgcdlmeaaGreatDoorStairs
import Derived.Test.YtdedolkgcdlmeaaGreatDoorGcdA
import Derived.Laws.CopyOwn
namespace Go.Proofs.YtdedolkgcdlmeaaGreatDoor
open Go.RowKit Limbs

/-- The two cells of a number. -/
def pcells (p : Nm × Int) : List Value := [.bool p.1.neg, .slice p.1.o p.1.l p.1.c]

theorem pcells_at (ps : List (Nm × Int)) : ∀ i (h : i < ps.length), (ps.flatMap pcells)[i * 2]? = some (.bool ps[i].1.neg) ∧ (ps.flatMap pcells)[i * 2 + 1]? = some (.slice ps[i].1.o ps[i].1.l ps[i].1.c) := by
  induction ps with
  | nil => intro i h; exact absurd h (by simp)
  | cons p ps ih =>
    intro i h
    rw [List.flatMap_cons]
    cases i with
    | zero => exact ⟨rfl, rfl⟩
    | succ i =>
      obtain ⟨h1, h2⟩ := ih i (by simpa using h)
      have e1 : (i + 1) * 2 = i * 2 + 2 := by omega
      rw [e1, show i * 2 + 2 + 1 = i * 2 + 1 + 2 by omega, List.getElem?_append_right (by simp [pcells]), List.getElem?_append_right (by simp [pcells])]
      exact ⟨h1, h2⟩

theorem pcells_len (ps : List (Nm × Int)) : (ps.flatMap pcells).length = ps.length * 2 := by
  induction ps with
  | nil => rfl
  | cons p ps ih => rw [List.flatMap_cons, List.length_append, ih]; simp [pcells]; omega

theorem pcells_one (ps : List (Nm × Int)) : ∀ v ∈ ps.flatMap pcells, v.oneCell' = true := fun v hv => by
  obtain ⟨p, -, hp⟩ := List.mem_flatMap.1 hv
  simp only [pcells, List.mem_cons, List.mem_nil_iff, or_false] at hp
  rcases hp with rfl | rfl <;> rfl

/-- How the numbers of a vector lie. -/
theorem VecN.pairs {W : World} {b off cap : Nat} {us : List Int} {n : Nat} (h : VecN W (.slice (some ⟨b, off, none⟩) us.length cap) us n) :
    ∃ ps : List (Nm × Int), ps.map (·.2) = us ∧ (∀ p ∈ ps, NumL W (.agg #[.bool p.1.neg, .slice p.1.o p.1.l p.1.c]) p.2 n) ∧ ∀ j v, (ps.flatMap pcells)[j]? = some v → W.cell? ⟨b, off + j, none⟩ = some v := by
  have H : ∀ i : Fin us.length, ∃ r : Nm, W.cell? ⟨b, off + i * 2, none⟩ = some (.bool r.neg) ∧ W.cell? ⟨b, off + i * 2 + 1, none⟩ = some (.slice r.o r.l r.c) ∧ NumL W (.agg #[.bool r.neg, .slice r.o r.l r.c]) (us.getD i 0) n := fun i => by
    obtain ⟨-, neg, o, l, c, h1, h2, h3⟩ := h.at i i.2
    exact ⟨⟨neg, o, l, c⟩, h1, h2, h3⟩
  obtain ⟨f, hf⟩ := Classical.axiomOfChoice H
  have hl : (List.ofFn fun i : Fin us.length => ((f i, us.getD i 0) : Nm × Int)).length = us.length := List.length_ofFn
  refine ⟨List.ofFn fun i : Fin us.length => (f i, us.getD i 0), ?_, fun p hp => ?_, fun j v hj => ?_⟩
  · apply List.ext_getElem (by rw [List.length_map, hl])
    intro i h1 h2
    rw [List.getElem_map, List.getElem_ofFn]
    show us.getD i 0 = us[i]
    rw [List.getD_eq_getElem?_getD, List.getElem?_eq_getElem h2]; rfl
  · obtain ⟨i, rfl⟩ := (List.mem_ofFn).1 hp
    exact (hf i).2.2
  · have hjl := (List.getElem?_eq_some_iff.1 hj).1
    rw [pcells_len, hl] at hjl
    have hi : j / 2 < us.length := by omega
    obtain ⟨e1, e2⟩ := pcells_at (List.ofFn fun i : Fin us.length => (f i, us.getD i 0)) (j / 2) (by rw [hl]; exact hi)
    obtain ⟨k1, k2, -⟩ := hf ⟨j / 2, hi⟩
    rw [List.getElem_ofFn] at e1 e2
    by_cases hm : j % 2 = 0
    · have ej : j = j / 2 * 2 := by omega
      rw [← ej] at e1
      rw [e1] at hj
      rw [← Option.some.inj hj]
      have : (⟨b, off + j, none⟩ : Addr) = ⟨b, off + j / 2 * 2, none⟩ := by rw [← ej]
      rw [this]; exact k1
    · have ej : j = j / 2 * 2 + 1 := by omega
      rw [← ej] at e2
      rw [e2] at hj
      rw [← Option.some.inj hj]
      have : (⟨b, off + j, none⟩ : Addr) = ⟨b, off + j / 2 * 2 + 1, none⟩ := by rw [Nat.add_assoc, ← ej]
      rw [this]; exact k2

theorem splice_set (zs us : List Int) (k : Nat) (u : Int) (hk : k < zs.length) : splice (zs.set k u) (k + 1) us = splice zs k (u :: us) := by
  unfold splice
  have hk' : k < (zs.set k u).length := by rw [List.length_set]; exact hk
  rw [List.take_succ_eq_append_getElem hk', List.getElem_set_self, List.take_set_of_le (Nat.le_refl _), List.drop_set_of_lt (by omega), List.length_cons, show k + 1 + us.length = k + (us.length + 1) by omega, List.append_assoc]
  rfl

theorem NumL.laid {w W : World} {P : Nat} {zs : List Int} {n : Nat} (h : VecO w W P zs n) {k : Nat} (hk : k < zs.length) (neg : Bool) (o : Option Addr) (l c : Nat) {v : Value} {y : Int} {m : Nat} (hv : NumL W v y m) :
    NumL ((W.setCell ⟨P, k * 2, none⟩ (.bool neg)).setCell ⟨P, k * 2 + 1, none⟩ (.slice o l c)) v y m := by
  obtain ⟨neg0, o0, l0, c0, k0, k1, -⟩ := h.at k hk
  have k1' : (W.setCell ⟨P, k * 2, none⟩ (.bool neg)).cell? ⟨P, k * 2 + 1, none⟩ = some (.slice o0 l0 c0) := (World.cell?_setCell_other (h := fun e => by simp at e) ..).trans k1
  exact (hv.setCell k0 (fun z e => by cases e)).setCell k1' (fun z e => by cases e)

/-- Numbers are laid over a part of the vector. -/
theorem VecO.lay {w : World} {P n : Nat} : ∀ (ps : List (Nm × Int)) (k : Nat) (W : World) (zs : List Int), VecO w W P zs n → k + ps.length ≤ zs.length → (∀ p ∈ ps, NumL W (.agg #[.bool p.1.neg, .slice p.1.o p.1.l p.1.c]) p.2 n) → VecO w (W.setCells P (k * 2) (ps.flatMap pcells)) P (splice zs k (ps.map (·.2))) n
  | [], k, W, zs, h, _, _ => by simpa [splice, World.setCells] using h
  | p :: ps, k, W, zs, h, hk, hn => by
    rw [List.length_cons] at hk
    have hset := h.set (k := k) (by omega) (hn p (by simp))
    have hrest := VecO.lay ps (k + 1) _ _ hset (by rw [List.length_set]; omega) (fun q hq => NumL.laid h (by omega) _ _ _ _ (hn q (by simp [hq])))
    rw [splice_set _ _ _ _ (by omega), show (k + 1) * 2 = k * 2 + 1 + 1 by omega] at hrest
    exact hrest

theorem setCells_below {B b : Nat} {w0 : World} (hB : B ≤ b) : ∀ (vs : List Value) (o : Nat) (W : World), Below B w0 W → Below B w0 (W.setCells b o vs)
  | [], _, _, h => h
  | v :: r, o, _, h => setCells_below hB r (o + 1) _ (h.setCell (p := ⟨b, o, none⟩) hB v)

theorem setCells_size (b : Nat) : ∀ (vs : List Value) (o : Nat) (W : World), (W.setCells b o vs).heap.size = W.heap.size
  | [], _, _ => rfl
  | v :: r, o, _ => by rw [World.setCells, setCells_size b r (o + 1)]; simp

theorem Tryz.sizeNum : (Tryz.prog.info? 29).map (·.size) = some 2 := by kernel_rfl

theorem run_copy_two {P : Program} (w : World) (dT sT ty elem : TypeId) (b o dLen dCap : Nat) (a : Addr) (sLen sCap : Nat) (cs : List Value)
    (hu : P.underlying dT = some (.slice elem)) (hs : (P.info? elem).map (·.size) = some 2) (hle : sLen ≤ dLen) (hn : cs.length = sLen * 2)
    (hsrc : ∀ j v, cs[j]? = some v → w.cell? (a.add j) = some v) (hc : ∀ j, j < cs.length → (w.cell? ⟨b, o + j, none⟩).isSome = true) (hf : ∀ j, j < cs.length → w.frozen? ⟨b, o + j, none⟩ = false) (h1 : ∀ v ∈ cs, v.oneCell' = true) :
    (Builtin.copy_ #[dT, sT] ty #[.slice (some ⟨b, o, none⟩) dLen dCap, .slice (some a) sLen sCap]).run P w = .ok (goInt sLen) (w.setCells b o cs) := by
  have hl := run_loadCells_list (P := P) w a cs hsrc
  have hst := run_storeCells_cells (P := P) b o cs 0 w (by simpa using hc) (by simpa using hf) h1
  have hm : Nat.min sLen dLen = sLen := Nat.min_eq_left hle
  cases hq : P.info? elem with
  | none => simp [hq] at hs
  | some i =>
    have hi : i.size = 2 := by simpa [hq] using hs
    simp [Builtin.copy_, run_underlying hu, Builtin.lenOf, Builtin.firstCells, sizeOf, typeInfo, hq, hi, hm, ← hn, hl, hst]

theorem run_copy_void {P : Program} (w : World) (dT sT ty elem : TypeId) (d a : Option Addr) (dLen dCap sCap : Nat) (hu : P.underlying dT = some (.slice elem)) (hs : (P.info? elem).map (·.size) = some 2) :
    (Builtin.copy_ #[dT, sT] ty #[.slice d dLen dCap, .slice a 0 sCap]).run P w = .ok (goInt 0) w := by
  cases hq : P.info? elem with
  | none => simp [hq] at hs
  | some i =>
    have hl : ∀ (x : Addr), (loadCells x 0).run P w = .ok #[] w := fun x => by simpa using run_loadCells_list (P := P) w x [] (by simp)
    cases d <;> cases a <;> simp [Builtin.copy_, run_underlying hu, Builtin.lenOf, Builtin.firstCells, sizeOf, typeInfo, hq, storeCells, hl]

/-- A vector's numbers go over into one of one's own, from a place on. -/
theorem copy_vec {w W : World} {P n : Nat} {zs : List Int} (h : VecO w W P zs n) (k dl dc : Nat) (v : Value) (us : List Int) (hv : VecN W v us n) (hk : k + us.length ≤ zs.length) (hd : us.length ≤ dl) :
    ∃ W', (∀ ty, (Builtin.copy_ #[72, 72] ty #[.slice (some ⟨P, k * 2, none⟩) dl dc, v]).run Tryz.prog W = .ok (goInt us.length) W') ∧ VecO w W' P (splice zs k us) n ∧ W'.heap.size = W.heap.size ∧ Below P W W' := by
  by_cases h0 : us.length = 0
  · obtain rfl : us = [] := List.eq_nil_of_length_eq_zero h0
    obtain ⟨ao, cap, rfl, -, -⟩ := hv
    exact ⟨W, fun ty => run_copy_void W _ _ ty 29 _ _ _ _ _ (by kernel_rfl) Tryz.sizeNum, by simpa [splice] using h, rfl, Below.refl _ _⟩
  · obtain ⟨b, off, cap, rfl⟩ := hv.form (by omega)
    obtain ⟨ps, e1, e2, e3⟩ := hv.pairs
    have hlen : ps.length = us.length := by rw [← e1, List.length_map]
    have ha : ∀ j, (⟨b, off, none⟩ : Addr).add j = ⟨b, off + j, none⟩ := fun j => by unfold Addr.add; split <;> simp_all
    refine ⟨W.setCells P (k * 2) (ps.flatMap pcells), fun ty => run_copy_two W _ _ ty 29 P (k * 2) dl dc ⟨b, off, none⟩ us.length cap _ (by kernel_rfl) Tryz.sizeNum hd (by rw [pcells_len, hlen]) (fun j u hj => by rw [ha]; exact e3 j u hj) (fun j hj => ?_) (fun j _ => h.thaw _) (pcells_one ps), ?_, setCells_size _ _ _ _, setCells_below (Nat.le_refl _) _ _ _ (Below.refl _ _)⟩
    · rw [pcells_len] at hj
      obtain ⟨neg, o, l, c, q1, q2, -⟩ := h.at (k + j / 2) (by omega)
      by_cases hm : j % 2 = 0
      · rw [show k * 2 + j = (k + j / 2) * 2 by omega, q1]; rfl
      · rw [show k * 2 + j = (k + j / 2) * 2 + 1 by omega, q2]; rfl
    · have := VecO.lay ps k W zs h (by omega) e2
      rwa [e1] at this

/-- The same, at a place that is spelt otherwise. -/
theorem copy_vec_at {w W : World} {P n : Nat} {zs : List Int} (h : VecO w W P zs n) (k o dl dc : Nat) (ho : o = k * 2) (v : Value) (us : List Int) (hv : VecN W v us n) (hk : k + us.length ≤ zs.length) (hd : us.length ≤ dl) :
    ∃ W', (∀ ty, (Builtin.copy_ #[72, 72] ty #[.slice (some ⟨P, o, none⟩) dl dc, v]).run Tryz.prog W = .ok (goInt us.length) W') ∧ VecO w W' P (splice zs k us) n ∧ W'.heap.size = W.heap.size ∧ Below P W W' := by
  subst ho
  exact copy_vec h k dl dc v us hv hk hd

/-- copy as one step of a region that draws its order. -/
theorem step_copy {P : Program} {ops : Array Oper} {o : Oper} {a : Act} {w : World} {K : Act → World → Prop} {Q : Exit → Act → World → Prop} {E : Prop} (hgd : o.guard = none) (dd : Nat) (hdst : o.dst = some dd) (d s : Operand) (dT sT : TypeId)
    (ho : o.op = .call { callee := .builtin .copy, args := #[d, s], argTypes := #[dT, sT] }) (dv sv v : Value) (w' : World) (hd : a.eval d = dv) (hs : a.eval s = sv)
    (hrun : ∀ ty, (Builtin.copy_ #[dT, sT] ty #[dv, sv]).run P w = .ok v w') (h : K (a.put (some dd) v) w') :
    if Region.wanted o (yielded ops a.tmps) = true then Oper.wp P o a w K Q else E := by
  rw [← hdst] at h
  have hw : Region.wanted o (yielded ops a.tmps) = true := by simp [Region.wanted, hgd]
  rw [if_pos hw]
  unfold Oper.wp
  simp [execOp, ho, resolve, invoke, builtin, hd, hs, hrun, Result.andThen]
  exact h

end Go.Proofs.YtdedolkgcdlmeaaGreatDoor
