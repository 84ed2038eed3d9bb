/- copy: numbers of a vector go over into a vector of one's own. -/
import Derived.Test.YtajcdhaaldhlaaaGreatDoorStairs
import Derived.Test.YtajcdhaaldhlaaaGreatDoorGcdA
import Derived.Laws.CopyOwn

namespace Go.Proofs.YtajcdhaaldhlaaaGreatDoor
open Go.RowKit Limbs

def pcells (p : Nm × Int) : List Value := [.bool p.1.neg, .slice p.1.o p.1.l p.1.c]

theorem pcells_at (ps : List (Nm × Int)) : ∀ i (h : i < ps.length), (ps.flatMap pcells)[i * 2]? = some (.bool ps[i].1.neg) ∧ (ps.flatMap pcells)[i * 2 + 1]? = some (.slice ps[i].1.o ps[i].1.l ps[i].1.c) := by
 induction ps with
 | nil => intro i h; exact absurd h (by simp)
 | cons p ps ih =>
  intro i h
  rw [List.flatMap_cons]
  cases i with
  | zero => exact ⟨rfl, rfl⟩
  | succ i =>
   obtain ⟨h1, h2⟩ := ih i (by simpa using h)
   have e1 : (i + 1) * 2 = i * 2 + 2 := by omega
   rw [e1, show i * 2 + 2 + 1 = i * 2 + 1 + 2 by omega, List.getElem?_append_right (by simp [pcells]), List.getElem?_append_right (by simp [pcells])]
   exact ⟨h1, h2⟩

theorem pcells_len (ps : List (Nm × Int)) : (ps.flatMap pcells).length = ps.length * 2 := by
 induction ps with
 | nil => rfl
 | cons p ps ih => rw [List.flatMap_cons, List.length_append, ih]; simp [pcells]; omega

theorem pcells_one (ps : List (Nm × Int)) : ∀ v ∈ ps.flatMap pcells, v.oneCell' = true := fun v hv => by
 obtain ⟨p, -, hp⟩ := List.mem_flatMap.1 hv
 simp only [pcells, List.mem_cons, List.mem_nil_iff, or_false] at hp
 rcases hp with rfl | rfl <;> rfl

theorem VecN.pairs {W : World} {b off cap : Nat} {us : List Int} {n : Nat} (h : VecN W (.slice (some ⟨b, off, none⟩) us.length cap) us n) :
  ∃ ps : List (Nm × Int), ps.map (·.2) = us ∧ (∀ p ∈ ps, NumL W (.agg #[.bool p.1.neg, .slice p.1.o p.1.l p.1.c]) p.2 n) ∧ ∀ j v, (ps.flatMap pcells)[j]? = some v → W.cell? ⟨b, off + j, none⟩ = some v := by
 have H : ∀ i : Fin us.length, ∃ r : Nm, W.cell? ⟨b, off + i * 2, none⟩ = some (.bool r.neg) ∧ W.cell? ⟨b, off + i * 2 + 1, none⟩ = some (.slice r.o r.l r.c) ∧ NumL W (.agg #[.bool r.neg, .slice r.o r.l r.c]) (us.getD i 0) n := fun i => by
  obtain ⟨-, neg, o, l, c, h1, h2, h3⟩ := h.at i i.2
  exact ⟨⟨neg, o, l, c⟩, h1, h2, h3⟩
 obtain ⟨f, hf⟩ := Classical.axiomOfChoice H
 have hl : (List.ofFn fun i : Fin us.length => ((f i, us.getD i 0) : Nm × Int)).length = us.length := List.length_ofFn
 refine ⟨List.ofFn fun i : Fin us.length => (f i, us.getD i 0), ?_, fun p hp => ?_, fun j v hj => ?_⟩
 ·apply List.ext_getElem (by rw [List.length_map, hl])
  intro i h1 h2
  rw [List.getElem_map, List.getElem_ofFn]
  show us.getD i 0 = us[i]
  rw [List.getD_eq_getElem?_getD, List.getElem?_eq_getElem h2]; rfl
 ·obtain ⟨i, rfl⟩ := (List.mem_ofFn).1 hp
  exact (hf i).2.2
 ·have hjl := (List.getElem?_eq_some_iff.1 hj).1
  rw [pcells_len, hl] at hjl
  have hi : j / 2 < us.length := by omega
  obtain ⟨e1, e2⟩ := pcells_at (List.ofFn fun i : Fin us.length => (f i, us.getD i 0)) (j / 2) (by rw [hl]; exact hi)
  obtain ⟨k1, k2, -⟩ := hf ⟨j / 2, hi⟩
  rw [List.getElem_ofFn] at e1 e2
  by_cases hm : j % 2 = 0
  ·have ej : j = j / 2 * 2 := by omega
   rw [← ej] at e1
   rw [e1] at hj
   rw [← Option.some.inj hj]
   have : (⟨b, off + j, none⟩ : Addr) = ⟨b, off + j / 2 * 2, none⟩ := by rw [← ej]
   rw [this]; exact k1
  ·have ej : j = j / 2 * 2 + 1 := by omega
   rw [← ej] at e2
   rw [e2] at hj
   rw [← Option.some.inj hj]
   have : (⟨b, off + j, none⟩ : Addr) = ⟨b, off + j / 2 * 2 + 1, none⟩ := by rw [Nat.add_assoc, ← ej]
   rw [this]; exact k2

theorem splice_set (zs us : List Int) (k : Nat) (u : Int) (hk : k < zs.length) : splice (zs.set k u) (k + 1) us = splice zs k (u :: us) := by
 unfold splice
 have hk' : k < (zs.set k u).length := by rw [List.length_set]; exact hk
 rw [List.take_succ_eq_append_getElem hk', List.getElem_set_self, List.take_set_of_le (Nat.le_refl _), List.drop_set_of_lt (by omega), List.length_cons, show k + 1 + us.length = k + (us.length + 1) by omega, List.append_assoc]
 rfl

theorem NumL.laid {w W : World} {P : Nat} {zs : List Int} {n : Nat} (h : VecO w W P zs n) {k : Nat} (hk : k < zs.length) (neg : Bool) (o : Option Addr) (l c : Nat) {v : Value} {y : Int} {m : Nat} (hv : NumL W v y m) :
  NumL ((W.setCell ⟨P, k * 2, none⟩ (.bool neg)).setCell ⟨P, k * 2 + 1, none⟩ (.slice o l c)) v y m := by
 obtain ⟨neg0, o0, l0, c0, k0, k1, -⟩ := h.at k hk
 have k1' : (W.setCell ⟨P, k * 2, none⟩ (.bool neg)).cell? ⟨P, k * 2 + 1, none⟩ = some (.slice o0 l0 c0) := (World.cell?_setCell_other (h := fun e => by simp at e) ..).trans k1
 exact (hv.setCell k0 (fun z e => by cases e)).setCell k1' (fun z e => by cases e)

theorem VecO.lay {w : World} {P n : Nat} : ∀ (ps : List (Nm × Int)) (k : Nat) (W : World) (zs : List Int), VecO w W P zs n → k + ps.length ≤ zs.length → (∀ p ∈ ps, NumL W (.agg #[.bool p.1.neg, .slice p.1.o p.1.l p.1.c]) p.2 n) → VecO w (W.setCells P (k * 2) (ps.flatMap pcells)) P (splice zs k (ps.map (·.2))) n
 | [], k, W, zs, h, _, _ => by simpa [splice, World.setCells] using h
 | p :: ps, k, W, zs, h, hk, hn => by
  rw [List.length_cons] at hk
  have hset := h.set (k := k) (by omega) (hn p (by simp))
  have hrest := VecO.lay ps (k + 1) _ _ hset (by rw [List.length_set]; omega) (fun q hq => NumL.laid h (by omega) _ _ _ _ (hn q (by simp [hq])))
  rw [splice_set _ _ _ _ (by omega), show (k + 1) * 2 = k * 2 + 1 + 1 by omega] at hrest
  exact hrest

theorem setCells_below {B b : Nat} {w0 : World} (hB : B ≤ b) : ∀ (vs : List Value) (o : Nat) (W : World), Below B w0 W → Below B w0 (W.setCells b o vs)
 | [], _, _, h => h
 | v :: r, o, _, h => setCells_below hB r (o + 1) _ (h.setCell (p := ⟨b, o, none⟩) hB v)

theorem setCells_size (b : Nat) : ∀ (vs : List Value) (o : Nat) (W : World), (W.setCells b o vs).heap.size = W.heap.size
 | [], _, _ => rfl
 | v :: r, o, _ => by rw [World.setCells, setCells_size b r (o + 1)]; simp

theorem Tryz.sizeNum : (Tryz.prog.info? 51).map (·.size) = some 2 := by kernel_rfl

theorem run_copy_two {P : Program} (w : World) (dT sT ty elem : TypeId) (b o dLen dCap : Nat) (a : Addr) (sLen sCap : Nat) (cs : List Value)
  (hu : P.underlying dT = some (.slice elem)) (hs : (P.info? elem).map (·.size) = some 2) (hle : sLen ≤ dLen) (hn : cs.length = sLen * 2)
  (hsrc : ∀ j v, cs[j]? = some v → w.cell? (a.add j) = some v) (hc : ∀ j, j < cs.length → (w.cell? ⟨b, o + j, none⟩).isSome = true) (hf : ∀ j, j < cs.length → w.frozen? ⟨b, o + j, none⟩ = false) (h1 : ∀ v ∈ cs, v.oneCell' = true) :
  (Builtin.copy_ #[dT, sT] ty #[.slice (some ⟨b, o, none⟩) dLen dCap, .slice (some a) sLen sCap]).run P w = .ok (goInt sLen) (w.setCells b o cs) := by
 have hl := run_loadCells_list (P := P) w a cs hsrc
 have hst := run_storeCells_cells (P := P) b o cs 0 w (by simpa using hc) (by simpa using hf) h1
 have hm : Nat.min sLen dLen = sLen := Nat.min_eq_left hle
 cases hq : P.info? elem with
 | none => simp [hq] at hs
 | some i =>
  have hi : i.size = 2 := by simpa [hq] using hs
  simp [Builtin.copy_, run_underlying hu, Builtin.lenOf, Builtin.firstCells, sizeOf, typeInfo, hq, hi, hm, ← hn, hl, hst]

theorem run_copy_void {P : Program} (w : World) (dT sT ty elem : TypeId) (d a : Option Addr) (dLen dCap sCap : Nat) (hu : P.underlying dT = some (.slice elem)) (hs : (P.info? elem).map (·.size) = some 2) :
  (Builtin.copy_ #[dT, sT] ty #[.slice d dLen dCap, .slice a 0 sCap]).run P w = .ok (goInt 0) w := by
 cases hq : P.info? elem with
 | none => simp [hq] at hs
 | some i =>
  have hl : ∀ (x : Addr), (loadCells x 0).run P w = .ok #[] w := fun x => by simpa using run_loadCells_list (P := P) w x [] (by simp)
  cases d <;> cases a <;> simp [Builtin.copy_, run_underlying hu, Builtin.lenOf, Builtin.firstCells, sizeOf, typeInfo, hq, storeCells, hl]

theorem copy_vec {w W : World} {P n : Nat} {zs : List Int} (h : VecO w W P zs n) (k dl dc : Nat) (v : Value) (us : List Int) (hv : VecN W v us n) (hk : k + us.length ≤ zs.length) (hd : us.length ≤ dl) :
  ∃ W', (∀ ty, (Builtin.copy_ #[39, 39] ty #[.slice (some ⟨P, k * 2, none⟩) dl dc, v]).run Tryz.prog W = .ok (goInt us.length) W') ∧ VecO w W' P (splice zs k us) n ∧ W'.heap.size = W.heap.size ∧ Below P W W' := by
 by_cases h0 : us.length = 0
 ·obtain rfl : us = [] := List.eq_nil_of_length_eq_zero h0
  obtain ⟨ao, cap, rfl, -, -⟩ := hv
  exact ⟨W, fun ty => run_copy_void W _ _ ty 51 _ _ _ _ _ (by kernel_rfl) Tryz.sizeNum, by simpa [splice] using h, rfl, Below.refl _ _⟩
 ·obtain ⟨b, off, cap, rfl⟩ := hv.form (by omega)
  obtain ⟨ps, e1, e2, e3⟩ := hv.pairs
  have hlen : ps.length = us.length := by rw [← e1, List.length_map]
  have ha : ∀ j, (⟨b, off, none⟩ : Addr).add j = ⟨b, off + j, none⟩ := fun j => by unfold Addr.add; split <;> simp_all
  refine ⟨W.setCells P (k * 2) (ps.flatMap pcells), fun ty => run_copy_two W _ _ ty 51 P (k * 2) dl dc ⟨b, off, none⟩ us.length cap _ (by kernel_rfl) Tryz.sizeNum hd (by rw [pcells_len, hlen]) (fun j u hj => by rw [ha]; exact e3 j u hj) (fun j hj => ?_) (fun j _ => h.thaw _) (pcells_one ps), ?_, setCells_size _ _ _ _, setCells_below (Nat.le_refl _) _ _ _ (Below.refl _ _)⟩
  ·rw [pcells_len] at hj
   obtain ⟨neg, o, l, c, q1, q2, -⟩ := h.at (k + j / 2) (by omega)
   by_cases hm : j % 2 = 0
   ·rw [show k * 2 + j = (k + j / 2) * 2 by omega, q1]; rfl
   ·rw [show k * 2 + j = (k + j / 2) * 2 + 1 by omega, q2]; rfl
  ·have := VecO.lay ps k W zs h (by omega) e2
   rwa [e1] at this

theorem copy_vec_at {w W : World} {P n : Nat} {zs : List Int} (h : VecO w W P zs n) (k o dl dc : Nat) (ho : o = k * 2) (v : Value) (us : List Int) (hv : VecN W v us n) (hk : k + us.length ≤ zs.length) (hd : us.length ≤ dl) :
  ∃ W', (∀ ty, (Builtin.copy_ #[39, 39] ty #[.slice (some ⟨P, o, none⟩) dl dc, v]).run Tryz.prog W = .ok (goInt us.length) W') ∧ VecO w W' P (splice zs k us) n ∧ W'.heap.size = W.heap.size ∧ Below P W W' := by
 subst ho
 exact copy_vec h k dl dc v us hv hk hd

theorem step_copy {P : Program} {ops : Array Oper} {o : Oper} {a : Act} {w : World} {K : Act → World → Prop} {Q : Exit → Act → World → Prop} {E : Prop} (hgd : o.guard = none) (dd : Nat) (hdst : o.dst = some dd) (d s : Operand) (dT sT : TypeId)
  (ho : o.op = .call { callee := .builtin .copy, args := #[d, s], argTypes := #[dT, sT] }) (dv sv v : Value) (w' : World) (hd : a.eval d = dv) (hs : a.eval s = sv)
  (hrun : ∀ ty, (Builtin.copy_ #[dT, sT] ty #[dv, sv]).run P w = .ok v w') (h : K (a.put (some dd) v) w') :
  if Region.wanted o (yielded ops a.tmps) = true then Oper.wp P o a w K Q else E := by
 rw [← hdst] at h
 have hw : Region.wanted o (yielded ops a.tmps) = true := by simp [Region.wanted, hgd]
 rw [if_pos hw]
 unfold Oper.wp
 simp [execOp, ho, resolve, invoke, builtin, hd, hs, hrun, Result.andThen]
 exact h

end Go.Proofs.YtajcdhaaldhlaaaGreatDoor

/- What vectors generate, as a closure: what lowering and folding leave as it is. -/
namespace Go.Proofs.YtajcdhaaldhlaaaGreatDoor
open Go.RowKit Limbs

inductive Gens (len : Nat) (S : List Int → Prop) : List Int → Prop
 | base {v : List Int} (h : S v) (hl : v.length = len) : Gens len S v
 | zero : Gens len S (List.replicate len 0)
 | comb {u v : List Int} (x y : Int) (hu : Gens len S u) (hv : Gens len S v) : Gens len S (List.zipWith (fun a b => x * a + y * b) u v)

theorem Gens.len {len : Nat} {S : List Int → Prop} {v : List Int} (h : Gens len S v) : v.length = len := by
 induction h with
 | base _ hl => exact hl
 | zero => simp
 | comb x y _ _ h1 h2 => rw [List.length_zipWith, h1, h2, Nat.min_self]

theorem Gens.trans {len : Nat} {S T : List Int → Prop} (h : ∀ v, S v → v.length = len → Gens len T v) {v : List Int} (hv : Gens len S v) : Gens len T v := by
 induction hv with
 | base hs hl => exact h _ hs hl
 | zero => exact .zero
 | comb x y _ _ h1 h2 => exact .comb x y h1 h2

theorem list_ext {xs ys : List Int} (hl : xs.length = ys.length) (h : ∀ k, k < xs.length → xs.getD k 0 = ys.getD k 0) : xs = ys := by
 apply List.ext_getElem hl
 intro k h1 h2
 have := h k h1
 rwa [List.getD_eq_getElem?_getD, List.getD_eq_getElem?_getD, List.getElem?_eq_getElem h1, List.getElem?_eq_getElem h2] at this

theorem zip_back {us r : List Int} (hl : us.length = r.length) (q : Int) : List.zipWith (fun a b => 1 * a + q * b) (List.zipWith (fun a b => 1 * a + -q * b) us r) r = us := by
 have h1 := zip_len (fun a b => 1 * a + -q * b) us r hl
 have h2 := zip_len (fun a b => 1 * a + q * b) (List.zipWith (fun a b => 1 * a + -q * b) us r) r (h1.trans hl)
 refine list_ext (h2.trans h1) fun k hk => ?_
 rw [h2, h1] at hk
 rw [zip_getD _ _ _ (h1.trans hl) k (by omega), zip_getD _ _ _ hl k hk, Int.neg_mul]
 omega

theorem Gens.low {len : Nat} {S : List Int → Prop} {us r : List Int} (hu : Gens len S us) (hr : Gens len S r) (k : Nat) : Gens len S (lowRow us r k) := .comb _ _ hu hr

theorem Gens.unlow {len : Nat} {S : List Int → Prop} {us r : List Int} {k : Nat} (hl : us.length = r.length) (hu : Gens len S (lowRow us r k)) (hr : Gens len S r) : Gens len S us := by
 have := Gens.comb 1 (us.getD k 0 / r.getD k 0) hu hr
 unfold lowRow at this
 rwa [zip_back hl] at this

theorem Gens.lowN {len : Nat} {S : List Int → Prop} {rows : Nat → Option (List Int)} {f : Nat} {us : List Int} (hu : Gens len S us) (hr : ∀ i r, f ≤ i → rows i = some r → Gens len S r) (k : Nat) : Gens len S (lowN rows f us k) := by
 induction k with
 | zero => exact hu
 | succ k ih =>
  unfold Go.Proofs.YtajcdhaaldhlaaaGreatDoor.lowN lowAt
  split
  ·exact ih
  ·rename_i r e
   exact ih.low (hr _ r (by omega) e) _

theorem lowN_len' (rows : Nat → Option (List Int)) (f : Nat) (us : List Int) {len : Nat} (hl : us.length = len) (h : ∀ i r, f ≤ i → rows i = some r → r.length = len) (k : Nat) : (lowN rows f us k).length = len := by
 induction k with
 | zero => exact hl
 | succ k ih =>
  unfold lowN lowAt
  split
  ·exact ih
  ·rename_i r hr
   unfold lowRow
   rw [zip_len _ _ _ (ih.trans (h _ r (by omega) hr).symm)]
   exact ih

theorem Gens.unlowN {len : Nat} {S : List Int → Prop} {rows : Nat → Option (List Int)} {f : Nat} {us : List Int} (hl : us.length = len) (hr : ∀ i r, f ≤ i → rows i = some r → Gens len S r) (k : Nat) (hu : Gens len S (Go.Proofs.YtajcdhaaldhlaaaGreatDoor.lowN rows f us k)) : Gens len S us := by
 induction k with
 | zero => exact hu
 | succ k ih =>
  unfold Go.Proofs.YtajcdhaaldhlaaaGreatDoor.lowN lowAt at hu
  revert hu
  split
  ·exact ih
  ·rename_i r e
   intro hu
   have hg := hr _ r (by omega) e
   refine ih (hu.unlow ?_ hg)
   have h3 := lowN_len' rows f us hl (fun i r hi e => (hr i r hi e).len) k
   rw [h3, hg.len]

theorem fold_back {us vs : List Int} (hl : us.length = vs.length) {p q g x y s t : Int} (hg : 0 < g) (h1 : g = x * p + y * q) (h2 : p = s * g) (h3 : q = t * g) :
  List.zipWith (fun a b => s * a + -y * b) (List.zipWith (fun a b => x * a + y * b) us vs) (List.zipWith (fun b a => s * b + -t * a) vs us) = us ∧
  List.zipWith (fun a b => t * a + x * b) (List.zipWith (fun a b => x * a + y * b) us vs) (List.zipWith (fun b a => s * b + -t * a) vs us) = vs := by
 have hd : x * s + y * t = 1 := by
  have e : (x * s + y * t) * g = 1 * g := by
   rw [Int.add_mul, Int.mul_assoc, Int.mul_assoc, ← h2, ← h3]; omega
  exact Int.eq_of_mul_eq_mul_right (by omega) e
 have l1 := zip_len (fun a b => x * a + y * b) us vs hl
 have l2 := zip_len (fun b a => s * b + -t * a) vs us hl.symm
 have l3 := l1.trans (hl.trans l2.symm)
 constructor
 ·have l4 := zip_len (fun a b => s * a + -y * b) _ _ l3
  refine list_ext (l4.trans l1) fun k hk => ?_
  rw [l4, l1] at hk
  rw [zip_getD _ _ _ l3 k (by omega), zip_getD _ _ _ hl k hk, zip_getD _ _ _ hl.symm k (by omega)]
  generalize us.getD k 0 = a
  generalize vs.getD k 0 = b
  have : s * (x * a + y * b) + -y * (s * b + -t * a) = (x * s + y * t) * a := by
   simp only [Int.mul_add, Int.add_mul, Int.neg_mul, Int.mul_neg, Int.neg_neg]
   have e1 : s * (x * a) = x * s * a := by rw [← Int.mul_assoc, Int.mul_comm s x]
   have e2 : s * (y * b) = y * (s * b) := by rw [← Int.mul_assoc, ← Int.mul_assoc, Int.mul_comm s y]
   have e3 : y * (t * a) = y * t * a := by rw [Int.mul_assoc]
   omega
  rw [this, hd, Int.one_mul]
 ·have l4 := zip_len (fun a b => t * a + x * b) _ _ l3
  refine list_ext ((l4.trans l1).trans hl) fun k hk => ?_
  rw [l4, l1] at hk
  rw [zip_getD _ _ _ l3 k (by omega), zip_getD _ _ _ hl k hk, zip_getD _ _ _ hl.symm k (by omega)]
  generalize us.getD k 0 = a
  generalize vs.getD k 0 = b
  have : t * (x * a + y * b) + x * (s * b + -t * a) = (x * s + y * t) * b := by
   simp only [Int.mul_add, Int.add_mul, Int.neg_mul, Int.mul_neg]
   have e1 : t * (x * a) = x * (t * a) := by rw [← Int.mul_assoc, ← Int.mul_assoc, Int.mul_comm t x]
   have e2 : t * (y * b) = y * t * b := by rw [← Int.mul_assoc, Int.mul_comm t y]
   have e3 : x * (s * b) = x * s * b := by rw [Int.mul_assoc]
   omega
  rw [this, hd, Int.one_mul]

end Go.Proofs.YtajcdhaaldhlaaaGreatDoor

/- What stands above pivots becomes less than they. -/
namespace Go.Proofs.YtajcdhaaldhlaaaGreatDoor
open Go.RowKit Limbs

theorem lowN_keep {rows : Nat → Option (List Int)} {f : Nat} {us : List Int} (hl : ∀ i r, rows i = some r → r.length = us.length) {j : Nat} (hj : j < us.length) (hz : ∀ i r, f ≤ i → rows i = some r → r.getD j 0 = 0) (k : Nat) : (lowN rows f us k).getD j 0 = us.getD j 0 := by
 induction k with
 | zero => rfl
 | succ k ih =>
  have hlk := lowN_len (f := f) hl k
  unfold lowN lowAt
  split
  ·exact ih
  ·rename_i r hr
   unfold lowRow
   rw [zip_getD _ _ _ (hlk.trans (hl _ r hr).symm) j (by omega), hz _ r (by omega) hr, ih]
   omega

def tidyAt (rows : Nat → Option (List Int)) (m a : Nat) : Nat → Option (List Int) := fun i => if i = a then (rows a).map (fun r => lowN rows (a + 1) r (m - (a + 1))) else rows i

def tidyN (rows : Nat → Option (List Int)) (m : Nat) : Nat → Nat → Option (List Int)
 | 0 => rows
 | i + 1 => tidyAt (tidyN rows m i) m (m - 1 - i)

structure Ech (rows : Nat → Option (List Int)) (len m : Nat) : Prop where
 len : ∀ i r, rows i = some r → r.length = len
 zero : ∀ i r, rows i = some r → ∀ j, j < i → r.getD j 0 = 0
 lt : ∀ i r, rows i = some r → i < m

theorem Ech.step {rows : Nat → Option (List Int)} {len m a : Nat} (h : Ech rows len m) (hm : m ≤ len) : Ech (tidyAt rows m a) len m := by
 have key : ∀ i r, tidyAt rows m a i = some r → r.length = len ∧ (∀ j, j < i → r.getD j 0 = 0) ∧ i < m := by
  intro i r e
  unfold tidyAt at e
  by_cases hi : i = a
  ·rw [if_pos hi] at e
   subst hi
   obtain ⟨r0, e0, rfl⟩ := Option.map_eq_some_iff.1 e
   have hl0 := h.len _ _ e0
   have hlt := h.lt _ _ e0
   have hl : ∀ i r, rows i = some r → r.length = r0.length := fun i r e => (h.len i r e).trans hl0.symm
   refine ⟨(lowN_len hl _).trans hl0, fun j hj => ?_, hlt⟩
   rw [lowN_keep hl (by omega) (fun i' r' hi' e' => h.zero i' r' e' j (by omega))]
   exact h.zero _ _ e0 j hj
  ·rw [if_neg hi] at e
   exact ⟨h.len i r e, h.zero i r e, h.lt i r e⟩
 exact ⟨fun i r e => (key i r e).1, fun i r e => (key i r e).2.1, fun i r e => (key i r e).2.2⟩

theorem Ech.all {rows : Nat → Option (List Int)} {len m : Nat} (h : Ech rows len m) (hm : m ≤ len) (k : Nat) : Ech (tidyN rows m k) len m := by
 induction k with
 | zero => exact h
 | succ k ih => exact ih.step hm

theorem VecN.tight {w : World} {v : Value} {zs : List Int} {n m : Nat} (h : VecN w v zs n) (hz : ∀ j, j < zs.length → ab (zs.getD j 0) < bp m) : VecN w v zs m := by
 obtain ⟨ao, cap, hv, h1, h2⟩ := h
 refine ⟨ao, cap, hv, h1, fun h0 => ?_⟩
 obtain ⟨b, off, e, hlt, hc⟩ := h2 h0
 refine ⟨b, off, e, hlt, fun i hi => ?_⟩
 obtain ⟨neg, o, l, c, h3, h4, h5⟩ := hc i hi
 exact ⟨neg, o, l, c, h3, h4, h5.tight (hz i hi)⟩

theorem run_nil_ne (w : World) : Sem.run Tryz.prog (binOp .neq 39 (.slice none 0 0) (.slice none 0 0)) w = .ok (.bool false) w := by kernel_rfl

theorem run_some_ne (w : World) (a : Addr) (l c : Nat) : Sem.run Tryz.prog (binOp .neq 39 (.slice (some a) l c) (.slice none 0 0)) w = .ok (.bool true) w := by kernel_rfl

def tb (m S0 N i : Nat) : Nat → Nat := fun a => if m - i ≤ a then S0 else N

set_option maxRecDepth 100000 in
set_option maxHeartbeats 4000000 in
theorem tidy_any (w W : World) (sb m len S0 N : Nat) (rows : Nat → Option (List Int)) (hs : StairO w W sb m rows len (fun _ => N)) (he : Ech rows len m) (hm : m ≤ len) (h8 : len ≤ 1000) (hN : N + m * (S0 + 3) ≤ 300000)
  (hB : ∀ i a r, i ≤ m → m - i ≤ a → tidyN rows m i a = some r → ∀ j, j < r.length → ab (r.getD j 0) < bp S0) :
  Calls Tryz.prog 105 #[.slice (some ⟨sb, 0, none⟩) m m] W fun e w' => e = .returned (.tuple #[]) ∧ StairO w w' sb m (tidyN rows m m) len (fun _ => S0) := by
 have HS := hide hs; have HE := hide he; have HB := hide hB
 clear hs he hB
 go_enter Tryz.func105, Tryz.ntmps105
 go_wp2_with fail
 go_loopw [6] (fun i wr => ∃ k : Nat, k ≤ m ∧ i = .int .i64 k ∧ Hid (StairO w wr sb m (tidyN rows m k) len (tb m S0 N k))) (fun i _ => m - (intOf i).toNat)
 case atStart =>
  refine ⟨0, Nat.zero_le _, rfl, hide (HS.out.mono fun i hi _ => ?_)⟩
  unfold tb
  rw [if_neg (by omega)]
  exact Nat.le_refl _
 case round =>
  obtain ⟨k, hk, rfl, HI⟩ := hrel
  by_cases hkl : k < m
  ·have HNX := hide (show tidyN rows m (k + 1) = tidyAt (tidyN rows m k) m (m - 1 - k) from rfl)
   have HEK := hide (HE.out.all hm k)
   have HBK := hide (HB.out (k + 1))
   obtain ⟨a, ha⟩ : ∃ a, a = m - 1 - k := ⟨_, rfl⟩
   have hac : (m : Int) - 1 - (k : Int) = (a : Int) := by omega
   have ham : a < m := by omega
   rw [← ha] at HNX
   have HA := hide ha
   clear ha
   cases hr : tidyN rows m k a with
   | none =>
    have c0 := HI.out.nil a ham hr
    have hbo := run_nil_ne wr
    have HN : Hid (StairO w wr sb m (tidyN rows m (k + 1)) len (tb m S0 N (k + 1))) := by
     have e : tidyN rows m (k + 1) = tidyN rows m k := by
      rw [HNX.out]
      funext i
      unfold tidyAt
      by_cases hi : i = a
      ·rw [if_pos hi, hi, hr]; rfl
      ·rw [if_neg hi]
     rw [e]
     refine hide (HI.out.mono fun i hi hne => ?_)
     unfold tb
     have : i ≠ a := fun h => hne (by rw [h, hr])
     have := HA.out
     by_cases h1 : m - k ≤ i
     ·rw [if_pos h1, if_pos (by omega)]; exact Nat.le_refl _
     ·rw [if_neg h1, if_neg (by omega)]; exact Nat.le_refl _
    clear hr HI HNX HEK HBK
    go_wp2
    go_roundw
    case rel => exact ⟨k + 1, by omega, by go_num, HN⟩
    case measure => simp [intOf]; omega
   | some r =>
    obtain ⟨P, c0, hv, hP, hlen, hpos⟩ := HI.out.row a ham r hr
    have hbo := run_some_ne wr ⟨P, 0, none⟩ r.length r.length
    have lsb := HI.out.lt
    have htb : tb m S0 N k a = N := by unfold tb; rw [if_neg (by have := HA.out; omega)]
    rw [htb] at hv
    clear htb
    have hcast : ((a + 1 : Nat) : Int) = (a : Int) + 1 := by omega
    have hst : Stair wr sb (a + 1) m (tidyN rows m k) r.length S0 := by
     rw [hlen]
     exact HI.out.stair (fun i hf hi => by unfold tb; rw [if_pos (by have := HA.out; omega)]; exact Nat.le_refl _)
    have hcap : N + m * (S0 + 3) ≤ 300000 := hN
    have hL := lower_any wr sb m (a + 1) N S0 (tidyN rows m k) (.slice (some ⟨P, 0, none⟩) r.length r.length) r hst (fun i r' e => (HEK.out.len i r' e).trans hlen.symm) hv.vec (by omega) (by omega) (by omega) (by omega)
    rw [hcast] at hL
    have HL := hide hL
    have hr'l : (lowN (tidyN rows m k) (a + 1) r (m - (a + 1))).length = r.length := lowN_len (fun i r' e => (HEK.out.len i r' e).trans hlen.symm) _
    have hr'p : (lowN (tidyN rows m k) (a + 1) r (m - (a + 1))).getD a 0 = r.getD a 0 := lowN_keep (fun i r' e => (HEK.out.len i r' e).trans hlen.symm) (by omega) (fun i r' hi e => HEK.out.zero i r' e a (by omega)) _
    have hnx : tidyN rows m (k + 1) = fun i => if i = a then some (lowN (tidyN rows m k) (a + 1) r (m - (a + 1))) else tidyN rows m k i := by
     rw [HNX.out]
     funext i
     unfold tidyAt
     rw [hr]
     rfl
    have hti := HBK.out a (lowN (tidyN rows m k) (a + 1) r (m - (a + 1))) (by omega) (by have := HA.out; omega) (by rw [hnx]; exact if_pos rfl)
    clear hL hst hcast
    generalize lowN (tidyN rows m k) (a + 1) r (m - (a + 1)) = r' at *
    have HF := hide (show r'.length = r.length ∧ r'.getD a 0 = r.getD a 0 ∧ (tidyN rows m (k + 1) = fun i => if i = a then some r' else tidyN rows m k i) ∧ (∀ j, j < r'.length → ab (r'.getD j 0) < bp S0) ∧ r.length = len ∧ VecO w wr P r N from ⟨hr'l, hr'p, hnx, hti, hlen, hv⟩)
    clear hr'l hr'p hnx hti hlen hv hr HNX HEK HBK
    go_wp2_with fail
    refine HL.out.mono ?_
    rintro e w1 ⟨v, rfl, hlow⟩
    obtain ⟨P', rfl, HV, hP'⟩ : ∃ P', v = .slice (some ⟨P', 0, none⟩) r'.length r'.length ∧ Hid (VecO w w1 P' r' S0) ∧ P' ≠ sb := by
     obtain ⟨h1, h2, h3, h4, h5, h6⟩ := HF.out
     have hvt := hlow.vec.tight h4
     rcases hlow.own with rfl | ⟨P', rfl, ho⟩
     ·have h7 := h6.later hlow.below
      rw [← h1] at hvt
      exact ⟨P, by rw [h1], hide ⟨hvt, h7.low, h7.below, h7.blk⟩, hP⟩
     ·exact ⟨P', rfl, hide ⟨hvt, Nat.le_trans HI.out.below.size ho.low, HI.out.below.trans (ho.below.mono HI.out.below.size), ho.blk⟩, by have := ho.low; omega⟩
    have HI1 := hide (HI.out.later hlow.below)
    have c1 := (hlow.below.cell (p := ⟨sb, a, none⟩) lsb).trans c0
    have hfz := HI1.out.thaw a
    have HN : Hid (StairO w (w1.setCell ⟨sb, a, none⟩ (.slice (some ⟨P', 0, none⟩) r'.length r'.length)) sb m (tidyN rows m (k + 1)) len (tb m S0 N (k + 1))) := by
     obtain ⟨h1, h2, h3, h4, h5, h6⟩ := HF.out
     have := HI1.out.set ham HV.out hP' (h1.trans h5) (by rw [h2]; exact hpos)
     rw [← h3] at this
     refine hide (this.mono fun i hi _ => ?_)
     have := HA.out
     unfold tb
     by_cases hia : i = a
     ·rw [if_pos hia, if_pos (by omega)]; exact Nat.le_refl _
     ·rw [if_neg hia]
      by_cases h7 : m - k ≤ i
      ·rw [if_pos h7, if_pos (by omega)]; exact Nat.le_refl _
      ·rw [if_neg h7, if_neg (by omega)]; exact Nat.le_refl _
    clear hlow HF HL HI HI1 HV c0 hbo hpos hP hP'
    go_wp2
    go_roundw
    case rel => exact ⟨k + 1, by omega, by go_num, HN⟩
    case measure => simp [intOf]; omega
  ·obtain rfl : k = m := by omega
   have HN := hide (HI.out.mono (ns' := fun _ => S0) fun i hi _ => by unfold tb; rw [if_pos (by omega)]; exact Nat.le_refl _)
   go_wp2
   exact bodyPost_end (results_none rfl _ _ _) rfl ⟨rfl, HN.out⟩

end Go.Proofs.YtajcdhaaldhlaaaGreatDoor

/- What rows and one vector generate, while the vector is put among the rows. -/
namespace Go.Proofs.YtajcdhaaldhlaaaGreatDoor
open Go.RowKit Limbs

def RowsOf (R : Nat → Option (List Int)) : List Int → Prop := fun v => ∃ i, R i = some v

def RowsOr (R : Nat → Option (List Int)) (zs : List Int) : List Int → Prop := fun v => (∃ i, R i = some v) ∨ v = zs

def Alikes (len : Nat) (S T : List Int → Prop) : Prop := ∀ x, Gens len S x ↔ Gens len T x

theorem Alikes.of {len : Nat} {S T : List Int → Prop} (h : ∀ v, S v → v.length = len → Gens len T v) (h' : ∀ v, T v → v.length = len → Gens len S v) : Alikes len S T :=
 fun _ => ⟨fun hx => hx.trans h, fun hx => hx.trans h'⟩

theorem Alikes.trans {len : Nat} {S T U : List Int → Prop} (h : Alikes len S T) (h' : Alikes len T U) : Alikes len S U := fun x => (h x).trans (h' x)

theorem Alikes.symm {len : Nat} {S T : List Int → Prop} (h : Alikes len S T) : Alikes len T S := fun x => (h x).symm

theorem alikes_low {R : Nat → Option (List Int)} {len f : Nat} {zs : List Int} (hl : ∀ i r, R i = some r → r.length = len) (hz : zs.length = len) (k : Nat) : Alikes len (RowsOr R (lowN R f zs k)) (RowsOr R zs) := by
 refine .of (fun v hv hvl => ?_) (fun v hv hvl => ?_)
 ·rcases hv with h | rfl
  ·exact .base (.inl h) hvl
  ·exact Gens.lowN (.base (.inr rfl) hz) (fun i r _ e => .base (.inl ⟨i, e⟩) (hl i r e)) k
 ·rcases hv with h | rfl
  ·exact .base (.inl h) hvl
  ·exact Gens.unlowN hvl (fun i r _ e => .base (.inl ⟨i, e⟩) (hl i r e)) k (.base (.inr rfl) (lowN_len' R f _ hvl (fun i r _ e => hl i r e) k))

def putRow (R : Nat → Option (List Int)) (k : Nat) (r : List Int) : Nat → Option (List Int) := fun i => if i = k then some r else R i

theorem alikes_fold {R : Nat → Option (List Int)} {len k : Nat} {us vs : List Int} (hk : R k = some us) (hl : us.length = len) (hz : vs.length = len) {p q g x y s t : Int} (hg : 0 < g) (h1 : g = x * p + y * q) (h2 : p = s * g) (h3 : q = t * g) :
  Alikes len (RowsOr (putRow R k (List.zipWith (fun a b => x * a + y * b) us vs)) (List.zipWith (fun b a => s * b + -t * a) vs us)) (RowsOr R vs) := by
 have hlv : us.length = vs.length := hl.trans hz.symm
 have l1 := (zip_len (fun a b => x * a + y * b) us vs hlv).trans hl
 have l2 := (zip_len (fun b a => s * b + -t * a) vs us hlv.symm).trans hz
 obtain ⟨b1, b2⟩ := fold_back hlv hg h1 h2 h3
 refine .of (fun v hv hvl => ?_) (fun v hv hvl => ?_)
 ·have gu : Gens len (RowsOr R vs) us := .base (.inl ⟨k, hk⟩) hl
  have gv : Gens len (RowsOr R vs) vs := .base (.inr rfl) hz
  rcases hv with ⟨i, e⟩ | rfl
  ·unfold putRow at e
   by_cases hi : i = k
   ·rw [if_pos hi] at e
    obtain rfl := Option.some.inj e
    exact .comb x y gu gv
   ·rw [if_neg hi] at e
    exact .base (.inl ⟨i, e⟩) hvl
  ·exact .comb s (-t) gv gu
 ·have ga := Gens.base (len := len) (S := RowsOr (putRow R k (List.zipWith (fun a b => x * a + y * b) us vs)) (List.zipWith (fun b a => s * b + -t * a) vs us)) (.inl ⟨k, if_pos rfl⟩) l1
  have gb := Gens.base (len := len) (S := RowsOr (putRow R k (List.zipWith (fun a b => x * a + y * b) us vs)) (List.zipWith (fun b a => s * b + -t * a) vs us)) (.inr rfl) l2
  rcases hv with ⟨i, e⟩ | rfl
  ·by_cases hi : i = k
   ·rw [hi, hk] at e
    obtain rfl := Option.some.inj e
    have := Gens.comb s (-y) ga gb
    rwa [b1] at this
   ·exact .base (.inl ⟨i, (if_neg hi).trans e⟩) hvl
  ·have := Gens.comb t x ga gb
   rwa [b2] at this

theorem map_one {zs : List Int} {z : Int} : zs.map (z * ·) = List.zipWith (fun a b => z * a + 0 * b) zs zs := by
 induction zs with
 | nil => rfl
 | cons a zs ih => rw [List.map_cons, List.zipWith_cons_cons, ← ih, Int.zero_mul, Int.add_zero]

theorem alikes_new {R : Nat → Option (List Int)} {len k : Nat} {zs : List Int} (hk : R k = none) (hz : zs.length = len) {z : Int} (h1 : z = 1 ∨ z = -1) : Alikes len (RowsOf (putRow R k (zs.map (z * ·)))) (RowsOr R zs) := by
 refine .of (fun v hv hvl => ?_) (fun v hv hvl => ?_)
 ·obtain ⟨i, e⟩ := hv
  unfold putRow at e
  by_cases hi : i = k
  ·rw [if_pos hi] at e
   obtain rfl := Option.some.inj e
   rw [map_one]
   exact .comb z 0 (.base (.inr rfl) hz) (.base (.inr rfl) hz)
  ·rw [if_neg hi] at e
   exact .base (.inl ⟨i, e⟩) hvl
 ·rcases hv with ⟨i, e⟩ | rfl
  ·have hi : i ≠ k := fun h => by rw [h, hk] at e; cases e
   exact .base ⟨i, (if_neg hi).trans e⟩ hvl
  ·have g : Gens len (RowsOf (putRow R k (v.map (z * ·)))) (v.map (z * ·)) := .base ⟨k, if_pos rfl⟩ (by simpa using hz)
   have := Gens.comb z 0 g g
   rw [← map_one, List.map_map] at this
   have e : (fun a : Int => z * a) ∘ (fun a => z * a) = id := by
    funext a
    rcases h1 with rfl | rfl <;> simp
   have e' : v.map ((fun x => z * x) ∘ fun x => z * x) = v := by rw [e]; simp
   rwa [e'] at this

theorem alikes_end {R : Nat → Option (List Int)} {len : Nat} {zs : List Int} (hz : zs.length = len) (h0 : ∀ j, j < len → zs.getD j 0 = 0) : Alikes len (RowsOf R) (RowsOr R zs) := by
 refine .of (fun v hv hvl => .base (.inl hv) hvl) (fun v hv hvl => ?_)
 rcases hv with h | rfl
 ·exact .base h hvl
 ·have e : v = List.replicate len 0 := list_ext (by simpa using hz) (fun k hk => by
   rw [h0 k (by omega), List.getD_eq_getElem?_getD, List.getElem?_replicate]
   split <;> rfl)
  rw [e]
  exact .zero

theorem alikes_tidyAt {rows : Nat → Option (List Int)} {len m a : Nat} (h : Ech rows len m) : Alikes len (RowsOf (tidyAt rows m a)) (RowsOf rows) := by
 cases hr : rows a with
 | none =>
  have e : tidyAt rows m a = rows := by
   funext i
   unfold tidyAt
   by_cases hi : i = a
   ·rw [if_pos hi, hi, hr]; rfl
   ·rw [if_neg hi]
  rw [e]
  exact fun _ => Iff.rfl
 | some r =>
  have hl := h.len _ _ hr
  have key : ∀ i, tidyAt rows m a i = if i = a then some (lowN rows (a + 1) r (m - (a + 1))) else rows i := fun i => by unfold tidyAt; rw [hr]; rfl
  refine .of (fun v hv hvl => ?_) (fun v hv hvl => ?_)
  ·obtain ⟨i, e⟩ := hv
   rw [key] at e
   by_cases hi : i = a
   ·rw [if_pos hi] at e
    obtain rfl := Option.some.inj e
    exact Gens.lowN (.base ⟨a, hr⟩ hl) (fun i r _ e => .base ⟨i, e⟩ (h.len i r e)) _
   ·rw [if_neg hi] at e
    exact .base ⟨i, e⟩ hvl
  ·obtain ⟨i, e⟩ := hv
   by_cases hi : i = a
   ·rw [hi, hr] at e
    obtain rfl := Option.some.inj e
    refine Gens.unlowN (rows := rows) (f := a + 1) hvl (fun i' r' hi' e' => .base ⟨i', ?_⟩ (h.len i' r' e')) (m - (a + 1)) (.base ⟨a, ?_⟩ (lowN_len' rows (a + 1) r hl (fun i r _ e => h.len i r e) _))
    ·rw [key, if_neg (by omega)]; exact e'
    ·rw [key, if_pos rfl]
   ·exact .base ⟨i, by rw [key, if_neg hi]; exact e⟩ hvl

theorem alikes_tidy {rows : Nat → Option (List Int)} {len m : Nat} (h : Ech rows len m) (hm : m ≤ len) (k : Nat) : Alikes len (RowsOf (tidyN rows m k)) (RowsOf rows) := by
 induction k with
 | zero => exact fun _ => Iff.rfl
 | succ k ih => exact (alikes_tidyAt (h.all hm k)).trans ih

end Go.Proofs.YtajcdhaaldhlaaaGreatDoor
