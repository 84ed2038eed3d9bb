/- mat.Hermite of rows that are right. -/
import Derived.Test.YtmeefloajhffbaaDoorOpens
import Derived.Test.YtmeefloajhffbaaDoorMatChk
import Derived.Test.YtmeefloajhffbaaDoorHold
import Derived.Test.YtmeefloajhffbaaDoorShare

namespace Go.Proofs.YtmeefloajhffbaaDoor
open Go.RowKit Limbs

/-- What Hermite answers. -/
def HermPost (w : World) (n nv : Nat) (ms : List (List Int)) (e : Ending) (w' : World) : Prop :=
  ∃ u hs p, e = .returned (.tuple #[u, .nilIface]) ∧ MatN w' u hs (n * nv + 2) ∧ hs.length ≤ n ∧ Below w.heap.size w w' ∧ FormL n hs p ∧ Alikes n (InL hs) (InL ms)

/-- The same, and that the list of rows is new. -/
def HermNew (w : World) (n nv : Nat) (ms : List (List Int)) (e : Ending) (w' : World) : Prop :=
  ∃ u hs p, e = .returned (.tuple #[u, .nilIface]) ∧ MatN w' u hs (n * nv + 2) ∧ hs.length ≤ n ∧ Below w.heap.size w w' ∧ FormL n hs p ∧ Alikes n (InL hs) (InL ms) ∧ Fresh w.heap.size u

set_option maxRecDepth 100000 in
set_option maxHeartbeats 1600000 in
theorem hermite_new (w : World) (v : Value) (ms : List (List Int)) (n nv : Nat) (hv : MatN w v ms nv) (hr : ∀ us ∈ ms, us.length = n) (hn1 : 1 ≤ n) (hn : n ≤ 8) (hm : ms.length ≤ 12) (hN : nbK n (n * nv + 2) nv n ≤ 100000) :
    Calls Tryd.prog 10 #[v, .int .i64 (n : Int)] w fun e w' => HermNew w n nv ms e w' := by
  have HC := hide (checkM_ok w v ms n nv hv hn1 hn hm hr)
  have HO := hide (fun w1 (hb : Below w.heap.size w w1) => oneForm_new w1 v ms n nv (hv.below hb (Nat.le_refl _)) hr hn1 (by omega) (by omega) hN)
  obtain ⟨ao, cap, rfl, -, -⟩ := hv
  clear hr hN
  go_enter Tryd.func10, Tryd.ntmps10
  go_wp2_with fail
  refine HC.out.mono ?_
  rintro e w1 ⟨rfl, hb1⟩
  have HB1 := hide hb1
  clear hb1 HC
  go_wp2_with fail
  refine (HO.out w1 HB1.out).mono ?_
  rintro e w2 ⟨u, hs, p, rfl, h1, h2, h3, h4, h5, h6⟩
  have HP := hide (show HermNew w n nv ms (.returned (.tuple #[u, .nilIface])) w2 from ⟨u, hs, p, rfl, h1, h2, HB1.out.trans (h3.mono HB1.out.size), h4, h5, h6.mono HB1.out.size⟩)
  clear h1 h2 h3 h4 h5 h6 HO HB1
  go_wp2
  go_ret2
  exact HP.out

theorem hermite_any (w : World) (v : Value) (ms : List (List Int)) (n nv : Nat) (hv : MatN w v ms nv) (hr : ∀ us ∈ ms, us.length = n) (hn1 : 1 ≤ n) (hn : n ≤ 8) (hm : ms.length ≤ 12) (hN : nbK n (n * nv + 2) nv n ≤ 100000) :
    Calls Tryd.prog 10 #[v, .int .i64 (n : Int)] w fun e w' => HermPost w n nv ms e w' :=
  (hermite_new w v ms n nv hv hr hn1 hn hm hN).mono fun _ _ ⟨u, hs, p, h1, h2, h3, h4, h5, h6, _⟩ => ⟨u, hs, p, h1, h2, h3, h4, h5, h6⟩

end Go.Proofs.YtmeefloajhffbaaDoor

/- Of rows in the one form: where their first numbers lie. -/
namespace Go.Proofs.YtmeefloajhffbaaDoor
open Go.RowKit Limbs

theorem first_eq : ∀ (zs : List Int) (k : Nat), k < zs.length → (∀ j, j < k → zs.getD j 0 = 0) → zs.getD k 0 ≠ 0 → first zs = k
  | [], k, hk, _, _ => absurd hk (by simp)
  | z :: zs, 0, _, _, hne => by
    have : z ≠ 0 := by simpa using hne
    rw [first, if_neg this]; rfl
  | z :: zs, k + 1, hk, h0, hne => by
    have e : z = 0 := by simpa using h0 0 (by omega)
    have ih := first_eq zs k (by simpa using hk) (fun j hj => by simpa using h0 (j + 1) (by omega)) (by simpa using hne)
    rw [first, if_pos e, ih, if_neg (by omega)]
    omega

theorem FormL.first {n : Nat} {hs : List (List Int)} {p : Nat → Nat} (h : FormL n hs p) {k : Nat} (hk : k < hs.length) : first hs[k] = p k ∧ p k < n ∧ 0 < hs[k].getD (p k) 0 := by
  have hlen := h.len _ (List.getElem_mem hk)
  have h1 := h.form.lt k hk
  have h2 := h.form.pos k hk
  have h3 := h.form.zero k
  simp only [getD_row hk] at h2 h3
  exact ⟨first_eq _ _ (by omega) (fun j hj => h3 j hk hj) (by omega), h1, h2⟩

theorem FormL.red {n : Nat} {hs : List (List Int)} {p : Nat → Nat} (h : FormL n hs p) {i k : Nat} (hik : i < k) (hk : k < hs.length) : 0 ≤ (hs[i]'(by omega)).getD (p k) 0 ∧ (hs[i]'(by omega)).getD (p k) 0 < hs[k].getD (p k) 0 := by
  have := h.form.red i k hik hk
  simpa only [getD_row hk, getD_row (show i < hs.length by omega)] using this

/-- The pivot's place of the row ahead. -/
def lastP (p : Nat → Nat) (k : Nat) : Int := if k = 0 then -1 else (p (k - 1) : Int)

theorem FormL.last {n : Nat} {hs : List (List Int)} {p : Nat → Nat} (h : FormL n hs p) {k : Nat} (hk : k < hs.length) : lastP p k < (p k : Int) := by
  unfold lastP
  split
  · omega
  · have := h.form.inc (k - 1) k (by omega) hk
    omega

end Go.Proofs.YtmeefloajhffbaaDoor

/- How much of each row in the one form a vector is: lists. -/
namespace Go.Proofs.YtmeefloajhffbaaDoor
open Go.RowKit Limbs

/-- The row's share of what is left. -/
def oftL (hs : List (List Int)) (p : Nat → Nat) (xs : List Int) (k : Nat) : Int := xs.getD (p k) 0 / (hs.getD k []).getD (p k) 0

/-- What is left once rows are taken off. -/
def leftL (hs : List (List Int)) (p : Nat → Nat) (zs : List Int) : Nat → List Int
  | 0 => zs
  | k + 1 => List.zipWith (fun x y => x - y) (leftL hs p zs k) ((hs.getD k []).map (oftL hs p (leftL hs p zs k) k * ·))

/-- How much of each row. -/
def muchL (hs : List (List Int)) (p : Nat → Nat) (zs : List Int) : List Int := (List.range hs.length).map fun k => oftL hs p (leftL hs p zs k) k

theorem range_getD (m : Nat) (f : Nat → Int) (k : Nat) (hk : k < m) : ((List.range m).map f).getD k 0 = f k := by
  rw [List.getD_eq_getElem?_getD, List.getElem?_map, List.getElem?_range hk]
  rfl

end Go.Proofs.YtmeefloajhffbaaDoor

/- The sum of two lattices: what generates it. -/
namespace Go.Proofs.YtmeefloajhffbaaDoor
open Go.RowKit Limbs

end Go.Proofs.YtmeefloajhffbaaDoor

/- Rows turned about, put to each other, there twice: they generate the same. -/
namespace Go.Proofs.YtmeefloajhffbaaDoor
open Go.RowKit Limbs

/-- The row before it is put to. -/
def sRow (ms : List (List Int)) (b x : Nat) : List Int := if x = b then ((ms.getD x []).map (1 * ·)).map (-1 * ·) else (ms.getD x []).map (1 * ·)

def tRow (ms : List (List Int)) (a b : Nat) (z : Int) (x : Nat) : List Int :=
  if x = a ∧ a ≠ b then List.zipWith (fun x y => x + y) (sRow ms b x) ((ms.getD b []).map (z * ·)) else sRow ms b x

def tList (ms : List (List Int)) (a b : Nat) (z : Int) : Nat → List (List Int)
  | 0 => []
  | d + 1 => tList ms a b z d ++ [tRow ms a b z (ms.length - 1 - d)]

theorem nb_ok : ∀ n, n < 9 → nbK n (n * 8 + 2) 8 n ≤ 100000 ∧ nbK n (n * (n * 8 + 2) + 2) (n * 8 + 2) n ≤ 100000 ∧ nbK n (n * 13 + 2) 13 n ≤ 100000 := by decide

end Go.Proofs.YtmeefloajhffbaaDoor
