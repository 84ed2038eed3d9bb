/- NOETHER: a lattice in what two make together, and what both have in common in the other one. No Go in it. -/
import Derived.Test.YtdedolkgcdlmeaaGreatDoorSecL
import Derived.Test.YtdedolkgcdlmeaaGreatDoorIdxB
import Derived.Test.YtdedolkgcdlmeaaGreatDoorQtL
namespace Go.Proofs.YtdedolkgcdlmeaaGreatDoor
open Go.RowKit Limbs

/-- So much of each row. -/
def vL (n : Nat) (ks : List (List Int)) (u : Nat → Int) : List Int := (List.range n).map fun b => sumN ks.length (fun k => u k * ent ks k b)

theorem vL_len (n : Nat) (ks : List (List Int)) (u : Nat → Int) : (vL n ks u).length = n := by simp [vL]

theorem vL_get (n : Nat) (ks : List (List Int)) (u : Nat → Int) (b : Nat) (hb : b < n) : (vL n ks u).getD b 0 = sumN ks.length (fun k => u k * ent ks k b) := range_getD n _ b hb

section
variable {n : Nat} {hs ks : List (List Int)} {pk : Nat → Nat}

theorem vL_in (G : FormL n ks pk) (u : Nat → Int) : Gens n (InL ks) (vL n ks u) :=
  gens_of_lat G.len (vL_len n ks u) ⟨u, fun b hb => vL_get n ks u b hb⟩

theorem coord_one (G : FormL n ks pk) {x y : Nat → Int} (h : ∀ b, b < n → sumN ks.length (fun k => x k * ent ks k b) = sumN ks.length (fun k => y k * ent ks k b)) : ∀ k, k < ks.length → x k = y k := fun k hk => by
  have h1 := much_one G (vL_len n ks x) (ds := (List.range ks.length).map x) (by simp) fun b hb => by
    rw [vL_get n ks x b hb]
    exact sumN_congr fun q hq => by rw [range_getD _ _ q hq]; rfl
  have h2 := much_one G (vL_len n ks x) (ds := (List.range ks.length).map y) (by simp) fun b hb => by
    rw [vL_get n ks x b hb, h b hb]
    exact sumN_congr fun q hq => by rw [range_getD _ _ q hq]; rfl
  have h3 := congrArg (fun l => List.getD l k 0) (h1.symm.trans h2)
  rwa [range_getD _ _ k hk, range_getD _ _ k hk] at h3

/-- Rows of shares, put together, are the shares of rows put together. -/
theorem much_turn (G : FormL n ks pk) (hl : ∀ r ∈ hs, r.length = n) (hin : ∀ r ∈ hs, Gens n (InL ks) r) (κ : Nat → Int) (b : Nat) (hb : b < n) :
    sumN ks.length (fun q => sumN hs.length (fun i => κ i * ent (muchM hs ks pk) i q) * ent ks q b) = sumN hs.length (fun i => κ i * ent hs i b) := by
  have e1 : sumN hs.length (fun i => κ i * ent hs i b) = sumN hs.length (fun i => sumN ks.length (fun q => κ i * (ent (muchM hs ks pk) i q * ent ks q b))) := sumN_congr fun i hi => by rw [much_rows G hl hin i b hi hb, sumN_mul]
  rw [e1, sumN_swap]
  refine sumN_congr fun q _ => ?_
  rw [Int.mul_comm, ← sumN_mul]
  exact sumN_congr fun i _ => by ac_rfl

theorem much_lat (G : FormL n ks pk) (hl : ∀ r ∈ hs, r.length = n) (hin : ∀ r ∈ hs, Gens n (InL ks) r) (u : Nat → Int) : Lat hs.length ks.length (ent (muchM hs ks pk)) u ↔ Gens n (InL hs) (vL n ks u) := by
  constructor
  · rintro ⟨κ, hκ⟩
    refine gens_of_lat hl (vL_len n ks u) ⟨κ, fun b hb => ?_⟩
    show (vL n ks u).getD b 0 = _
    rw [vL_get n ks u b hb]
    refine Eq.trans (sumN_congr fun q hq => ?_) (much_turn G hl hin κ b hb)
    rw [hκ q hq]
  · intro h
    obtain ⟨κ, hκ⟩ := lat_inL h
    refine ⟨κ, coord_one G fun b hb => ?_⟩
    have h1 := hκ b hb
    dsimp only at h1
    rw [vL_get n ks u b hb] at h1
    exact h1.trans (much_turn G hl hin κ b hb).symm

end

theorem second_lists {n : Nat} {hs ks ss mm : List (List Int)} {ph pk ps pm : Nat → Nat} (F : FormL n hs ph) (G : FormL n ks pk) (E : FormL n ss ps) (H : FormL n mm pm) (hS : Alikes n (InL ss) (InL (hs ++ ks))) (hM : ∀ v, v.length = n → (Gens n (InL mm) v ↔ Gens n (InL hs) v ∧ Gens n (InL ks) v))
    (i1 : ∀ r ∈ hs, Gens n (InL ss) r) (i2 : ∀ r ∈ ks, Gens n (InL ss) r) (i3 : ∀ r ∈ mm, Gens n (InL ks) r) {k1 k2 : Nat} (hk : k1 + ks.length = k2 + ss.length) (g : Int) :
    Dv k1 hs.length ss.length (ent (muchM hs ss ps)) g ↔ Dv k2 mm.length ks.length (ent (muchM mm ks pk)) g := by
  obtain ⟨C, hC⟩ := rows_coef (r := ss.length) (n := n) (mm := (hs ++ ks).length) (H := ent ss) (M := ent (hs ++ ks)) fun i hi => by
    have hm : ss.getD i [] ∈ ss := getD_mem hi
    exact lat_inL ((hS _).1 (.base hm (E.len _ hm)))
  have hsp : ∀ i b, i < ss.length → b < n → ent ss i b = sumN hs.length (fun k => C i k * ent hs k b) + sumN ks.length (fun l => C i (hs.length + l) * ent ks l b) := fun i b hi hb => by
    rw [hC i b hi hb, List.length_append, sumN_cat]
    congr 1
    · refine sumN_congr fun k hk => ?_
      unfold ent
      rw [List.getD_eq_getElem?_getD (l := hs ++ ks), List.getElem?_append_left hk, ← List.getD_eq_getElem?_getD]
    · refine sumN_congr fun l _ => ?_
      unfold ent
      rw [List.getD_eq_getElem?_getD (l := hs ++ ks), List.getElem?_append_right (by omega), Nat.add_sub_cancel_left, ← List.getD_eq_getElem?_getD]
  refine second_dv (P := ent (muchM ks ss ps)) (T := fun i l => C i (hs.length + l)) (fun i hi => ?_) (fun u => ?_) hk g
  · refine (much_lat E F.len i1 _).2 (gens_of_lat F.len (vL_len _ _ _) ⟨C i, fun b hb => ?_⟩)
    show (vL n ss _).getD b 0 = _
    rw [vL_get _ _ _ b hb]
    have e1 : sumN ss.length (fun k => ((if k = i then 1 else 0) - sumN ks.length (fun l => C i (hs.length + l) * ent (muchM ks ss ps) l k)) * ent ss k b) = sumN ss.length (fun k => ent ss k b * (if k = i then 1 else 0) + - (sumN ks.length (fun l => C i (hs.length + l) * ent (muchM ks ss ps) l k) * ent ss k b)) := sumN_congr fun k _ => by
      rw [Int.sub_mul, Int.sub_eq_add_neg, Int.mul_comm (if k = i then 1 else 0)]
    rw [e1, sumN_add, sumN_delta ss.length i hi, sumN_neg, much_turn E G.len i2 (fun l => C i (hs.length + l)) b hb, hsp i b hi hb]
    show _ = sumN hs.length (fun k => C i k * ent hs k b)
    omega
  · have e : vL n ss (fun q => sumN ks.length (fun l => u l * ent (muchM ks ss ps) l q)) = vL n ks u := list_ext (by rw [vL_len, vL_len]) fun b hb => by
      rw [vL_len] at hb
      rw [vL_get _ _ _ b hb, vL_get _ _ _ b hb]
      exact much_turn E G.len i2 u b hb
    rw [much_lat G H.len i3, much_lat E F.len i1, e, hM _ (vL_len _ _ _)]
    exact ⟨fun h => h.1, fun h => ⟨h, vL_in G u⟩⟩

theorem InvQ.second {n : Nat} {hs ks ss mm : List (List Int)} {ph pk ps pm : Nat → Nat} {zs1 zs2 : List Int} (F : FormL n hs ph) (G : FormL n ks pk) (E : FormL n ss ps) (H : FormL n mm pm) (hS : Alikes n (InL ss) (InL (hs ++ ks))) (hM : ∀ v, v.length = n → (Gens n (InL mm) v ↔ Gens n (InL hs) v ∧ Gens n (InL ks) v))
    (i1 : ∀ r ∈ hs, Gens n (InL ss) r) (i2 : ∀ r ∈ ks, Gens n (InL ss) r) (i3 : ∀ r ∈ mm, Gens n (InL ks) r) (q1 : InvQ hs ss ps zs1) (q2 : InvQ mm ks pk zs2) : ss.length + mm.length = hs.length + ks.length ∧ zs1 = zs2 := by
  obtain ⟨ys1, fa1, fs1, pa1, D1, rfl, f1, a1, l1, t1, c1⟩ := q1
  obtain ⟨ys2, fa2, fs2, pa2, D2, rfl, f2, a2, l2, t2, c2⟩ := q2
  have d1 := fun k g => smith_dv f1 a1 (muchM_len hs ss ps) t1 c1 k g
  have d2 := fun k g => smith_dv f2 a2 (muchM_len mm ks pk) t2 c2 k g
  rw [muchM_length] at d1 d2
  have h := second_one (a := ss.length) (c := ks.length) (ys := ys1) (zs := ys2) (fun i hi => c1.pos i (by rw [← c1.len]; exact hi)) (fun i hi => c2.pos i (by rw [← c2.len]; exact hi)) (fun i j h1 h2 => c1.chain i (by rw [← c1.len]; omega) j h1 (by rw [← c1.len]; exact h2)) (fun i j h1 h2 => c2.chain i (by rw [← c2.len]; omega) j h1 (by rw [← c2.len]; exact h2)) fun k1 k2 g hk => (d1 k1 g).symm.trans ((second_lists F G E H hS hM i1 i2 i3 hk g).trans (d2 k2 g))
  rw [c1.len, c2.len, l1, l2] at h
  exact h

end Go.Proofs.YtdedolkgcdlmeaaGreatDoor
