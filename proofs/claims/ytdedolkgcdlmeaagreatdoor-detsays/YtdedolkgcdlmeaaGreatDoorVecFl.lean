/- A vector that grows at its end; texts that do. -/
import Derived.Test.YtdedolkgcdlmeaaGreatDoorDigs
import Derived.Test.YtdedolkgcdlmeaaGreatDoorGcdA
import Derived.Test.YtdedolkgcdlmeaaGreatDoorRowO
import Derived.Test.YtdedolkgcdlmeaaGreatDoorOps2
import Derived.Test.YtdedolkgcdlmeaaGreatDoorRefJ

namespace Go.Proofs.YtdedolkgcdlmeaaGreatDoor
open Go.RowKit Limbs

/-- Limbs that don't lie in that block. -/
def apart (og : Option Nat) (s : Value) : Prop := ∀ a l c, s = .slice (some a) l c → 0 < l → some a.block ≠ og

theorem Lim.grown {W W' : World} {row : Option Nat} {s : Value} {zs : List Int} (h : Lim W s zs) (hg : W.grownBy W' row) (hne : apart row s) : Lim W' s zs := by
  obtain ⟨ao, cap, rfl, h1, h2, h3, h4⟩ := h
  refine ⟨ao, cap, rfl, h1, h2, h3, fun h0 => ?_⟩
  obtain ⟨b, off, rfl, hlt, hc⟩ := h4 h0
  have hb := hne _ _ _ rfl h0
  exact ⟨b, off, rfl, Nat.lt_of_lt_of_le hlt hg.size, fun i hi => hg.cell (hc i hi) hb⟩

def Nm.val (r : Nm) : Value := .agg #[.bool r.neg, .slice r.o r.l r.c]
def Nm.sl (r : Nm) : Value := .slice r.o r.l r.c
def ncells (p : Nm × Int) : List Value := [.bool p.1.neg, .slice p.1.o p.1.l p.1.c]

theorem NumL.grown {W W' : World} {row : Option Nat} {r : Nm} {z : Int} {n : Nat} (h : NumL W r.val z n) (hg : W.grownBy W' row) (hne : apart row r.sl) : NumL W' r.val z n := by
  obtain ⟨neg, s, zs, e, hl, h3⟩ := h
  simp only [Nm.val, Value.agg.injEq, Array.mk.injEq, List.cons.injEq, Value.bool.injEq, and_true] at e
  obtain ⟨rfl, rfl⟩ := e
  exact ⟨_, _, zs, rfl, hl.grown hg hne, h3⟩

/-- A row of numbers in memory of its own, that may grow. -/
def Grow (W : World) (base : Nat) (v : Value) (ps : List (Nm × Int)) (n : Nat) : Prop :=
  W.ownsRow base 29 2 v ps.length (ps.flatMap ncells) ∧ ∀ p ∈ ps, NumL W p.1.val p.2 n ∧ apart v.ownBlock p.1.sl

theorem Grow.nil (W : World) (base n : Nat) : Grow W base (.slice none 0 0) [] n := ⟨World.ownsRow_nil _ _ _ _, fun _ h => by cases h⟩

theorem Grow.later {W W' : World} {base : Nat} {v : Value} {ps : List (Nm × Int)} {n : Nat} (h : Grow W base v ps n) (hb : Below W.heap.size W W') : Grow W' base v ps n := by
  refine ⟨?_, fun p hp => ⟨(h.2 p hp).1.below hb (Nat.le_refl _), (h.2 p hp).2⟩⟩
  refine ⟨h.1.1, ?_⟩
  rcases h.1.2 with hn | ⟨g, cap, cur, e, hbg, hh, rest⟩
  · exact .inl hn
  · exact .inr ⟨g, cap, cur, e, hbg, (hb.block _ (heap_lt hh)).trans hh, rest⟩

theorem ncells_at (ps : List (Nm × Int)) : ∀ i (h : i < ps.length), (ps.flatMap ncells)[i * 2]? = some (.bool ps[i].1.neg) ∧ (ps.flatMap ncells)[i * 2 + 1]? = some (.slice ps[i].1.o ps[i].1.l ps[i].1.c) := by
  induction ps with
  | nil => intro i h; exact absurd h (by simp)
  | cons p ps ih =>
    intro i h
    rw [List.flatMap_cons]
    cases i with
    | zero => exact ⟨rfl, rfl⟩
    | succ i =>
      obtain ⟨h1, h2⟩ := ih i (by simpa using h)
      have e1 : (i + 1) * 2 = i * 2 + 2 := by omega
      rw [e1, show i * 2 + 2 + 1 = i * 2 + 1 + 2 by omega, List.getElem?_append_right (by simp [ncells]), List.getElem?_append_right (by simp [ncells])]
      exact ⟨h1, h2⟩

/-- It is a vector of these numbers. -/
theorem Grow.vec {W : World} {base : Nat} {v : Value} {ps : List (Nm × Int)} {n : Nat} (h : Grow W base v ps n) : VecN W v (ps.map (·.2)) n := by
  obtain ⟨⟨-, h1⟩, h2⟩ := h
  have hlen : (ps.map (·.2)).length = ps.length := List.length_map ..
  rcases h1 with ⟨rfl, hn⟩ | ⟨g, cap, cur, rfl, hb, hh, hc1, hc2, hc3, hc4⟩
  · exact ⟨none, 0, by rw [hlen, hn], by rw [hlen]; omega, fun h0 => absurd h0 (by rw [hlen]; omega)⟩
  · refine ⟨_, cap, by rw [hlen], by rw [hlen]; exact hc1, fun h0 => ⟨g, 0, rfl, heap_lt hh, fun i hi => ?_⟩⟩
    rw [hlen] at hi
    obtain ⟨e1, e2⟩ := ncells_at ps i hi
    have hcell : ∀ k u, k < ps.length * 2 → (ps.flatMap ncells)[k]? = some u → W.cell? ⟨g, 0 + k, none⟩ = some u := fun k u hk hu => by
      have := World.news_of_block hh k u (by rw [← hc4, List.getElem?_take, if_pos hk] at hu; exact hu)
      have e : (⟨g, 0, none⟩ : Addr).add k = ⟨g, 0 + k, none⟩ := by unfold Addr.add; split <;> simp_all
      rwa [e] at this
    refine ⟨ps[i].1.neg, ps[i].1.o, ps[i].1.l, ps[i].1.c, hcell _ _ (by omega) e1, hcell _ _ (by omega) e2, ?_⟩
    have e3 : (ps.map (·.2)).getD i 0 = ps[i].2 := by
      rw [List.getD_eq_getElem?_getD, List.getElem?_map, List.getElem?_eq_getElem hi]; rfl
    rw [e3]
    exact (h2 _ (List.getElem_mem hi)).1

end Go.Proofs.YtdedolkgcdlmeaaGreatDoor

/- The reference: one row of its own becomes a vector. -/
namespace Go.Proofs.YtdedolkgcdlmeaaGreatDoor
open Go.RowKit Limbs Digs

theorem VecN.grown {W W' : World} {v : Value} {zs : List Int} {n : Nat} (h : VecN W v zs n) (hg : W.grownBy W' none) : VecN W' v zs n := by
  obtain ⟨ao, cap, hv, h1, h2⟩ := h
  refine ⟨ao, cap, hv, h1, fun h0 => ?_⟩
  obtain ⟨b, off, e, hlt, hc⟩ := h2 h0
  refine ⟨b, off, e, Nat.lt_of_lt_of_le hlt hg.size, fun i hi => ?_⟩
  obtain ⟨neg, o, l, c, h3, h4, h5⟩ := hc i hi
  exact ⟨neg, o, l, c, hg.cell h3 (by simp), hg.cell h4 (by simp), NumL.grown (r := ⟨neg, o, l, c⟩) h5 hg (fun _ _ _ _ _ h => by cases h)⟩

end Go.Proofs.YtdedolkgcdlmeaaGreatDoor

/- Rows of vectors that grow at their end. Their own block holds slices alone: so no number lies in it, and what is appended changes no vector. -/
namespace Go.Proofs.YtdedolkgcdlmeaaGreatDoor
open Go.RowKit Limbs

/-- That block holds slices alone. -/
def AllSl (W : World) (row : Option Nat) : Prop := ∀ g, row = some g → ∃ cur t fz, W.heap[g]? = some (.cells cur t fz) ∧ ∀ u, u ∈ cur.toList → ∃ o l c, u = .slice o l c

theorem allSl_none (W : World) : AllSl W none := fun _ h => by cases h

theorem AllSl.cell {W : World} {g : Nat} (h : AllSl W (some g)) {k : Nat} {u : Value} (hc : W.cell? ⟨g, k, none⟩ = some u) : ∃ o l c, u = .slice o l c := by
  obtain ⟨cur, t, fz, hh, hs⟩ := h g rfl
  rw [cell_of_row W g k cur t fz hh] at hc
  refine hs u ?_
  obtain ⟨hk, e⟩ := Array.getElem?_eq_some_iff.1 hc
  rw [← e]
  exact Array.getElem_mem_toList hk

theorem AllSl.later {W W' : World} {row : Option Nat} (h : AllSl W row) (hb : Below W.heap.size W W') : AllSl W' row := fun g hg => by
  obtain ⟨cur, t, fz, hh, hs⟩ := h g hg
  exact ⟨cur, t, fz, (hb.block _ (heap_lt hh)).trans hh, hs⟩

theorem Lim.grownS {W W' : World} {row : Option Nat} {s : Value} {zs : List Int} (h : Lim W s zs) (hg : W.grownBy W' row) (hr : AllSl W row) : Lim W' s zs := by
  obtain ⟨ao, cap, rfl, h1, h2, h3, h4⟩ := h
  refine ⟨ao, cap, rfl, h1, h2, h3, fun h0 => ?_⟩
  obtain ⟨b, off, e, hlt, hc⟩ := h4 h0
  have hne : some b ≠ row := fun e' => by
    subst e'
    obtain ⟨o, l, c, e⟩ := hr.cell (hc 0 h0)
    cases e
  exact ⟨b, off, e, Nat.lt_of_lt_of_le hlt hg.size, fun i hi => hg.cell (hc i hi) hne⟩

theorem NumL.grownS {W W' : World} {row : Option Nat} {v : Value} {z : Int} {n : Nat} (h : NumL W v z n) (hg : W.grownBy W' row) (hr : AllSl W row) : NumL W' v z n := by
  obtain ⟨neg, s, zs, h1, h2, h3⟩ := h
  exact ⟨neg, s, zs, h1, h2.grownS hg hr, h3⟩

theorem VecN.grownS {W W' : World} {row : Option Nat} {v : Value} {zs : List Int} {n : Nat} (h : VecN W v zs n) (hg : W.grownBy W' row) (hr : AllSl W row) : VecN W' v zs n := by
  obtain ⟨ao, cap, hv, h1, h2⟩ := h
  refine ⟨ao, cap, hv, h1, fun h0 => ?_⟩
  obtain ⟨b, off, e, hlt, hc⟩ := h2 h0
  have hne : some b ≠ row := fun e' => by
    subst e'
    obtain ⟨neg, _, _, _, h3, -⟩ := hc 0 h0
    obtain ⟨o, l, c, e⟩ := hr.cell h3
    cases e
  refine ⟨b, off, e, Nat.lt_of_lt_of_le hlt hg.size, fun i hi => ?_⟩
  obtain ⟨neg, o, l, c, h3, h4, h5⟩ := hc i hi
  exact ⟨neg, o, l, c, hg.cell h3 hne, hg.cell h4 hne, h5.grownS hg hr⟩

theorem zero_sl (n : Nat) : ∀ u, u ∈ (Builtin.zeroCells (Value.cells (.slice none 0 0)) n).toList → ∃ o l c, u = .slice o l c := fun u hu => by
  simp only [Builtin.zeroCells, Array.toList_map, List.mem_map] at hu
  obtain ⟨i, -, rfl⟩ := hu
  exact ⟨none, 0, 0, by
    have : i % (Value.cells (.slice none 0 0)).size = 0 := by simp [Value.cells, Nat.mod_one]
    rw [this]; rfl⟩

/-- Rows of vectors that grow. -/
structure GrowV (W : World) (base : Nat) (v : Value) (qs : List (Value × List Int)) (n : Nat) : Prop where
  own : W.ownsRow base 72 1 v qs.length (qs.map (·.1))
  all : AllSl W v.ownBlock
  vec : ∀ q ∈ qs, VecN W q.1 q.2 n

theorem GrowV.nil (W : World) (base n : Nat) : GrowV W base (.slice none 0 0) [] n := ⟨World.ownsRow_nil _ _ _ _, allSl_none _, fun _ h => by cases h⟩

theorem GrowV.later {W W' : World} {base : Nat} {v : Value} {qs : List (Value × List Int)} {n : Nat} (h : GrowV W base v qs n) (hb : Below W.heap.size W W') : GrowV W' base v qs n :=
  ⟨ownsRow_later h.own hb, h.all.later hb, fun p hp => (h.vec p hp).below hb (Nat.le_refl _)⟩

theorem GrowV.mono {W : World} {base : Nat} {v : Value} {qs : List (Value × List Int)} {n m : Nat} (h : GrowV W base v qs n) (hm : n ≤ m) : GrowV W base v qs m :=
  ⟨h.own, h.all, fun p hp => (h.vec p hp).mono hm⟩

theorem GrowV.mat {W : World} {base : Nat} {v : Value} {qs : List (Value × List Int)} {n : Nat} (h : GrowV W base v qs n) : MatN W v (qs.map (·.2)) n := matN_of_owns h.own h.vec

end Go.Proofs.YtdedolkgcdlmeaaGreatDoor

/- The reference: rows of its own become rows of vectors. -/
namespace Go.Proofs.YtdedolkgcdlmeaaGreatDoor
open Go.RowKit Limbs Digs

end Go.Proofs.YtdedolkgcdlmeaaGreatDoor

/- The reference: what is wrong with a vector. -/
namespace Go.Proofs.YtdedolkgcdlmeaaGreatDoor
open Go.RowKit Limbs Digs

def faultV (rs : List Raw) : Int := if rs.length < 1 ∨ 8 < rs.length then 6 else faulty (rs.all Raw.num)

set_option maxRecDepth 100000 in
set_option maxHeartbeats 1600000 in
theorem vecFault_any (w : World) (v : Value) (rs : List Raw) (hv : VecL w v rs) (hmx : rs.length ≤ 1000000) :
    Calls Tryz.prog 40 #[v] w fun e w' => e = .returned (.int .i64 (faultV rs)) ∧ Below w.heap.size w w' := by
  have HV := hide hv
  obtain ⟨ao, cap, rfl, -, hc⟩ := hv
  by_cases h1 : rs.length < 1
  · have e : faultV rs = 6 := if_pos (.inl h1)
    rw [e]
    have hl : (rs.length : Int) < 1 := by omega
    have hld : decide ((rs.length : Int) < 1) = true := decide_eq_true hl
    clear hc e
    go_enter Tryz.func40, Tryz.ntmps40
    go_wp2
    go_ret
    exact ⟨rfl, Below.refl _ _⟩
  · have hl : ¬ ((rs.length : Int) < 1) := by omega
    have hld : decide ((rs.length : Int) < 1) = false := decide_eq_false hl
    by_cases h2 : 8 < rs.length
    · have e : faultV rs = 6 := if_pos (.inr h2)
      rw [e]
      have hl2 : (8 : Int) < (rs.length : Int) := by omega
      have hld2 : decide ((8 : Int) < (rs.length : Int)) = true := decide_eq_true hl2
      clear hc e
      go_enter Tryz.func40, Tryz.ntmps40
      go_wp2
      go_ret
      exact ⟨rfl, Below.refl _ _⟩
    · have e : faultV rs = faulty (rs.all Raw.num) := if_neg (by omega)
      rw [e]
      have hl2 : ¬ ((8 : Int) < (rs.length : Int)) := by omega
      have hld2 : decide ((8 : Int) < (rs.length : Int)) = false := decide_eq_false hl2
      obtain ⟨b, off, rfl, hlt, -⟩ := hc (by omega)
      clear e
      generalize hall : rs.all Raw.num = al
      have HALL : Hid (rs.all Raw.num = al) := hall
      clear hall
      go_enter Tryz.func40, Tryz.ntmps40
      go_wp2
      go_loopw [3] (fun i wr => ∃ k : Nat, k ≤ rs.length ∧ i = .int .i64 k ∧ Hid ((rs.take k).all Raw.num = true) ∧ Below w.heap.size w wr) (fun i _ => rs.length - (intOf i).toNat)
      case atStart => exact ⟨0, Nat.zero_le _, rfl, by show _ = _; simp, Below.refl _ _⟩
      case round =>
        obtain ⟨k, hk, rfl, HG, hbe⟩ := hrel
        by_cases hkl : k < rs.length
        · obtain ⟨_, _, e, -, hc⟩ := HV.out.below hbe (Nat.le_refl _)
          simp only [Value.slice.injEq, true_and] at e
          obtain ⟨rfl, rfl⟩ := e
          obtain ⟨_, _, e, hb2, hc⟩ := hc (by omega)
          simp only [Option.some.injEq, Addr.mk.injEq, and_true] at e
          obtain ⟨rfl, rfl⟩ := e
          obtain ⟨c0, c1, hL⟩ := hc k rs[k] (by simp [hkl])
          clear hc
          have HT : Hid ((rs.take (k + 1)).all Raw.num = rs[k].num) := by
            show _ = _
            rw [List.take_succ_eq_append_getElem hkl, List.all_append, HG.out]; simp
          have HE : Hid (rs[k].num = false → al = false) := fun h => by
            rw [← HALL.out, List.all_eq_false]; exact ⟨rs[k], List.getElem_mem hkl, by simp [h]⟩
          generalize rs[k] = r at *
          obtain ⟨rn, rsl, rz⟩ := r
          have HL := hide hL
          have HBE := hide hbe
          obtain ⟨ro, rcap, e, -⟩ := hL
          simp only at e c0 c1
          subst e
          clear hbe
          go_wp2_with fail
          refine (intFault_any _ _ _ _ HL.out).mono ?_
          rintro e w1 ⟨rfl, hb1⟩
          have HB1 := hide (HBE.out.trans (hb1.mono HBE.out.size))
          clear hb1
          cases hn : isNum rn rz
          · obtain rfl := HE.out hn
            have e : faulty false = 3 := rfl
            rw [e]
            clear HT HE e
            go_wp2
            go_ret
            exact ⟨rfl, HB1.out⟩
          · have e : faulty true = 0 := rfl
            rw [e]
            have HG' := hide (HT.out.trans hn)
            clear HT HE HG e
            go_wp2
            go_roundw
            case rel => exact ⟨k + 1, by omega, by go_num, HG', HB1.out⟩
            case measure => simp [intOf]; omega
        · obtain rfl : k = rs.length := by omega
          obtain rfl : al = true := by have := HG.out; rw [List.take_length, HALL.out] at this; exact this
          have HBE := hide hbe
          clear hbe HG HALL
          go_wp2
          go_ret
          exact ⟨rfl, HBE.out⟩

end Go.Proofs.YtdedolkgcdlmeaaGreatDoor
