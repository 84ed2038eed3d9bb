/- Rows of whole numbers that grow (the reference's choices). -/
import Derived.Test.YtdedolkgcdlmeaaGreatDoorRowO
import Derived.Test.YtdedolkgcdlmeaaGreatDoorSmX
import Derived.Laws.BitsLemmas
import Derived.Test.YtdedolkgcdlmeaaGreatDoorOpenV
import Derived.Test.YtdedolkgcdlmeaaGreatDoorSmT
import Derived.Test.YtdedolkgcdlmeaaGreatDoorGKA

namespace Go.Proofs.YtdedolkgcdlmeaaGreatDoor
open Go.RowKit Limbs Digs

theorem Tryz.infoInts : (Tryz.prog.info? 38).map (fun i => (i.zero, i.size, i.bytes)) = some (some (.slice none 0 0), 1, 24) := by kernel_rfl

def RowC (W : World) (v : Value) (l : List Nat) : Prop :=
 ∃ ao cap, v = .slice ao l.length cap ∧ (0 < l.length → ∃ b cur fz, ao = some ⟨b, 0, none⟩ ∧ W.heap[b]? = some (.cells cur 3 fz) ∧ ∀ j, j < l.length → W.cell? ⟨b, j, none⟩ = some (.int .i64 ((l.getD j 0 : Nat) : Int)))

theorem RowC.below {B : Nat} {W W' : World} {v : Value} {l : List Nat} (h : RowC W v l) (hb : Below B W W') (hB : W.heap.size ≤ B) : RowC W' v l := by
 obtain ⟨ao, cap, hv, h2⟩ := h
 refine ⟨ao, cap, hv, fun h0 => ?_⟩
 obtain ⟨b, cur, fz, e, hh, hc⟩ := h2 h0
 have hlt := heap_lt hh
 exact ⟨b, cur, fz, e, (hb.block _ (by omega)).trans hh, fun j hj => (hb.cell (p := ⟨b, j, none⟩) (by show b < B; omega)).trans (hc j hj)⟩

theorem RowC.grown {W W' : World} {row : Option Nat} {v : Value} {l : List Nat} (h : RowC W v l) (hg : W.grownBy W' row) (hr : Typed W row [3]) : RowC W' v l := by
 obtain ⟨ao, cap, hv, h2⟩ := h
 refine ⟨ao, cap, hv, fun h0 => ?_⟩
 obtain ⟨b, cur, fz, e, hh, hc⟩ := h2 h0
 have hne : some b ≠ row := fun e => by
  obtain ⟨cur', t, fz', h5, h6⟩ := hr b e.symm
  rw [hh] at h5
  simp only [Option.some.injEq, Obj.cells.injEq] at h5
  exact h6 (by rw [← h5.2.1]; exact List.mem_singleton.2 rfl)
 exact ⟨b, cur, fz, e, (hg.block b (heap_lt hh) hne).trans hh, fun j hj => hg.cell (hc j hj) hne⟩

def GrowC (W : World) (base : Nat) (v : Value) (l : List Nat) : Prop := W.ownsRow base 3 1 v l.length (l.map fun a => Value.int .i64 ((a : Nat) : Int))

theorem GrowC.row {W : World} {base : Nat} {v : Value} {l : List Nat} (h : GrowC W base v l) : RowC W v l := by
 obtain ⟨-, h1⟩ := h
 rcases h1 with ⟨rfl, hn⟩ | ⟨g, cap, cur, rfl, hb, hh, hc1, hc2, hc3, hc4⟩
 ·exact ⟨none, 0, by rw [hn], fun h0 => absurd h0 (by omega)⟩
 ·refine ⟨_, cap, rfl, fun h0 => ⟨g, cur, _, rfl, hh, fun j hj => ?_⟩⟩
  have e1 : (l.map fun a => Value.int .i64 ((a : Nat) : Int))[j]? = some (.int .i64 ((l.getD j 0 : Nat) : Int)) := by
   rw [List.getElem?_map, List.getElem?_eq_getElem hj, List.getD_eq_getElem?_getD, List.getElem?_eq_getElem hj]; rfl
  have := World.news_of_block hh j _ (by rw [← hc4, List.getElem?_take, if_pos (by omega)] at e1; exact e1)
  have e : (⟨g, 0, none⟩ : Addr).add j = ⟨g, j, none⟩ := by unfold Addr.add; split <;> simp_all
  rwa [e] at this

def MatC2 (W : World) (v : Value) (ls : List (List Nat)) : Prop :=
 ∃ ao cap, v = .slice ao ls.length cap ∧ (0 < ls.length → ∃ b, ao = some ⟨b, 0, none⟩ ∧ b < W.heap.size ∧ ∀ i l, ls[i]? = some l → ∃ u, W.cell? ⟨b, i, none⟩ = some u ∧ RowC W u l)

theorem MatC2.below {B : Nat} {w w' : World} {v : Value} {ls : List (List Nat)} (h : MatC2 w v ls) (hb : Below B w w') (hB : w.heap.size ≤ B) : MatC2 w' v ls := by
 obtain ⟨ao, cap, hv, h2⟩ := h
 refine ⟨ao, cap, hv, fun h0 => ?_⟩
 obtain ⟨b, e, hlt, hc⟩ := h2 h0
 refine ⟨b, e, Nat.lt_of_lt_of_le hlt hb.size, fun i zs hi => ?_⟩
 obtain ⟨u, h3, h4⟩ := hc i zs hi
 exact ⟨u, (hb.cell (p := ⟨b, i, none⟩) (Nat.lt_of_lt_of_le hlt hB)).trans h3, h4.below hb hB⟩

def GrowL (W : World) (base : Nat) (v : Value) (qs : List (Value × List Nat)) : Prop :=
 W.ownsRow base 38 1 v qs.length (qs.map (·.1)) ∧ ∀ q ∈ qs, RowC W q.1 q.2

theorem GrowL.later {W W' : World} {base : Nat} {v : Value} {qs : List (Value × List Nat)} (h : GrowL W base v qs) (hb : Below W.heap.size W W') : GrowL W' base v qs :=
 ⟨ownsRow_later h.1 hb, fun p hp => (h.2 p hp).below hb (Nat.le_refl _)⟩

theorem growL_snoc {base : Nat} {wr w3 : World} {v : Value} {qs : List (Value × List Nat)} {u : Value} {zs : List Nat} {g cap : Nat} {ob : Obj} (h : GrowL wr base v qs) (hz : RowC wr u zs)
  (hown : w3.ownsRow base 38 1 (.slice (some ⟨g, 0, none⟩) (qs.length + 1) cap) (qs.length + 1) (qs.map (·.1) ++ [u]))
  (hg : (wr.alloc ob).grownBy w3 v.ownBlock) : GrowL w3 base (.slice (some ⟨g, 0, none⟩) (qs.length + 1) cap) (qs ++ [(u, zs)]) := by
 have hty : Typed (wr.alloc ob) v.ownBlock [3] := (ownsRow_typed h.1 (by decide)).alloc ob
 refine ⟨by rw [List.length_append, List.length_singleton, List.map_append]; exact hown, fun p hp => ?_⟩
 rcases List.mem_append.1 hp with h' | h'
 ·exact ((h.2 p h').below ((Below.refl _ _).alloc (Nat.le_refl _) ob) (Nat.le_refl _)).grown hg hty
 ·rw [List.mem_singleton] at h'
  rw [h']
  exact (hz.below ((Below.refl _ _).alloc (Nat.le_refl _) ob) (Nat.le_refl _)).grown hg hty

theorem GrowL.mat {W : World} {base : Nat} {v : Value} {qs : List (Value × List Nat)} (h : GrowL W base v qs) : MatC2 W v (qs.map (·.2)) := by
 obtain ⟨⟨-, h1⟩, h2⟩ := h
 have hlen : (qs.map (·.2)).length = qs.length := List.length_map ..
 rcases h1 with ⟨rfl, hn⟩ | ⟨g, cap, cur, rfl, hb, hh, hc1, hc2, hc3, hc4⟩
 ·exact ⟨none, 0, by rw [hlen, hn], fun h0 => absurd h0 (by rw [hlen]; omega)⟩
 ·refine ⟨_, cap, by rw [hlen], fun h0 => ⟨g, rfl, heap_lt hh, fun i zs hi => ?_⟩⟩
  obtain ⟨hi', e⟩ := List.getElem?_eq_some_iff.1 hi
  rw [hlen] at hi'
  have e' : zs = qs[i].2 := by rw [← e, List.getElem_map]
  have := World.news_of_block hh i qs[i].1 (by
   have e : (qs.map (·.1))[i]? = some qs[i].1 := by rw [List.getElem?_map, List.getElem?_eq_getElem hi']; rfl
   rw [← hc4, List.getElem?_take, if_pos (by omega)] at e
   exact e)
  have ea : (⟨g, 0, none⟩ : Addr).add i = ⟨g, i, none⟩ := by unfold Addr.add; split <;> simp_all
  rw [ea] at this
  exact ⟨qs[i].1, this, by rw [e']; exact h2 _ (List.getElem_mem hi')⟩

end Go.Proofs.YtdedolkgcdlmeaaGreatDoor

/- The reference's choose, walked. -/
namespace Go.Proofs.YtdedolkgcdlmeaaGreatDoor
open Go.RowKit Limbs Digs

def choTo (k m b : Nat) : List (List Nat) := ((List.range b).map (bitsL m)).filter fun l => l.length == k

theorem choTo_succ (k m b : Nat) : choTo k m (b + 1) = choTo k m b ++ if (bitsL m b).length = k then [bitsL m b] else [] := by
 unfold choTo
 rw [List.range_succ, List.map_append, List.filter_append]
 congr 1
 rw [List.map_singleton, List.filter_cons, List.filter_nil]
 by_cases h : (bitsL m b).length = k
 ·rw [if_pos h, if_pos (by rw [h]; exact beq_self_eq_true k)]
 ·rw [if_neg h, if_neg (by rw [beq_eq_false_iff_ne.2 h]; decide)]

def bitsTo (i b : Nat) : List Nat := (List.range i).filter fun i => b / 2 ^ i % 2 == 1

theorem bitsTo_succ (i b : Nat) : bitsTo (i + 1) b = bitsTo i b ++ if b / 2 ^ i % 2 = 1 then [i] else [] := by
 unfold bitsTo
 rw [List.range_succ, List.filter_append]
 congr 1
 rw [List.filter_cons, List.filter_nil]
 by_cases h : b / 2 ^ i % 2 = 1
 ·rw [if_pos h, if_pos (by rw [h]; rfl)]
 ·rw [if_neg h, if_neg (by rw [beq_eq_false_iff_ne.2 h]; decide)]

theorem bitsTo_len (i b : Nat) : (bitsTo i b).length ≤ i := by
 unfold bitsTo
 exact Nat.le_trans (List.length_filter_le ..) (by rw [List.length_range]; exact Nat.le_refl i)

theorem choTo_len (k m b : Nat) : (choTo k m b).length ≤ b := by
 unfold choTo
 exact Nat.le_trans (List.length_filter_le ..) (by rw [List.length_map, List.length_range]; exact Nat.le_refl b)

theorem andOne (q : Nat) : bits .and .i64 (q : Int) 1 = ((q % 2 : Nat) : Int) := by
 have h : (BitVec.ofInt 64 1).toNat = 2 ^ 1 - 1 := by decide
 have key : (BitVec.ofInt 64 (q : Int) &&& BitVec.ofInt 64 1).toNat = ((q : Int) % ((2 ^ 64 : Nat) : Int)).toNat % 2 ^ 1 := by
  rw [BitVec.toNat_and, BitVec.toNat_ofInt, h, Nat.and_two_pow_sub_one_eq_mod]
 show IntKind.i64.wrap ((BitVec.ofInt 64 (q : Int) &&& BitVec.ofInt 64 1).toNat : Nat) = _
 rw [key, IntKind.wrap_i64]
 omega

set_option linter.unusedSimpArgs false in
set_option maxRecDepth 100000 in
set_option maxHeartbeats 3200000 in
theorem choose_any (w : World) (k m : Nat) (hk : k ≤ 4) (hm : m ≤ 4) :
  Calls Tryz.prog 68 #[.int .i64 (k : Int), .int .i64 (m : Int)] w fun e w' => ∃ u, e = .returned u ∧ MatC2 w' u (chooseL k m) ∧ Below w.heap.size w w' := by
 obtain ⟨i0, hi, hz0, hz1, hz2⟩ := info_parts Tryz.infoInt
 obtain ⟨j0, hj, hy0, hy1, hy2⟩ := info_parts Tryz.infoInts
 obtain ⟨p, hp⟩ : ∃ p : Nat, 2 ^ m = p := ⟨_, rfl⟩
 have hp16 : p ≤ 16 := by rw [← hp]; exact Nat.le_trans (Nat.pow_le_pow_right (by decide) hm) (by decide)
 have HP := hide hp
 have hsh : wrap64 ((2 : Int) ^ m) = (p : Int) := by
  have e : ((2 : Int) ^ m) = ((2 ^ m : Nat) : Int) := by rw [Int.natCast_pow]; rfl
  rw [e, hp]
  unfold wrap64
  omega
 clear hp
 go_enter Tryz.func68, Tryz.ntmps68
 go_wp2
 go_loopw [5, 6] (fun out x wr => ∃ (b : Nat) (qs : List (Value × List Nat)), b ≤ p ∧ x = .int .i64 b ∧ Hid (GrowL wr w.heap.size out qs) ∧ Hid (qs.map (·.2) = choTo k m b) ∧ Hid (Below w.heap.size w wr)) (fun _ x _ => p - (intOf x).toNat)
 case atStart => exact ⟨0, [], Nat.zero_le _, rfl, hide ⟨World.ownsRow_nil _ _ _ _, fun _ h => by cases h⟩, hide rfl, hide (Below.refl _ _)⟩
 case round =>
  obtain ⟨b, qs, hb, rfl, HG, HQ, HBW⟩ := hrel
  by_cases hbp : b < p
  ·generalize wr = wo at *
   go_wp2
   rw [hsh]
   go_loopw [7, 8] (fun l x wr => ∃ (i : Nat), i ≤ m ∧ x = .int .i64 i ∧ Hid (GrowC wr wo.heap.size l (bitsTo i b)) ∧ Hid (Below wo.heap.size wo wr)) (fun _ x _ => m - (intOf x).toNat)
   case atStart => exact ⟨0, Nat.zero_le _, rfl, hide (World.ownsRow_nil _ _ _ _), hide (Below.refl _ _)⟩
   case round =>
    obtain ⟨i, him, rfl, HC, HBI⟩ := hrel
    by_cases hil : i < m
    ·obtain ⟨q, hq⟩ : ∃ q : Nat, b / 2 ^ i = q := ⟨_, rfl⟩
     have hsr : (b : Int) / 2 ^ i = (q : Int) := by
      rw [← hq, Int.natCast_ediv, Int.natCast_pow]; rfl
     have han := andOne q
     have HBS := hide (bitsTo_succ i b)
     rw [hq] at HBS
     have hlen := bitsTo_len i b
     have HQ2 := hide hq
     clear hq
     by_cases hbit : q % 2 = 1
     ·rw [if_pos hbit] at HBS
      have g1 : (((q % 2 : Nat) : Int) == 1) = true := by rw [beq_iff_eq]; omega
      have hown := HC.out
      have hbs := HBI.out.size
      unfold GrowC at hown
      go_wp2_with (at_builtin; refine wpList_append_lies _ rfl _ _ 38 rfl wo.heap.size 3 i0 (.int .i64 0) 1 8 (by kernel_rfl) hi hz0 hz1 hz2 rfl (by decide) u7 (bitsTo i b).length ((bitsTo i b).map fun a => Value.int .i64 ((a : Nat) : Int)) rfl (hown.alloc _) ⟨wr.heap.size, 0, none⟩ 1 1 [.int .i64 (i : Int)] rfl rfl (World.news_of_block (heap_alloc_new wr _)) (fun u hu => by rw [List.mem_singleton] at hu; subst hu; rfl) (by decide) (by unfold maxLen; omega) (by omega) (by simp; omega) (wr.heap.size + 1) (by simp) ?_)
      intro g cap' w5 hown5 hgrow5 hat5 hlt5
      have HN : Hid (GrowC w5 wo.heap.size (.slice (some ⟨g, 0, none⟩) ((bitsTo i b).length + 1) cap') (bitsTo (i + 1) b)) := by
       show GrowC _ _ _ _
       unfold GrowC
       rw [HBS.out, List.length_append, List.length_singleton, List.map_append]
       exact hown5
      have HB5 := hide (HBI.out.trans (owns_below HC.out HBI.out.size hgrow5))
      clear hown hown5 hgrow5 hat5 hlt5 HC HBI HBS g1 han hsr
      go_wp2
      go_roundw
      case rel => exact ⟨i + 1, by omega, by go_num, HN, HB5⟩
      case measure => simp [intOf]; omega
     ·rw [if_neg hbit, List.append_nil] at HBS
      have g1 : (((q % 2 : Nat) : Int) == 1) = false := by rw [beq_eq_false_iff_ne]; omega
      have HN : Hid (GrowC wr wo.heap.size u7 (bitsTo (i + 1) b)) := by
       show GrowC _ _ _ _
       rw [HBS.out]; exact HC.out
      clear HC HBS
      go_wp2
      go_roundw
      case rel => exact ⟨i + 1, by omega, by go_num, HN, HBI⟩
      case measure => simp [intOf]; omega
    ·obtain rfl : i = m := by omega
     have HRC : Hid (RowC wr u7 (bitsL i b)) := HC.out.row
     have HCS := hide (choTo_succ k i b)
     have HGX := hide (HG.out.later HBI.out)
     have HBX := hide (HBW.out.trans (HBI.out.mono HBW.out.size))
     have HQL : Hid (qs.length ≤ 16) := by
      have h := congrArg List.length HQ.out
      rw [List.length_map] at h
      have := choTo_len k i b
      show _ ≤ _
      omega
     obtain ⟨so, sc, e, -⟩ := id HRC.out
     subst e
     have hll : (bitsL i b).length ≤ 4 := Nat.le_trans (bitsTo_len i b) hm
     generalize hL : bitsL i b = bl at *
     by_cases hlk : bl.length = k
     ·rw [if_pos hlk] at HCS
      subst hlk
      have hown := HGX.out.1
      have hbs := HBX.out.size
      go_wp2_with (at_builtin; refine wpList_append_lies _ rfl _ _ 51 rfl w.heap.size 38 j0 (.slice none 0 0) 1 24 (by kernel_rfl) hj hy0 hy1 hy2 rfl (by decide) u5 qs.length (qs.map (·.1)) rfl (hown.alloc _) ⟨wr.heap.size, 0, none⟩ 1 1 [.slice so bl.length sc] rfl rfl (World.news_of_block (heap_alloc_new wr _)) (fun u hu => by rw [List.mem_singleton] at hu; subst hu; rfl) (by decide) (by unfold maxLen; have := HQL.out; omega) (by have := HQL.out; omega) (by simp; omega) (wr.heap.size + 1) (by simp) ?_)
      intro g cap' w5 hown5 hgrow5 hat5 hlt5
      have HN := hide (growL_snoc HGX.out HRC.out hown5 hgrow5)
      have HB5 := hide (HBX.out.trans (owns_below hown HBX.out.size hgrow5))
      have HQ5 : Hid ((qs ++ [(Value.slice so bl.length sc, bl)]).map (·.2) = choTo bl.length i (b + 1)) := by
       show _ = _
       rw [List.map_append, HQ.out, HCS.out]; rfl
      clear hown hown5 hgrow5 hat5 hlt5 HGX HRC HBX HQ HCS HC
      go_wp2
      go_roundw
      case rel => exact ⟨b + 1, _, by omega, by go_num, HN, HQ5, HB5⟩
      case measure => simp [intOf]; omega
     ·rw [if_neg hlk, List.append_nil] at HCS
      have g1 : ((bl.length : Int) == (k : Int)) = false := by rw [beq_eq_false_iff_ne]; omega
      have HQ5 : Hid (qs.map (·.2) = choTo k i (b + 1)) := by
       show _ = _
       rw [HQ.out, HCS.out]
      clear HQ HCS HRC
      go_wp2
      go_roundw
      case rel => exact ⟨b + 1, _, by omega, by go_num, HGX, HQ5, HBX⟩
      case measure => simp [intOf]; omega
  ·obtain rfl : b = p := by omega
   have HM : Hid (MatC2 wr u5 (chooseL k m)) := by
    have h := HG.out.mat
    rw [HQ.out, ← HP.out] at h
    exact h
   go_wp2
   go_ret
   exact ⟨_, rfl, HM.out, HBW.out⟩

end Go.Proofs.YtdedolkgcdlmeaaGreatDoor

/- What goes into all of some numbers; what the reference's invariants are; a call ahead of a call in a region that draws its order. -/
namespace Go.Proofs.YtdedolkgcdlmeaaGreatDoor
open Go.RowKit Limbs Digs

structure GcdOf (l : List Int) (g : Int) : Prop where
 pos : 0 ≤ g
 into : ∀ y ∈ l, g ∣ y
 great : ∀ x, (∀ y ∈ l, x ∣ y) → x ∣ g

theorem GcdOf.nil : GcdOf [] 0 := ⟨Int.le_refl 0, fun _ h => (by cases h), fun x _ => Int.dvd_zero x⟩

theorem GcdOf.snoc {l : List Int} {g d k x y : Int} (h : GcdOf l g) (h0 : 0 ≤ k) (e : k = x * g + y * d) (h1 : k ∣ g) (h2 : k ∣ d) : GcdOf (l ++ [d]) k where
 pos := h0
 into := fun z hz => by
  rcases List.mem_append.1 hz with hz | hz
  ·exact Int.dvd_trans h1 (h.into z hz)
  ·rw [List.mem_singleton.1 hz]; exact h2
 great := fun q hq => by
  obtain ⟨a, ha⟩ := h.great q fun z hz => hq z (List.mem_append_left _ hz)
  obtain ⟨b, hb⟩ := hq d (List.mem_append_right _ (List.mem_singleton.2 rfl))
  exact ⟨x * a + y * b, by rw [e, ha, hb, Int.mul_add]; congr 1 <;> ac_rfl⟩

def detsTo (ms : List (List Int)) (k : Nat) (rows cols : List (List Nat)) (i j : Nat) : List Int :=
 (rows.take i).flatMap (fun r => cols.map fun c => det k (ent (subL ms k r c))) ++ (cols.take j).map fun c => det k (ent (subL ms k (rows.getD i []) c))

theorem detsTo_step (ms : List (List Int)) (k : Nat) (rows cols : List (List Nat)) (i j : Nat) (hj : j < cols.length) : detsTo ms k rows cols i (j + 1) = detsTo ms k rows cols i j ++ [det k (ent (subL ms k (rows.getD i []) (cols.getD j [])))] := by
 unfold detsTo
 rw [List.take_succ_eq_append_getElem hj, List.map_append, ← List.append_assoc, getD_eq hj]
 rfl
where
 getD_eq {l : List (List Nat)} {j : Nat} (h : j < l.length) : l.getD j [] = l[j] := by rw [List.getD_eq_getElem?_getD, List.getElem?_eq_getElem h]; rfl

theorem detsTo_next (ms : List (List Int)) (k : Nat) (rows cols : List (List Nat)) (i : Nat) (hi : i < rows.length) : detsTo ms k rows cols (i + 1) 0 = detsTo ms k rows cols i cols.length := by
 unfold detsTo
 rw [List.take_succ_eq_append_getElem hi, List.flatMap_append, List.take_zero, List.map_nil, List.append_nil, List.take_length]
 congr 1
 have e : rows.getD i [] = rows[i] := by rw [List.getD_eq_getElem?_getD, List.getElem?_eq_getElem hi]; rfl
 rw [e, List.flatMap_singleton]

theorem gcd_dv {ms : List (List Int)} {k m n : Nat} {g : Int} (hm : m < 5) (hn : n < 5) (hk : k < 5) (h : GcdOf (detsTo ms k (chooseL k m) (chooseL k n) (chooseL k m).length 0) g) (x : Int) : x ∣ g ↔ Dv k m n (ent ms) x := by
 have hmem : ∀ y, y ∈ detsTo ms k (chooseL k m) (chooseL k n) (chooseL k m).length 0 ↔ ∃ r ∈ chooseL k m, ∃ c ∈ chooseL k n, det k (ent (subL ms k r c)) = y := fun y => by
  unfold detsTo
  rw [List.take_length, List.take_zero, List.map_nil, List.append_nil, List.mem_flatMap]
  simp only [List.mem_map]
 constructor
 ·exact fun hx => dv_choose hm hn hk fun r hr c hc => Int.dvd_trans hx (h.into _ ((hmem _).2 ⟨r, hr, c, hc, rfl⟩))
 ·intro hd
  refine h.great x fun y hy => ?_
  obtain ⟨r, hr, c, hc, rfl⟩ := (hmem y).1 hy
  exact choose_dv hm hn hk hd r hr c hc

structure RefSm (ms : List (List Int)) (m n : Nat) (ds : List Int) : Prop where
 le : ds.length ≤ m ∧ ds.length ≤ n
 pos : ∀ i, i < ds.length → 0 < ds.getD i 0
 prod : ∀ k, k ≤ ds.length → ∀ x, x ∣ prodN k (fun i => ds.getD i 0) ↔ Dv k m n (ent ms) x

theorem RefSm.one {ms : List (List Int)} {m n : Nat} {ds ys : List Int} (h : RefSm ms m n ds) (hend : ds.length = m ∨ ds.length = n ∨ Dv (ds.length + 1) m n (ent ms) 0) (py : ∀ i, i < ys.length → 0 < ys.getD i 0) (cy : ∀ i j, i < j → j < ys.length → ∃ p, ys.getD j 0 = p * ys.getD i 0) (hy : ys.length ≤ m ∧ ys.length ≤ n)
  (hd : ∀ k g, Dv k m n (ent ms) g ↔ Dv k ys.length ys.length (dgM fun i => ys.getD i 0) g) : ds = ys := by
 have self : ∀ k, k ≤ ys.length → ∀ x, Dv k ys.length ys.length (dgM fun i => ys.getD i 0) x → x ∣ prodN k (fun i => ys.getD i 0) := fun k hk x hx => by
  have h1 := hx (fun i => i) (fun i => i) (fun i hi => by show i < ys.length; omega) fun i hi => by show i < ys.length; omega
  have h2 : det k (fun a b => dgM (fun i => ys.getD i 0) a b) = prodN k (fun i => ys.getD i 0) := det_dg k _
  rwa [h2] at h1
 have hl : ds.length = ys.length := by
  rcases Nat.lt_trichotomy ds.length ys.length with q | q | q
  ·exfalso
   have hz : Dv (ds.length + 1) m n (ent ms) 0 := by rcases hend with e | e | e <;> first | exact e | (exfalso; omega)
   have h1 := Int.zero_dvd.1 (self (ds.length + 1) (by omega) 0 ((hd _ _).1 hz))
   have h2 := prodN_pos (ds.length + 1) (fun i => ys.getD i 0) fun i hi => py i (by omega)
   omega
  ·exact q
  ·exfalso
   have h1 := Int.zero_dvd.1 ((h.prod (ys.length + 1) (by omega) 0).2 ((hd _ _).2 (dv_over _ _ _)))
   have h2 := prodN_pos (ys.length + 1) (fun i => ds.getD i 0) fun i hi => h.pos i (by omega)
   omega
 refine list_ext hl fun i hi => prod_same (y := fun i => ds.getD i 0) (z := fun i => ys.getD i 0) h.pos (fun k hk => ?_) i hi
 refine Int.dvd_antisymm ?_ ?_ (self k (by omega) _ ((hd k _).1 ((h.prod k hk _).1 (Int.dvd_refl _)))) ((h.prod k hk _).2 ((hd k _).2 (dv_dg cy k (by omega))))
 ·have := prodN_pos k (fun i => ds.getD i 0) fun j hj => h.pos j (by omega); omega
 ·have := prodN_pos k (fun i => ys.getD i 0) fun j hj => py j (by omega); omega

theorem RefSm.snoc {ms : List (List Int)} {m n : Nat} {ds : List Int} {g q last : Int} (h : RefSm ms m n ds) (hlast : last = prodN ds.length (fun i => ds.getD i 0)) (hk : ds.length + 1 ≤ m ∧ ds.length + 1 ≤ n) (hg0 : 0 < g) (hg : ∀ x, x ∣ g ↔ Dv (ds.length + 1) m n (ent ms) x) (hq : g = q * last) : RefSm ms m n (ds ++ [q]) ∧ g = prodN (ds ++ [q]).length (fun i => (ds ++ [q]).getD i 0) := by
 have hl : (ds ++ [q]).length = ds.length + 1 := by rw [List.length_append, List.length_singleton]
 have old : ∀ i, i < ds.length → (ds ++ [q]).getD i 0 = ds.getD i 0 := fun i hi => by
  rw [List.getD_eq_getElem?_getD, List.getElem?_append_left hi, ← List.getD_eq_getElem?_getD]
 have new : (ds ++ [q]).getD ds.length 0 = q := by
  rw [List.getD_eq_getElem?_getD, List.getElem?_append_right (Nat.le_refl _), Nat.sub_self]; rfl
 have pr : ∀ k, k ≤ ds.length → prodN k (fun i => (ds ++ [q]).getD i 0) = prodN k (fun i => ds.getD i 0) := fun k hk => prodN_congr fun i hi => old i (by omega)
 have e : prodN (ds.length + 1) (fun i => (ds ++ [q]).getD i 0) = g := by
  rw [prodN, pr _ (Nat.le_refl _), new, hq, hlast, Int.mul_comm]
 have hl1 := prodN_pos ds.length (fun i => ds.getD i 0) fun i hi => h.pos i hi
 have hq0 : 0 < q := by
  rcases Int.lt_or_le 0 q with h1 | h1
  ·exact h1
  ·have := Int.mul_nonpos_of_nonpos_of_nonneg h1 (show 0 ≤ last by omega)
   omega
 refine ⟨⟨by rw [hl]; exact hk, fun i hi => ?_, fun k hk' x => ?_⟩, by rw [hl]; exact e.symm⟩
 ·rw [hl] at hi
  by_cases hc : i < ds.length
  ·rw [old i hc]; exact h.pos i hc
  ·obtain rfl : i = ds.length := by omega
   rw [new]; exact hq0
 ·rw [hl] at hk'
  by_cases hc : k ≤ ds.length
  ·rw [pr k hc]; exact h.prod k hc x
  ·obtain rfl : k = ds.length + 1 := by omega
   rw [e]; exact hg x

theorem RefSm.nil (ms : List (List Int)) (m n : Nat) : RefSm ms m n [] := ⟨⟨Nat.zero_le _, Nat.zero_le _⟩, fun i hi => absurd hi (Nat.not_lt_zero i), fun k hk x => by
 obtain rfl : k = 0 := Nat.le_zero.1 hk
 exact ⟨fun hx f c _ _ => hx, fun hd => hd (fun _ => 0) (fun _ => 0) (fun i hi => absurd hi (Nat.not_lt_zero i)) fun i hi => absurd hi (Nat.not_lt_zero i)⟩⟩

theorem RefSm.goes {ms : List (List Int)} {m n : Nat} {ds : List Int} {g : Int} (h : RefSm ms m n ds) (hg : ∀ x, x ∣ g ↔ Dv (ds.length + 1) m n (ent ms) x) : prodN ds.length (fun i => ds.getD i 0) ∣ g := by
 rw [hg]
 have h1 := (h.prod ds.length (Nat.le_refl _) _).1 (Int.dvd_refl _)
 intro f c hf hc
 rw [det]
 refine dvd_sumN _ _ fun j hj => ?_
 obtain ⟨x, hx⟩ := h1 f (fun b => c (sk j b)) (fun i hi => hf i (by omega)) fun i hi => hc _ (by unfold sk; split <;> omega)
 rw [hx]
 exact ⟨sgnN (ds.length + j) * ent ms (f ds.length) (c j) * x, by ac_rfl⟩

namespace TR
variable {w W : World} {L : Array Bool} {c : Nat → Value} {G : Nat → Nat}

def FA3P (n : Nat) (PL : Nat → World → Value → Prop) (CALL : World → Value → Prop) (C i : Nat) (c : Nat → Value) (W : World) (G : Nat → Nat) : Prop :=
 if i < n then PL i W (c i) else F3 n CALL C (i - n) c W G

theorem FA3P.keep {n : Nat} {PL : Nat → World → Value → Prop} {CALL : World → Value → Prop} {C : Nat} (hpl : ∀ (i t : Nat) (W W' : World) (G G' : Nat → Nat) (v : Value), Moved t W G W' G' → PL i W v → PL i W' v) (hst : ∀ (t : Nat) (W W' : World) (G G' : Nat → Nat) (v : Value), Moved t W G W' G' → CALL W v → CALL W' v)
  (i j : Nat) (c : Nat → Value) (v : Value) (W W' : World) (G G' : Nat → Nat) (hne : j ≠ i) (hm : i ∉ D3 n j) (hv : Moved i W G W' G') (hf : FA3P n PL CALL C j c W G) : FA3P n PL CALL C j (upd c i v) W' G' := by
 unfold FA3P at *
 by_cases hj : j < n
 ·rw [if_pos hj] at hf ⊢
  rw [upd_ne _ _ hne]; exact hpl _ _ _ _ _ _ _ hv hf
 ·have h1 := FA3.keep (ks := []) hst i j c v W W' G G' hne hm hv (show FA3 n [] CALL C j c W G by unfold FA3; rw [if_neg hj] at hf ⊢; exact hf)
  unfold FA3 at h1
  rw [if_neg hj] at h1 ⊢
  exact h1

theorem Tags.fin3P {n : Nat} {PL : Nat → World → Value → Prop} {CALL : World → Value → Prop} (h : Tags (D3 n) (FA3P n PL CALL w.heap.size) w L c W G) (hall : ∀ i, i < n + 11 → L.getD i false = true) :
  ∃ (r1 r2 r3 : Rm) (B1 B2 B3 : Nat), CALL W (.tuple #[r1.v, r2.v, r3.v]) ∧ c (n + 5) = ptr B1 ∧ c (n + 6) = ptr B2 ∧ c (n + 7) = ptr B3 ∧
   w.heap.size ≤ B1 ∧ w.heap.size ≤ B2 ∧ w.heap.size ≤ B3 ∧ B1 < W.heap.size ∧ B2 < W.heap.size ∧ B3 < W.heap.size ∧ B1 ≠ B2 ∧ B1 ≠ B3 ∧ B2 ≠ B3 ∧
   BoxR W B1 (.int .i64 r1.s) (.slice r1.o r1.l r1.c) ∧ BoxR W B2 (.int .i64 r2.s) (.slice r2.o r2.l r2.c) ∧ BoxR W B3 (.int .i64 r3.s) (.slice r3.o r3.l r3.c) ∧ Below w.heap.size w W := by
 refine Tags.fin3 (ks := (List.range n).map c) ⟨h.below, h.high, fun i hi => ?_, h.closed⟩ hall
 have h1 := h.facts i hi
 unfold FA3P at h1
 unfold FA3
 by_cases hc : i < n
 ·rw [if_pos hc, List.getD_eq_getElem?_getD, List.getElem?_map, List.getElem?_range hc]; rfl
 ·rw [if_neg hc] at h1 ⊢; exact h1

end TR

end Go.Proofs.YtdedolkgcdlmeaaGreatDoor

/- What is made of rows, by the first row; a place left out. No Go in it. -/
namespace Go.Proofs.YtdedolkgcdlmeaaGreatDoor
open Go.RowKit Limbs

def rt (k a : Nat) : Nat := if a < k then a + 1 else if a = k then 0 else a

theorem rt_step (k a : Nat) : rt (k + 1) a = rt k (sw k (k + 1) a) := by
 unfold rt sw
 repeat' split
 all_goals omega

theorem det_rt (n : Nat) (M : Nat → Nat → Int) : ∀ k, k ≤ n → det (n + 1) (fun a b => M (rt k a) b) = sgnN k * det (n + 1) M := fun k => by
 induction k with
 | zero =>
  intro _
  rw [show sgnN 0 = 1 from rfl, Int.one_mul]
  exact det_congr fun a b _ _ => by
   have : rt 0 a = a := by unfold rt; split <;> (try split) <;> omega
   rw [this]
 | succ k ih =>
  intro hk
  have e : det (n + 1) (fun a b => M (rt (k + 1) a) b) = det (n + 1) (swapRows (fun a b => M (rt k a) b) k (k + 1)) := det_congr fun a b _ _ => by rw [swapRows_sw, rt_step]
  rw [e, det_swap (n + 1) _ k (k + 1) (by omega) (by omega), ih (by omega), sgnN_succ, Int.neg_mul]

theorem det_first (n : Nat) (M : Nat → Nat → Int) : det (n + 1) M = sumN (n + 1) (fun c => sgnN c * (M 0 c * det n (fun a b => M (a + 1) (sk c b)))) := by
 have h := det_rt n M n (Nat.le_refl n)
 have e1 : det (n + 1) (fun a b => M (rt n a) b) = sumN (n + 1) (fun c => sgnN (n + c) * (M 0 c * det n (fun a b => M (a + 1) (sk c b)))) := by
  rw [det]
  refine sumN_congr fun c hc => ?_
  have e2 : rt n n = 0 := by unfold rt; rw [if_neg (by omega), if_pos rfl]
  have e3 : det n (fun a b => M (rt n a) (sk c b)) = det n (fun a b => M (a + 1) (sk c b)) := det_congr fun a b ha _ => by
   have : rt n a = a + 1 := by unfold rt; rw [if_pos ha]
   rw [this]
  rw [e2, e3, Int.mul_assoc]
 rw [e1] at h
 have h2 : sgnN n * sumN (n + 1) (fun c => sgnN (n + c) * (M 0 c * det n (fun a b => M (a + 1) (sk c b)))) = sgnN n * (sgnN n * det (n + 1) M) := by rw [h]
 rw [← Int.mul_assoc (sgnN n) (sgnN n), sgnN_sq, Int.one_mul, ← sumN_mul] at h2
 rw [← h2]
 refine sumN_congr fun c _ => ?_
 rw [← Int.mul_assoc, sgnN_mul]
 congr 1
 unfold sgnN
 by_cases hc : c % 2 = 0
 ·rw [if_pos hc, if_pos (by omega)]
 ·rw [if_neg hc, if_neg (by omega)]

theorem erase_getD (l : List Int) (c b : Nat) : (l.eraseIdx c).getD b 0 = l.getD (sk c b) 0 := by
 rw [List.getD_eq_getElem?_getD, List.getD_eq_getElem?_getD, List.getElem?_eraseIdx]
 unfold sk
 split <;> rfl

theorem erase_take_ne (us : List Int) (c k : Nat) (hk : k < us.length) (hne : k ≠ c) : (us.take (k + 1)).eraseIdx c = (us.take k).eraseIdx c ++ [us.getD k 0] := by
 have e : us.take (k + 1) = us.take k ++ [us.getD k 0] := by
  rw [List.take_succ_eq_append_getElem hk, List.getD_eq_getElem?_getD, List.getElem?_eq_getElem hk, Option.getD_some]
 have hl : (us.take k).length = k := by rw [List.length_take]; omega
 rw [e]
 rcases Nat.lt_or_gt_of_ne hne with h | h
 ·rw [List.eraseIdx_of_length_le (by rw [List.length_append, hl, List.length_singleton]; omega), List.eraseIdx_of_length_le (by omega)]
 ·rw [List.eraseIdx_append_of_lt_length (by omega)]

theorem erase_take_at (us : List Int) (c : Nat) (hk : c < us.length) : (us.take (c + 1)).eraseIdx c = (us.take c).eraseIdx c := by
 have hl : (us.take c).length = c := by rw [List.length_take]; omega
 rw [List.take_succ_eq_append_getElem hk, List.eraseIdx_append_of_length_le (by omega), hl, Nat.sub_self, List.eraseIdx_cons_zero, List.append_nil, List.eraseIdx_of_length_le (by omega)]

def restL (ms : List (List Int)) (c : Nat) : List (List Int) := (ms.drop 1).map fun r => r.eraseIdx c

theorem restL_length (ms : List (List Int)) (c : Nat) : (restL ms c).length = ms.length - 1 := by simp [restL]

theorem restL_len {ms : List (List Int)} {c n : Nat} (hc : c < n + 1) (h : ∀ u ∈ ms, u.length = n + 1) : ∀ u ∈ restL ms c, u.length = n := fun u hu => by
 obtain ⟨r, hr, rfl⟩ := List.mem_map.1 hu
 have h1 := h r (List.mem_of_mem_drop hr)
 show (r.eraseIdx c).length = n
 rw [List.length_eraseIdx, if_pos (by omega)]
 omega

theorem restL_ent (ms : List (List Int)) (c a b : Nat) : ent (restL ms c) a b = ent ms (a + 1) (sk c b) := by
 have e : (restL ms c).getD a [] = (ms.getD (a + 1) []).eraseIdx c := by
  unfold restL
  rw [List.getD_eq_getElem?_getD, List.getElem?_map, List.getElem?_drop, Nat.add_comm 1 a, List.getD_eq_getElem?_getD]
  by_cases h : a + 1 < ms.length
  ·rw [List.getElem?_eq_getElem h]; rfl
  ·rw [List.getElem?_eq_none (by omega)]; simp
 unfold ent
 rw [e, erase_getD]

theorem restL_take (ms : List (List Int)) (c i : Nat) (hi : i + 1 < ms.length) : (restL ms c).take (i + 1) = (restL ms c).take i ++ [(ms.getD (i + 1) []).eraseIdx c] := by
 have hl : i < (restL ms c).length := by rw [restL_length]; omega
 rw [List.take_succ_eq_append_getElem hl]
 have e : (restL ms c)[i]? = some ((ms.getD (i + 1) []).eraseIdx c) := by
  unfold restL
  rw [List.getElem?_map, List.getElem?_drop, Nat.add_comm 1 i, List.getElem?_eq_getElem hi, getD_row hi]; rfl
 rw [List.getElem?_eq_getElem hl] at e
 rw [Option.some.inj e]

end Go.Proofs.YtdedolkgcdlmeaaGreatDoor

/- The reference's rows, from a place on; Behind. -/
namespace Go.Proofs.YtdedolkgcdlmeaaGreatDoor
open Go.RowKit Limbs Digs

def RowQ (W : World) (v : Value) (zs : List Int) (n : Nat) : Prop :=
 ∃ ao cap, v = .slice ao zs.length cap ∧ zs.length ≤ cap ∧ (0 < zs.length → ∃ b off cur fz, ao = some ⟨b, off, none⟩ ∧ W.heap[b]? = some (.cells cur 40 fz) ∧
  ∀ i, i < zs.length → ∃ (s : Int) (o : Option Addr) (l c : Nat), W.cell? ⟨b, off + i * 2, none⟩ = some (.int .i64 s) ∧ W.cell? ⟨b, off + i * 2 + 1, none⟩ = some (.slice o l c) ∧ NumR W (.agg #[.int .i64 s, .slice o l c]) (zs.getD i 0) n)

theorem RowQ.below {B : Nat} {W W' : World} {v : Value} {zs : List Int} {n : Nat} (h : RowQ W v zs n) (hb : Below B W W') (hB : W.heap.size ≤ B) : RowQ W' v zs n := by
 obtain ⟨ao, cap, hv, h1, h2⟩ := h
 refine ⟨ao, cap, hv, h1, fun h0 => ?_⟩
 obtain ⟨b, off, cur, fz, e, hh, hc⟩ := h2 h0
 have hlt := heap_lt hh
 refine ⟨b, off, cur, fz, e, (hb.block _ (by omega)).trans hh, fun i hi => ?_⟩
 obtain ⟨s, o, l, c, h3, h4, h5⟩ := hc i hi
 exact ⟨s, o, l, c, (hb.cell (p := ⟨b, off + i * 2, none⟩) (by show b < B; omega)).trans h3, (hb.cell (p := ⟨b, off + i * 2 + 1, none⟩) (by show b < B; omega)).trans h4, h5.below hb hB⟩

theorem RowQ.grown {W W' : World} {row : Option Nat} {v : Value} {zs : List Int} {n : Nat} (h : RowQ W v zs n) (hg : W.grownBy W' row) (hr : Typed W row [3, 40]) : RowQ W' v zs n := by
 obtain ⟨ao, cap, hv, h1, h2⟩ := h
 refine ⟨ao, cap, hv, h1, fun h0 => ?_⟩
 obtain ⟨b, off, cur, fz, e, hh, hc⟩ := h2 h0
 have hr' : Typed W row [3] := fun g hg => by
  obtain ⟨cur', t, fz', h5, h6⟩ := hr g hg
  exact ⟨cur', t, fz', h5, fun h => h6 (by rw [List.mem_singleton] at h; rw [h]; exact List.mem_cons_self)⟩
 have hne : some b ≠ row := fun e => by
  obtain ⟨cur', t, fz', h5, h6⟩ := hr b e.symm
  rw [hh] at h5
  simp only [Option.some.injEq, Obj.cells.injEq] at h5
  exact h6 (by rw [← h5.2.1]; exact List.mem_cons_of_mem _ (List.mem_singleton.2 rfl))
 refine ⟨b, off, cur, fz, e, (hg.block b (heap_lt hh) hne).trans hh, fun i hi => ?_⟩
 obtain ⟨s, o, l, c, h3, h4, h5⟩ := hc i hi
 exact ⟨s, o, l, c, hg.cell h3 hne, hg.cell h4 hne, h5.grown hg hr'⟩

theorem RowQ.at {W : World} {v : Value} {zs : List Int} {n : Nat} (h : RowQ W v zs n) (i : Nat) (hi : i < zs.length) : ∃ b off cap, v = .slice (some ⟨b, off, none⟩) zs.length cap ∧ b < W.heap.size ∧ ∃ (s : Int) (o : Option Addr) (l c : Nat), W.cell? ⟨b, off + i * 2, none⟩ = some (.int .i64 s) ∧ W.cell? ⟨b, off + i * 2 + 1, none⟩ = some (.slice o l c) ∧ NumR W (.agg #[.int .i64 s, .slice o l c]) (zs.getD i 0) n := by
 obtain ⟨ao, cap, rfl, -, h2⟩ := h
 obtain ⟨b, off, cur, fz, rfl, hh, hc⟩ := h2 (by omega)
 exact ⟨b, off, cap, rfl, heap_lt hh, hc i hi⟩

theorem RowQ.fits {w : World} {v : Value} {zs : List Int} {n m : Nat} (h : RowQ w v zs n) (hz : ∀ j, j < zs.length → -dp m < zs.getD j 0 ∧ zs.getD j 0 < dp m) : RowQ w v zs m := by
 obtain ⟨ao, cap, hv, h3, h4⟩ := h
 refine ⟨ao, cap, hv, h3, fun h0 => ?_⟩
 obtain ⟨b, off, cur, fz', e, hh, hc⟩ := h4 h0
 refine ⟨b, off, cur, fz', e, hh, fun i hi => ?_⟩
 obtain ⟨s, o, l, c', h5, h6, h7⟩ := hc i hi
 exact ⟨s, o, l, c', h5, h6, h7.fits (hz i hi).1 (hz i hi).2⟩

def MatQ (W : World) (v : Value) (zss : List (List Int)) (n : Nat) : Prop :=
 ∃ ao cap, v = .slice ao zss.length cap ∧ zss.length ≤ cap ∧ (0 < zss.length → ∃ b, ao = some ⟨b, 0, none⟩ ∧ b < W.heap.size ∧ ∀ i zs, zss[i]? = some zs → ∃ u, W.cell? ⟨b, i, none⟩ = some u ∧ RowQ W u zs n)

theorem MatQ.below {B : Nat} {w w' : World} {v : Value} {zss : List (List Int)} {n : Nat} (h : MatQ w v zss n) (hb : Below B w w') (hB : w.heap.size ≤ B) : MatQ w' v zss n := by
 obtain ⟨ao, cap, hv, h1, h2⟩ := h
 refine ⟨ao, cap, hv, h1, fun h0 => ?_⟩
 obtain ⟨b, e, hlt, hc⟩ := h2 h0
 refine ⟨b, e, Nat.lt_of_lt_of_le hlt hb.size, fun i zs hi => ?_⟩
 obtain ⟨u, h3, h4⟩ := hc i zs hi
 exact ⟨u, (hb.cell (p := ⟨b, i, none⟩) (Nat.lt_of_lt_of_le hlt hB)).trans h3, h4.below hb hB⟩

theorem MatQ.fits {w : World} {v : Value} {zss : List (List Int)} {n m : Nat} (h : MatQ w v zss n) (hz : ∀ zs ∈ zss, ∀ j, j < zs.length → -dp m < zs.getD j 0 ∧ zs.getD j 0 < dp m) : MatQ w v zss m := by
 obtain ⟨ao, cap, hv, h3, h4⟩ := h
 refine ⟨ao, cap, hv, h3, fun h0 => ?_⟩
 obtain ⟨b, e, hlt, hc⟩ := h4 h0
 refine ⟨b, e, hlt, fun i zs hi => ?_⟩
 obtain ⟨u, h5, h6⟩ := hc i zs hi
 exact ⟨u, h5, h6.fits (hz zs (List.mem_of_getElem? hi))⟩

def GrowQ (W : World) (base : Nat) (v : Value) (qs : List (Value × List Int)) (n : Nat) : Prop :=
 W.ownsRow base 106 1 v qs.length (qs.map (·.1)) ∧ ∀ q ∈ qs, RowQ W q.1 q.2 n

theorem GrowQ.later {W W' : World} {base : Nat} {v : Value} {qs : List (Value × List Int)} {n : Nat} (h : GrowQ W base v qs n) (hb : Below W.heap.size W W') : GrowQ W' base v qs n :=
 ⟨ownsRow_later h.1 hb, fun p hp => (h.2 p hp).below hb (Nat.le_refl _)⟩

theorem GrowQ.mat {W : World} {base : Nat} {v : Value} {qs : List (Value × List Int)} {n : Nat} (h : GrowQ W base v qs n) : MatQ W v (qs.map (·.2)) n := by
 obtain ⟨⟨-, h1⟩, h2⟩ := h
 have hlen : (qs.map (·.2)).length = qs.length := List.length_map ..
 rcases h1 with ⟨rfl, hn⟩ | ⟨g, cap, cur, rfl, hb, hh, hc1, hc2, hc3, hc4⟩
 ·exact ⟨none, 0, by rw [hlen, hn], by rw [hlen]; omega, fun h0 => absurd h0 (by rw [hlen]; omega)⟩
 ·refine ⟨_, cap, by rw [hlen], by rw [hlen]; exact hc1, fun h0 => ⟨g, rfl, heap_lt hh, fun i zs hi => ?_⟩⟩
  obtain ⟨hi', e⟩ := List.getElem?_eq_some_iff.1 hi
  rw [hlen] at hi'
  have e' : zs = qs[i].2 := by rw [← e, List.getElem_map]
  have := World.news_of_block hh i qs[i].1 (by
   have e : (qs.map (·.1))[i]? = some qs[i].1 := by rw [List.getElem?_map, List.getElem?_eq_getElem hi']; rfl
   rw [← hc4, List.getElem?_take, if_pos (by omega)] at e
   exact e)
  have ea : (⟨g, 0, none⟩ : Addr).add i = ⟨g, i, none⟩ := by unfold Addr.add; split <;> simp_all
  rw [ea] at this
  exact ⟨_, this, by rw [e']; exact h2 _ (List.getElem_mem hi')⟩

def noughtTo (zs : List Int) (k : Nat) : Bool := decide (∀ j, j < k → zs.getD j 0 = 0)

end Go.Proofs.YtdedolkgcdlmeaaGreatDoor

/- The reference's Kernel. -/
namespace Go.Proofs.YtdedolkgcdlmeaaGreatDoor
open Go.RowKit Limbs Digs

def KerRPost (w : World) (n a0 : Nat) (ms : List (List Int)) (e : Ending) (w' : World) : Prop :=
 ∃ u ts p, e = .returned u ∧ MatQ w' u (behindL ms.length ts) (eB (dT a0 (n + min n (ms.length + n)) + 7) (ms.length + n)) ∧ FormL (ms.length + n) ts p ∧ Alikes (ms.length + n) (InL ts) (InL (tracedL ms n)) ∧ Below w.heap.size w w'

end Go.Proofs.YtdedolkgcdlmeaaGreatDoor

/- Regions that draw their order, and make, and call: what each operation answered stands while others come up; the last one may write. -/
namespace Go.Proofs.YtdedolkgcdlmeaaGreatDoor
open Go.RowKit Limbs

structure FS (deps : Nat → List Nat) (kv : Nat → Option Value) (Sp : Nat → (Nat → Value) → World → Prop) (w : World) (L : Array Bool) (c : Nat → Value) (W : World) : Prop where
 below : Below w.heap.size w W
 plain : ∀ i v, L.getD i false = true → kv i = some v → c i = v
 spec : ∀ i, L.getD i false = true → Sp i c W
 closed : ∀ i, L.getD i false = true → ∀ j ∈ deps i, L.getD j false = true

structure Stays (deps : Nat → List Nat) (Sp : Nat → (Nat → Value) → World → Prop) : Prop where
 later : ∀ i c W W', Below W.heap.size W W' → Sp i c W → Sp i c W'
 other : ∀ i j c v W, j ≠ i → i ∉ deps j → Sp j c W → Sp j (upd c i v) W

variable {deps : Nat → List Nat} {kv : Nat → Option Value} {Sp : Nat → (Nat → Value) → World → Prop} {Fin : (Nat → Value) → World → Prop} {w W W' : World} {L : Array Bool} {c : Nat → Value}

theorem FS.start (w : World) (n : Nat) (c : Nat → Value) : FS deps kv Sp w (Array.replicate n false) c w.drew where
 below := (Below.refl _ _).drew
 plain := fun i _ h => by simp [Array.getD] at h
 spec := fun i h => by simp [Array.getD] at h
 closed := fun i h => by simp [Array.getD] at h

theorem FS.made (h : FS deps kv Sp w L c W) (hst : Stays deps Sp) {i : Nat} (hn : L.getD i true = false) (hd : ∀ j ∈ deps i, L.getD j false = true) (hb : Below W.heap.size W W') {v : Value} (hk : ∀ u, kv i = some u → v = u) (hnew : Sp i (upd c i v) W') :
  FS deps kv Sp w (L.setIfInBounds i true) (upd c i v) W' where
 below := h.below.trans (hb.mono h.below.size)
 plain := fun j u hj hu => by
  by_cases e : j = i
  ·subst e; rw [upd_self]; exact hk u hu
  ·rw [upd_ne _ _ e]; exact h.plain j u (listed_old (fun e' => e e'.symm) hj) hu
 spec := fun j hj => by
  by_cases e : j = i
  ·subst e; exact hnew
  ·have hj' := listed_old (fun e' => e e'.symm) hj
   exact hst.other _ _ _ _ _ e (fun hm => listed_not hn (h.closed j hj' i hm)) (hst.later _ _ _ _ hb (h.spec j hj'))
 closed := fun j hj k hjk => by
  by_cases ek : i = k
  ·subst ek; exact listed_new hn
  ·rw [getD_set_ne false ek]
   by_cases e : j = i
   ·subst e; exact hd k hjk
   ·exact h.closed j (listed_old (fun e' => e e'.symm) hj) k hjk

def FSx (deps : Nat → List Nat) (kv : Nat → Option Value) (Sp : Nat → (Nat → Value) → World → Prop) (Fin : (Nat → Value) → World → Prop) (w : World) (m : Nat) (L : Array Bool) (c : Nat → Value) (W : World) : Prop :=
 (L.getD m false = false ∧ FS deps kv Sp w L c W) ∨ ((∀ i, i ≤ m → L.getD i false = true) ∧ Fin c W)

theorem FSx.start (w : World) (n m : Nat) (c : Nat → Value) : FSx deps kv Sp Fin w m (Array.replicate n false) c w.drew :=
 .inl ⟨by simp [Array.getD], FS.start w n c⟩

theorem FSx.pre {m : Nat} (h : FSx deps kv Sp Fin w m L c W) {i : Nat} (hi : i ≤ m) (hn : L.getD i true = false) : L.getD m false = false ∧ FS deps kv Sp w L c W := by
 rcases h with h | ⟨h, -⟩
 ·exact h
 ·exact absurd (h i hi) (listed_not hn)

theorem FS.next {m i : Nat} (h : FS deps kv Sp w (L.setIfInBounds i true) c W) (hne : i ≠ m) (hm : L.getD m false = false) : FSx deps kv Sp Fin w m (L.setIfInBounds i true) c W :=
 .inl ⟨by rw [getD_set_ne false hne]; exact hm, h⟩

theorem FSx.last {m : Nat} (hall : ∀ j, j < m → L.getD j false = true) (hn : L.getD m true = false) (hf : Fin c W) : FSx deps kv Sp Fin w m (L.setIfInBounds m true) c W :=
 .inr ⟨fun j hj => by
  by_cases e : m = j
  ·subst e; exact listed_new hn
  ·rw [getD_set_ne false e]; exact hall j (by omega), hf⟩

theorem FSx.fin {m : Nat} (h : FSx deps kv Sp Fin w m L c W) (hall : L.getD m false = true) : Fin c W := by
 rcases h with ⟨h, -⟩ | ⟨-, h⟩
 ·rw [hall] at h; cases h
 ·exact h

end Go.Proofs.YtdedolkgcdlmeaaGreatDoor

/- A variable that lies there. -/
namespace Go.Proofs.YtdedolkgcdlmeaaGreatDoor
open Go.RowKit Limbs

def BoxL (W : World) (B : Nat) (u0 u1 : Value) : Prop := Box W B u0 u1 ∧ B < W.heap.size

theorem BoxL.later {W W' : World} {B : Nat} {u0 u1 : Value} (h : BoxL W B u0 u1) (hb : Below W.heap.size W W') : BoxL W' B u0 u1 := ⟨h.1.later hb h.2, Nat.lt_of_lt_of_le h.2 hb.size⟩

theorem BoxL.new (W : World) (u0 u1 : Value) (t : TypeId) : BoxL (W.alloc (.cells #[u0, u1] t)) W.heap.size u0 u1 := ⟨box_new W u0 u1 t _ rfl, by simp⟩

theorem below_new (W : World) (ob : Obj) : Below W.heap.size W (W.alloc ob) := (Below.refl _ _).alloc (Nat.le_refl _) _

end Go.Proofs.YtdedolkgcdlmeaaGreatDoor
