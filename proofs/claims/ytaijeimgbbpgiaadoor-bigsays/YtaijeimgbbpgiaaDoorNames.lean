/- Names, walked but for the text of an error's number. -/
import Derived.Test.YtaijeimgbbpgiaaDoorFit
import Derived.Deep.AppendLies
namespace Go.Proofs.YtaijeimgbbpgiaaDoor
open Go.RowKit Limbs

theorem Tryd.asErrno (v : Value) (w : World) : (Instr.typeAssert (.iface 23 v) 27 23 true).run Tryd.prog w = .ok (.tuple #[v, .bool true]) w := by kernel_rfl

set_option maxRecDepth 100000 in
theorem same_errno (n f : Int) (w : World) :
    Calls Tryd.prog 8 #[.iface 23 (.int .i64 n), .int .i64 f] w fun e w' => e = .returned (.bool (decide (0 < f) && n == f)) ∧ w' = w := by
  have has := Tryd.asErrno
  by_cases h1 : 0 < f
  · have e1 : decide (0 < f) = true := decide_eq_true h1
    go_enter Tryd.func8, Tryd.ntmps8
    go_wp2
    go_ret
    exact ⟨ret_bool (by simp [e1]), rfl⟩
  · have e1 : decide (0 < f) = false := decide_eq_false h1
    go_enter Tryd.func8, Tryd.ntmps8
    go_wp2
    go_ret
    exact ⟨ret_bool (by simp), rfl⟩

set_option maxRecDepth 100000 in
theorem same_nil (f : Int) (w : World) :
    Calls Tryd.prog 8 #[.nilIface, .int .i64 f] w fun e w' => e = .returned (.bool (f == 0)) ∧ w' = w := by
  go_enter Tryd.func8, Tryd.ntmps8
  go_wp2
  go_ret
  exact ⟨rfl, rfl⟩

set_option maxHeartbeats 400000 in
theorem sameNumbers_same (w : World) (ga gb capa capb : Nat) (zs : List Int) (hl : zs.length ≤ 1000)
    (ha : ∀ i, i < zs.length → w.cell? ⟨ga, i, none⟩ = some (.int .i64 (zs.getD i 0))) (hb : ∀ i, i < zs.length → w.cell? ⟨gb, i, none⟩ = some (.int .i64 (zs.getD i 0))) :
    Calls Tryd.prog 9 #[.slice (some ⟨ga, 0, none⟩) zs.length capa, .slice (some ⟨gb, 0, none⟩) zs.length capb] w fun e w' => e = .returned (.bool true) ∧ Below w.heap.size w w' := by
  have HA := hide ha; have HB := hide hb
  clear ha hb
  go_enter Tryd.func9, Tryd.ntmps9
  go_wp2
  go_loopw [5] (fun i wr => ∃ k nq : Nat, k ≤ zs.length ∧ i = .int .i64 k ∧ wr = w.drewN nq) (fun i _ => zs.length - (intOf i).toNat)
  case atStart => exact ⟨0, 0, Nat.zero_le _, rfl, by simp [World.drewN_zero]⟩
  case round =>
    obtain ⟨k, nq, hk, rfl, rfl⟩ := hrel
    by_cases hlt : k < zs.length
    · have c1 := HA.out k hlt
      have c2 := HB.out k hlt
      generalize zs.getD k 0 = z at *
      go_wp2
      go_quiet (fail)
      go_wp2
      go_roundw
      case rel => exact ⟨k + 1, _, by omega, by go_num, rfl⟩
      case measure => simp [intOf]; omega
    · go_wp2
      go_ret
      exact ⟨rfl, below_drewN (Below.refl _ _) _⟩

theorem Tryd.infoInt : (Tryd.prog.info? 3).map (fun i => (i.zero, i.size, i.bytes)) = some (some (.int .i64 0), 1, 8) := by kernel_rfl

def errCell (k : Nat) : Value := .iface 23 (.int .i64 (k + 1))

theorem err_cells (w : World) (t : TypeId) (B : Nat) (hB : B = w.heap.size) : ∀ k, k < 13 → (w.alloc (.cells #[errCell 0, errCell 1, errCell 2, errCell 3, errCell 4, errCell 5, errCell 6, errCell 7, errCell 8, errCell 9, errCell 10, errCell 11, errCell 12] t)).cell? ⟨B, k, none⟩ = some (errCell k) := fun k hk => by
  subst hB
  rw [World.cell?_alloc_new]
  match k, hk with
  | 0, _ | 1, _ | 2, _ | 3, _ | 4, _ | 5, _ | 6, _ | 7, _ | 8, _ | 9, _ | 10, _ | 11, _ | 12, _ => rfl

def nameL : List Int := [400, 4, 12, 8, 999, 10, 8, 8, 64, 200, 12, 6, 20, 80, 200]
def nameA : List Int := [1, 2, 3, 4, 1, 2, 3, 4, 5]

/-- The row of a slice of literals owns it. -/
theorem lit_owns (w : World) (zs : List Int) (cs : Array Value) (hcs : cs.toList = zs.map (Value.int .i64)) (n : Nat) (hn : zs.length = n) (hm : n ≤ 1000) (base : Nat) (hb : base ≤ w.heap.size) (B : Nat) (hB : B = w.heap.size) :
    (w.alloc (.cells cs 3)).ownsRow base 3 1 (.slice (some ⟨B, 0, none⟩) n n) n (zs.map (Value.int .i64)) := by
  subst hB
  have hs : cs.size = n * 1 := by rw [← Array.length_toList, hcs, List.length_map, hn, Nat.mul_one]
  have h := World.ownsRow_lit (base := base) (e := 3) (size := 1) w cs n hb (by unfold maxLen; omega) hs
  rw [hcs] at h
  exact h

theorem lit_cells (w : World) (zs : List Int) (cs : Array Value) (hcs : cs.toList = zs.map (Value.int .i64)) (B : Nat) (hB : B = w.heap.size) : ∀ j u, (zs.map (Value.int .i64))[j]? = some u → (w.alloc (.cells cs 3)).cell? ((⟨B, 0, none⟩ : Addr).add j) = some u := by
  subst hB
  rw [← hcs]
  exact World.news_of_block (heap_alloc_new w _)

theorem owns_cells {w : World} {base g cap n : Nat} {zs : List Int} (h : w.ownsRow base 3 1 (.slice (some ⟨g, 0, none⟩) n cap) n (zs.map (Value.int .i64))) (hn : zs.length = n) : ∀ i, i < zs.length → w.cell? ⟨g, i, none⟩ = some (.int .i64 (zs.getD i 0)) := fun i hi => by
  rw [h.cellAt i (by omega), List.getElem?_map, List.getElem?_eq_getElem hi]
  simp [List.getD_eq_getElem?_getD, hi]

set_option maxRecDepth 100000 in
set_option maxHeartbeats 1000000 in
theorem names_any (w : World)
    (herr : ∀ W : World, Below w.heap.size w W → Calls Tryd.prog 10 #[.int .i64 13] W fun e w' => e = .returned (.string ⟨#[98, 97, 115, 105, 115, 107, 101, 101, 112, 58, 32, 101, 114, 114, 111, 114, 32, 49, 51]⟩) ∧ Below W.heap.size W w') :
    Calls Tryd.prog 3 #[] w fun e w' => e = .returned (.bool true) ∧ Below w.heap.size w w' := by
  have HE := hide herr
  clear herr
  obtain ⟨i0, hi, hz0, hz1, hz2⟩ := info_parts Tryd.infoInt
  have tok1 : True := trivial
  have tok2 : True := trivial
  have h24 : (15 : Nat) + 9 ≤ maxLen := by unfold maxLen; omega
  go_enter Tryd.func3, Tryd.ntmps3
  go_wp2_with (first
    | (at_builtin; have _t := tok1; refine wpList_append_lies _ rfl _ _ 22 rfl w.heap.size 3 i0 (.int .i64 0) 1 8 Tryd.underlying22 hi hz0 hz1 hz2 rfl (by decide) (.slice (some ⟨w.heap.size, 0, none⟩) 15 15) 15 (nameL.map (Value.int .i64)) rfl (((lit_owns w nameL _ rfl 15 rfl (by decide) w.heap.size (Nat.le_refl _) _ rfl).alloc _).alloc _) ⟨w.heap.size + 1 + 1, 0, none⟩ 9 9 (nameA.map (Value.int .i64)) rfl rfl (lit_cells _ nameA _ rfl _ (by simp)) (ints_oneCell _ _) (by decide) h24 (by decide) (by simp; omega) (w.heap.size + 1 + 1 + 1) (by simp) ?_; intro g1 cap1 w1 hown1 hgrow1 hat1 hlt1; clear tok1 _t; have HO1 := hide hown1; have HG1 := hide hgrow1; have HA1 := hide hat1; have hsz1 : w.heap.size + 1 + 1 < w1.heap.size := (by have := hgrow1.size; simp at this; omega); clear hown1 hgrow1 hat1)
    | (at_builtin; have _t := tok2; refine wpList_append_lies _ rfl _ _ 22 rfl w.heap.size 3 i0 (.int .i64 0) 1 8 Tryd.underlying22 hi hz0 hz1 hz2 rfl (by decide) (.slice (some ⟨w.heap.size + 1, 0, none⟩) 15 15) 15 (nameL.map (Value.int .i64)) rfl ((((lit_owns _ nameL _ rfl 15 rfl (by decide) w.heap.size (by simp) _ (by simp)).alloc _).kept HG1.out (.inr (by simp [Value.ownBlock]))).alloc _) ⟨w1.heap.size, 0, none⟩ 9 9 (nameA.map (Value.int .i64)) rfl rfl (lit_cells _ nameA _ rfl _ rfl) (ints_oneCell _ _) (by decide) h24 (by decide) (by simp; omega) (w1.heap.size + 1) (by simp) ?_; intro g2 cap2 w2 hown2 hgrow2 hat2 hlt2; clear tok2 _t; have HO2 := hide hown2; have HG2 := hide hgrow2; clear hown2 hgrow2 hat2)
    | fail)
  have hB : Below w.heap.size w (w2.alloc (.cells #[errCell 0, errCell 1, errCell 2, errCell 3, errCell 4, errCell 5, errCell 6, errCell 7, errCell 8, errCell 9, errCell 10, errCell 11, errCell 12] 27)) := by
    have b1 := ((((Below.refl w.heap.size w).alloc (Nat.le_refl _) _).alloc (by simp) _).alloc (by simp; omega) _).grown HG1.out (by simp; omega) (fun k hk => by simp [Value.ownBlock] at hk; omega)
    have b2 := (b1.alloc (by omega) _).grown HG2.out (by simp; omega) (fun k hk => by simp [Value.ownBlock] at hk; omega)
    exact b2.alloc b2.size _
  have hz2' : w1.heap.size ≤ w2.heap.size := by have := HG2.out.size; simp at this; omega
  have hO1 : (w2.alloc (.cells #[errCell 0, errCell 1, errCell 2, errCell 3, errCell 4, errCell 5, errCell 6, errCell 7, errCell 8, errCell 9, errCell 10, errCell 11, errCell 12] 27)).ownsRow w.heap.size 3 1 (.slice (some ⟨g1, 0, none⟩) (15 + 9) cap1) (15 + 9) ((nameL ++ nameA).map (Value.int .i64)) := by
    rw [List.map_append]
    refine ((HO1.out.alloc _).kept HG2.out (.inr ?_)).alloc _
    have := HA1.out
    simp [Value.ownBlock] at this ⊢
    omega
  have hO2 : (w2.alloc (.cells #[errCell 0, errCell 1, errCell 2, errCell 3, errCell 4, errCell 5, errCell 6, errCell 7, errCell 8, errCell 9, errCell 10, errCell 11, errCell 12] 27)).ownsRow w.heap.size 3 1 (.slice (some ⟨g2, 0, none⟩) (15 + 9) cap2) (15 + 9) ((nameL ++ nameA).map (Value.int .i64)) := by
    rw [List.map_append]
    exact HO2.out.alloc _
  have C1 := hide (owns_cells hO1 rfl)
  have C2 := hide (owns_cells hO2 rfl)
  have HEC := hide (err_cells w2 27 _ rfl)
  clear hO1 hO2 HO1 HO2 HG1 HG2 HA1
  have HB := hide hB
  clear hB
  show Code.wp _ _ _ _ (w2.alloc (.cells #[errCell 0, errCell 1, errCell 2, errCell 3, errCell 4, errCell 5, errCell 6, errCell 7, errCell 8, errCell 9, errCell 10, errCell 11, errCell 12] 27))
  generalize w2.alloc (.cells #[errCell 0, errCell 1, errCell 2, errCell 3, errCell 4, errCell 5, errCell 6, errCell 7, errCell 8, errCell 9, errCell 10, errCell 11, errCell 12] 27) = W at *
  generalize w2.heap.size = B at *
  go_loop [4] (fun i => ∃ k : Nat, k ≤ 13 ∧ i = .int .i64 k) (fun i => 13 - (intOf i).toNat)
  case atStart => exact ⟨0, Nat.zero_le _, rfl⟩
  case round =>
    obtain ⟨k, hk, rfl⟩ := hrel
    by_cases hlt : k < 13
    · have hck : W.cell? ⟨B, k, none⟩ = some (.iface 23 (.int .i64 ((k : Int) + 1))) := HEC.out k hlt
      go_wp2_with fail
      refine (same_errno _ _ _).mono ?_
      rintro e w' ⟨rfl, rfl⟩
      rw [show (decide (0 < (k : Int) + 1) && (k : Int) + 1 == (k : Int) + 1) = true by simp]
      go_wp2
      go_round
      case rel => exact ⟨k + 1, by omega, by go_num⟩
      case measure => simp [intOf]; omega
    · go_wp2_with fail
      refine (sameNumbers_same _ g1 g2 cap1 cap2 (nameL ++ nameA) (by decide) C1.out C2.out).mono ?_
      rintro e w4 ⟨rfl, hb4⟩
      have hb5 := HB.out.trans (hb4.mono HB.out.size)
      go_wp2_with fail
      refine (HE.out _ hb5).mono ?_
      rintro e w6 ⟨rfl, hb6⟩
      have hb7 := hide (hb5.trans (hb6.mono hb5.size))
      clear hb6 hb5 hb4
      go_wp2
      go_ret
      exact ⟨rfl, hb7.out⟩

end Go.Proofs.YtaijeimgbbpgiaaDoor
