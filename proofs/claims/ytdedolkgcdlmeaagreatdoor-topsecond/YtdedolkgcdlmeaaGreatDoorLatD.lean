/- slices.Concat of two lists of rows; what rows generate together. -/
import Derived.Test.YtdedolkgcdlmeaaGreatDoorLatC
namespace Go.Proofs.YtdedolkgcdlmeaaGreatDoor
open Go.RowKit Limbs

/-- Two lists of rows, in a block. -/
def TwoM (w : World) (rb : Nat) (va vb : Value) (xs ys : List (List Int)) (nv : Nat) : Prop :=
  rb < w.heap.size ∧ w.cell? ⟨rb, 0, none⟩ = some va ∧ w.cell? ⟨rb, 1, none⟩ = some vb ∧ MatN w va xs nv ∧ MatN w vb ys nv

theorem TwoM.below {w w' : World} {rb : Nat} {va vb : Value} {xs ys : List (List Int)} {nv : Nat} (h : TwoM w rb va vb xs ys nv) (hb : Below w.heap.size w w') : TwoM w' rb va vb xs ys nv :=
  ⟨Nat.lt_of_lt_of_le h.1 hb.size, (hb.cell (p := ⟨rb, 0, none⟩) h.1).trans h.2.1, (hb.cell (p := ⟨rb, 1, none⟩) h.1).trans h.2.2.1, h.2.2.2.1.below hb (Nat.le_refl _), h.2.2.2.2.below hb (Nat.le_refl _)⟩

/-- As far as i of the two: what is there. -/
def upTo (xs ys : List (List Int)) : Nat → List (List Int)
  | 0 => []
  | 1 => xs
  | _ + 2 => xs ++ ys

set_option maxRecDepth 100000 in
set_option maxHeartbeats 1600000 in
theorem concat_two (w : World) (rb : Nat) (va vb : Value) (xs ys : List (List Int)) (nv : Nat) (h : TwoM w rb va vb xs ys nv) (hl : xs.length + ys.length ≤ 1000) :
    Calls Tryz.prog 113 #[.slice (some ⟨rb, 0, none⟩) 2 2] w fun e w' => ∃ v, e = .returned v ∧ MatN w' v (xs ++ ys) nv ∧ Below w.heap.size w w' := by
  obtain ⟨j0, hj, hy0, hy1, hy2⟩ := info_parts Tryz.infoVec
  have HJ := hide hj; have HY0 := hide hy0; have HY1 := hide hy1; have HY2 := hide hy2
  have HT := hide h
  obtain ⟨hlt, c0, c1, ⟨ao, acap, rfl, -, -⟩, ⟨bo, bcap, rfl, -, -⟩⟩ := h
  clear hj hy0 hy1 hy2
  go_enter Tryz.func113, Tryz.ntmps113
  go_wp2
  go_loopw [3, 11] (fun s i wr => ∃ k : Nat, k ≤ 2 ∧ i = .int .i64 k ∧ s = .int .i64 ((upTo xs ys k).length : Nat) ∧ w = wr) (fun _ i _ => 2 - (intOf i).toNat)
  case atStart => exact ⟨0, Nat.zero_le _, rfl, rfl, rfl⟩
  case round =>
    obtain ⟨k, hk, rfl, rfl, rfl⟩ := hrel
    match k, hk with
    | 0, _ =>
      have e0 : (upTo xs ys 0).length = 0 := rfl
      rw [e0]
      go_wp2
      go_roundw
      case rel => exact ⟨1, by omega, by go_num, (by simp [upTo]), (by first | rfl | trivial)⟩
      case measure => simp [intOf]
    | 1, _ =>
      have e0 : (upTo xs ys 1).length = xs.length := rfl
      rw [e0]
      go_wp2
      go_roundw
      case rel => exact ⟨2, by omega, by go_num, (by simp [upTo]), (by first | rfl | trivial)⟩
      case measure => simp [intOf]
    | 2, _ =>
      have e0 : (upTo xs ys 2).length = xs.length + ys.length := by simp [upTo]
      rw [e0]
      go_wp2_with fail
      refine (grow_nil w (xs.length + ys.length) nv hl).mono ?_
      rintro e w1 ⟨v, rfl, hg, hb⟩
      have HG := hide hg; have HB := hide hb
      have HL1 := hide hb.size
      clear hg hb c0 c1
      go_wp2
      go_loopw [6, 27] (fun s i wo => ∃ (k : Nat) (qs : List (Value × List Int)), k ≤ 2 ∧ i = .int .i64 k ∧ qs.map (·.2) = upTo xs ys k ∧ GrowV wo w.heap.size s qs nv ∧ Hid (Below w.heap.size w wo)) (fun _ i _ => 2 - (intOf i).toNat)
      case atStart => exact ⟨0, [], Nat.zero_le _, rfl, rfl, HG.out, HB⟩
      case round =>
        obtain ⟨k, qs, hk, rfl, hqs, hgv, HBO⟩ := hrel
        obtain ⟨hlt2, d0, d1, ha, hb⟩ := HT.out.below HBO.out
        have HA := hide ha; have HBB := hide hb; have HGV := hide hgv
        have hsz := HBO.out.size
        have hql := congrArg List.length hqs
        rw [List.length_map] at hql
        clear ha hb hgv
        match k, hk with
        | 0, _ =>
          have hq0 : qs.length = 0 := hql
          go_wp2_with (at_builtin; refine wpList_append_rows rfl _ _ 23 rfl w.heap.size j0 (by kernel_rfl) HJ.out HY0.out HY1.out HY2.out _ qs nv HGV.out rfl _ xs rfl HA.out (by omega) hsz ?_)
          rintro v' w' qs' hg' hq' hb'
          have HG' := hide hg'; have HB' := hide (HBO.out.trans hb')
          clear hg' hb'
          go_wp2
          go_roundw
          case rel => exact ⟨1, qs ++ qs', by omega, by go_num, (by rw [List.map_append, hqs, hq']; rfl), HG'.out, HB'⟩
          case measure => simp [intOf]
        | 1, _ =>
          have hq0 : qs.length = xs.length := hql
          go_wp2_with (at_builtin; refine wpList_append_rows rfl _ _ 23 rfl w.heap.size j0 (by kernel_rfl) HJ.out HY0.out HY1.out HY2.out _ qs nv HGV.out rfl _ ys rfl HBB.out (by omega) hsz ?_)
          rintro v' w' qs' hg' hq' hb'
          have HG' := hide hg'; have HB' := hide (HBO.out.trans hb')
          clear hg' hb'
          go_wp2
          go_roundw
          case rel => exact ⟨2, qs ++ qs', by omega, by go_num, (by rw [List.map_append, hqs, hq']; rfl), HG'.out, HB'⟩
          case measure => simp [intOf]
        | 2, _ =>
          have HM := hide HGV.out.mat
          rw [hqs] at HM
          go_wp2
          go_ret
          exact ⟨_, rfl, HM.out, HBO.out⟩

end Go.Proofs.YtdedolkgcdlmeaaGreatDoor
