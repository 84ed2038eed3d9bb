/- The reference: are two the same? -/
import Derived.Test.YtaijeimgbbpgiaaDoorRefG
import Derived.Test.YtaijeimgbbpgiaaDoorRaws
namespace Go.Proofs.YtaijeimgbbpgiaaDoor
open Go.RowKit Limbs Digs

theorem numL_same {neg neg' : Bool} {zs zs' : List Int} (h1 : LB zs) (h2 : LB zs') (n1 : Nrm zs) (n2 : Nrm zs') (e1 : zs.length = 0 → neg = false) (e2 : zs'.length = 0 → neg' = false)
    (h : (if neg = true then -lv zs else lv zs) = (if neg' = true then -lv zs' else lv zs')) : neg = neg' ∧ zs = zs' := by
  have p1 := lv_nonneg h1
  have p2 := lv_nonneg h2
  have q1 := lv_zero_iff h1 n1
  have q2 := lv_zero_iff h2 n2
  cases neg <;> cases neg' <;> simp at h
  · exact ⟨rfl, lv_inj h1 h2 n1 n2 h⟩
  · exfalso
    have := e2 (q2.1 (by omega)); simp at this
  · exfalso
    have := e1 (q1.1 (by omega)); simp at this
  · exact ⟨rfl, lv_inj h1 h2 n1 n2 (by omega)⟩

set_option maxRecDepth 100000 in
set_option maxHeartbeats 1600000 in
theorem sameInt_true (w : World) (va vb : Value) (x : Int) (n m : Nat) (ha : NumL w va x n) (hb : NumL w vb x m) :
    Calls Tryd.prog 16 #[va, vb] w fun e w' => e = .returned (.bool true) ∧ Below w.heap.size w w' := by
  obtain ⟨an, sa, zs, rfl, hla, nra, ea, hx, -⟩ := ha
  obtain ⟨bn, sb, zs', rfl, hlb, nrb, eb, hy, -⟩ := hb
  have HA := hide hla
  have HB := hide hlb
  obtain ⟨ao, acap, rfl, hacap, halen, halb, -⟩ := hla
  obtain ⟨bo, bcap, rfl, hbcap, hblen, hblb, -⟩ := hlb
  obtain ⟨rfl, rfl⟩ := numL_same halb hblb nra nrb ea eb (hx.symm.trans hy)
  clear hx hy ea eb nra nrb
  have hT := two w (.bool an) (.slice ao zs.length acap) (.bool an) (.slice bo zs.length bcap) 33 33
  have HT := hide hT
  obtain ⟨_, _, e, -, -, -, hac⟩ := HA.out.below hT.below (Nat.le_refl _)
  simp only [Value.slice.injEq, true_and] at e
  obtain ⟨rfl, rfl⟩ := e
  obtain ⟨_, _, e, -, -, -, hbc⟩ := HB.out.below hT.below (Nat.le_refl _)
  simp only [Value.slice.injEq, true_and] at e
  obtain ⟨rfl, rfl⟩ := e
  have HAC := hide hac
  have HBC := hide hbc
  clear hac hbc HA HB
  go_enter Tryd.func16, Tryd.ntmps16
  go_wp2
  generalize (w.alloc (.cells #[.bool an, .slice ao zs.length acap] 33)).alloc (.cells #[.bool an, .slice bo zs.length bcap] 33) = W at *
  clear hT
  obtain ⟨k0, k1, -, -⟩ := HT.out.fst
  obtain ⟨l0, l1, -, -⟩ := HT.out.res
  go_loopw [5] (fun i wr => ∃ k nq : Nat, k ≤ zs.length ∧ i = .int .i64 k ∧ wr = W.drewN nq) (fun i _ => zs.length - (intOf i).toNat)
  case atStart => exact ⟨0, 0, Nat.zero_le _, rfl, by simp [World.drewN_zero]⟩
  case round =>
    obtain ⟨k, nq, hk, rfl, rfl⟩ := hrel
    by_cases hlt : k < zs.length
    · obtain ⟨ab, aoff, rfl, -, hac⟩ := HAC.out (by omega)
      obtain ⟨bb, boff, rfl, -, hbc⟩ := HBC.out (by omega)
      have hca := hac k hlt
      have hcb := hbc k hlt
      clear hac hbc HAC HBC
      generalize zs.getD k 0 = z at *
      go_wp2
      go_quiet (fail)
      go_wp2
      go_roundw
      case rel => exact ⟨k + 1, _, by omega, by go_num, rfl⟩
      case measure => simp [intOf]; omega
    · go_wp2
      go_ret
      exact ⟨rfl, below_drewN HT.out.below _⟩

end Go.Proofs.YtaijeimgbbpgiaaDoor
