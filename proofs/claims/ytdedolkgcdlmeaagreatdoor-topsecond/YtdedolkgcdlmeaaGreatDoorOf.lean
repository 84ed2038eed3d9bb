/- Numbers of 64 bits; what may be. -/
import Derived.Test.YtdedolkgcdlmeaaGreatDoorOps
namespace Go.Proofs.YtdedolkgcdlmeaaGreatDoor
open Go.RowKit Limbs

/-- Two limbs in a new block. -/
theorem lim_two (W : World) (lo hi : Int) (t : TypeId) (hlo : 0 ≤ lo ∧ lo < 4294967296) (hhi : 0 ≤ hi ∧ hi < 4294967296) (B : Nat) (hB : B = W.heap.size) : Lim (W.alloc (.cells #[.int .u32 lo, .int .u32 hi] t)) (.slice (some ⟨B, 0, none⟩) 2 2) [lo, hi] := by
  subst hB
  refine ⟨_, 2, rfl, Nat.le_refl _, by simp, LB_cons hlo (LB_cons hhi LB_nil), fun _ => ⟨_, 0, rfl, by simp, fun i hi => ?_⟩⟩
  rcases (by simp at hi; omega : i = 0 ∨ i = 1) with rfl | rfl <;> simp

theorem lv_two (n : Int) : lv [n % 4294967296, n / 4294967296] = n := by simp only [lv]; omega

set_option maxHeartbeats 800000 in
theorem of_any (w : World) (n : Int) (h0 : -9223372036854775808 ≤ n) (h1 : n ≤ 9223372036854775807) :
    Calls Tryz.prog 53 #[.int .i64 n] w fun e w' => NumPost w n 2 e w' := by
  by_cases hn : n < 0
  · have hw : IntKind.u64.wrap (-IntKind.u64.wrap n) = -n := by rw [IntKind.wrap_u64, IntKind.wrap_u64]; omega
    have hw2 : -n / 4294967296 % 4294967296 = -n / 4294967296 := by omega
    have HN := hide (lv_two (-n))
    go_enter Tryz.func53, Tryz.ntmps53
    go_wp2_with fail
    refine (signed_any _ _ _ [-n % 4294967296, -n / 4294967296] 2 (lim_two _ _ _ _ (by omega) (by omega) _ (by simp)) (Nat.le_refl _)).mono ?_
    rintro e w2 ⟨r, rfl, hr, hb2⟩
    obtain ⟨c0, c1, f0, f1⟩ := Box.later (B := w.heap.size) ((box_new w _ _ _ _ rfl).later ((Below.refl _ _).alloc (by simp) _ : Below (w.heap.size + 1) _ _) (by omega)) hb2 (by simp; omega)
    rw [HN.out, if_pos rfl, Int.neg_neg] at hr
    have HF := hide (fun rn rs (h : NumL w2 (.agg #[.bool rn, rs]) n 2) => boxed (w := w) h c0 c1 (by simp) (by simp) ((((Below.refl _ _).alloc (Nat.le_refl _) _).alloc (by simp) _).trans (hb2.mono (by simp; omega))) (Nat.le_refl _))
    have HR := hide hr
    obtain ⟨rn, rs, rz, rfl, hl, -⟩ := hr
    obtain ⟨ro, rcap, rfl, -⟩ := hl
    clear hb2
    go_wp2
    exact bodyPost_ret (v := .agg #[.bool rn, .slice ro rz.length rcap]) (by simp [results, Tryz.results53, go_sem, c0, c1]) rfl (HF.out _ _ HR.out)
  · have HN := hide (lv_two n)
    go_enter Tryz.func53, Tryz.ntmps53
    go_wp2_with fail
    refine (signed_any _ _ _ [n % 4294967296, n / 4294967296] 2 (lim_two _ _ _ _ (by omega) (by omega) _ (by simp)) (Nat.le_refl _)).mono ?_
    rintro e w2 ⟨r, rfl, hr, hb2⟩
    obtain ⟨c0, c1, f0, f1⟩ := Box.later (B := w.heap.size) ((box_new w _ _ _ _ rfl).later ((Below.refl _ _).alloc (by simp) _ : Below (w.heap.size + 1) _ _) (by omega)) hb2 (by simp; omega)
    rw [HN.out, if_neg (by decide)] at hr
    have HF := hide (fun rn rs (h : NumL w2 (.agg #[.bool rn, rs]) n 2) => boxed (w := w) h c0 c1 (by simp) (by simp) ((((Below.refl _ _).alloc (Nat.le_refl _) _).alloc (by simp) _).trans (hb2.mono (by simp; omega))) (Nat.le_refl _))
    have HR := hide hr
    obtain ⟨rn, rs, rz, rfl, hl, -⟩ := hr
    obtain ⟨ro, rcap, rfl, -⟩ := hl
    clear hb2
    go_wp2
    exact bodyPost_ret (v := .agg #[.bool rn, .slice ro rz.length rcap]) (by simp [results, Tryz.results53, go_sem, c0, c1]) rfl (HF.out _ _ HR.out)

/-- Is it a number? -/
def isNum (neg : Bool) (zs : List Int) : Bool := if zs.length = 0 then !neg else zs.getD (zs.length - 1) 0 != 0


/-- what Check answers -/
def checked (b : Bool) : Value := if b = true then .nilIface else .iface 102 (.int .i64 3)

theorem check_any (w : World) (neg : Bool) (s : Value) (zs : List Int) (hl : Lim w s zs) :
    Calls Tryz.prog 123 #[.agg #[.bool neg, s]] w fun e w' => e = .returned (checked (isNum neg zs)) ∧ Below w.heap.size w w' := by
  obtain ⟨ao, acap, rfl, -, hlen, hlb, hc⟩ := hl
  by_cases h0 : zs.length = 0
  · have hb : ((zs.length : Int) == 0) = true := by simp [h0]
    have e : isNum neg zs = !neg := by unfold isNum; rw [if_pos h0]
    rw [e]
    clear hc h0 e
    cases neg
    · go_enter Tryz.func123, Tryz.ntmps123
      go_wp2
      go_ret
      exact ⟨rfl, (Below.refl _ _).alloc (Nat.le_refl _) _⟩
    · go_enter Tryz.func123, Tryz.ntmps123
      go_wp2
      go_ret
      exact ⟨rfl, (Below.refl _ _).alloc (Nat.le_refl _) _⟩
  · have hb : ((zs.length : Int) == 0) = false := by rw [beq_eq_false_iff_ne]; omega
    obtain ⟨b, off, rfl, hbb, hc⟩ := hc (by omega)
    have hcc := hc (zs.length - 1) (by omega)
    have hi : (zs.length : Int) - 1 = ((zs.length - 1 : Nat) : Int) := by omega
    obtain ⟨k, hk⟩ : ∃ k, k = zs.length - 1 := ⟨_, rfl⟩
    have hkl : k < zs.length := by omega
    rw [← hk] at hi hcc
    have e : isNum neg zs = (zs.getD k 0 != 0) := by unfold isNum; rw [if_neg h0, hk]
    rw [e]
    have hz := hlb k
    clear hc hk e
    generalize zs.getD k 0 = z at *
    have hcc2 : ∀ o, (w.alloc o).cell? ⟨b, off + k, none⟩ = some (.int .u32 z) := fun o => ((((Below.refl w.heap.size w).alloc (Nat.le_refl _) o).cell (p := ⟨b, off + k, none⟩) hbb)).trans hcc
    by_cases hz0 : z = 0
    · subst hz0
      go_enter Tryz.func123, Tryz.ntmps123
      go_wp2
      go_ret
      exact ⟨rfl, (Below.refl _ _).alloc (Nat.le_refl _) _⟩
    · have hz1 : (z == 0) = false := by simp [hz0]
      have hz2 : (z != 0) = true := by simp [hz0]
      rw [hz2]
      go_enter Tryz.func123, Tryz.ntmps123
      go_wp2
      go_ret
      exact ⟨rfl, (Below.refl _ _).alloc (Nat.le_refl _) _⟩

end Go.Proofs.YtdedolkgcdlmeaaGreatDoor
