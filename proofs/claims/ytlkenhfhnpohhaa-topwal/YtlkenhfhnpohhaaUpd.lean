/- The reference: are two lists of deeds the same? -/
import Derived.Test.YtlkenhfhnpohhaaWaP
import Derived.Test.YtlkenhfhnpohhaaDkN
import Derived.Test.YtlkenhfhnpohhaaRegions
import Derived.Orders

namespace Go.Proofs.Ytlkenhfhnpohhaa
open Go.RowKit

def opsD (dss : List (Value × List OpC)) : List (List OpV) := dss.map fun p => p.2.map (·.o)

theorem OpsN.at {w : World} {v : Value} {os : List OpC} (h : OpsN w v os) {j : Nat} {q : OpC} (hq : os[j]? = some q) : ∃ b off cap, v = .slice (some ⟨b, off, none⟩) os.length cap ∧ b < w.heap.size ∧ w.cell? ⟨b, off + j * 4, none⟩ = some (.int .i64 q.o.kind) ∧ w.cell? ⟨b, off + j * 4 + 1, none⟩ = some (.string q.o.name) ∧ w.cell? ⟨b, off + j * 4 + 2, none⟩ = some (.int .i64 q.o.n) ∧ w.cell? ⟨b, off + j * 4 + 3, none⟩ = some q.row ∧ RowS w q.row q.o.v ∧ ∀ w', Below w.heap.size w w' → RowS w' q.row q.o.v := by
 obtain ⟨ao, cap, rfl, -, hh⟩ := h
 have hj := (List.getElem?_eq_some_iff.1 hq).1
 obtain ⟨b, off, rfl, hlt, hc⟩ := hh (by omega)
 obtain ⟨a0, a1, a2, a3, a4⟩ := hc j q hq
 exact ⟨b, off, cap, rfl, hlt, a0, a1, a2, a3, a4, fun w' hb => a4.below hb (Nat.le_refl _)⟩

theorem OpsN.form {w : World} {v : Value} {os : List OpC} (h : OpsN w v os) : ∃ o c, v = .slice o os.length c := by
 obtain ⟨ao, cap, e, -⟩ := h
 exact ⟨ao, cap, e⟩

theorem opsD_at {A : List (Value × List OpC)} {i : Nat} {p : Value × List OpC} (h : A[i]? = some p) : (opsD A)[i]? = some (p.2.map (·.o)) := by
 unfold opsD
 rw [List.getElem?_map, h]
 rfl

set_option linter.unusedSimpArgs false in
set_option maxRecDepth 100000 in
set_option maxHeartbeats 1600000 in
theorem sameDeeds_any (w : World) (va vb : Value) (A B : List (Value × List OpC)) (ha : DeedsN w va A) (hb : DeedsN w vb B) (hl : shortD A) (r : Bool) (hr : r = true ↔ opsD A = opsD B) :
  Calls Try.prog 14 #[va, vb] w fun e w' => e = .returned (.bool r) ∧ Below w.heap.size w w' := by
 have HA := hide ha; have HB := hide hb; have HR := hide hr; have HS := hide hl
 obtain ⟨ao, acap, rfl, -⟩ := id ha
 obtain ⟨bo, bcap, rfl, -⟩ := id hb
 obtain ⟨n, hn⟩ : ∃ n, A.length = n := ⟨_, rfl⟩
 obtain ⟨m, hm⟩ : ∃ m, B.length = m := ⟨_, rfl⟩
 rw [hn, hm]
 have HN := hide hn; have HM := hide hm
 have hn1000 : n ≤ 1000 := by have := hl.1; omega
 clear ha hb hl
 by_cases hnm : n = m
 ·subst hnm
  have gn : ((n : Int) != (n : Int)) = false := by simp
  clear hn hm hr
  go_enter Try.func14, Try.ntmps14
  go_wp2_with fail
  clear gn
  go_loopw [5] (fun ix wr => ∃ i : Nat, i ≤ n ∧ ix = .int .i64 i ∧ Hid (∀ t, t < i → (opsD A)[t]? = (opsD B)[t]?) ∧ Hid (Below w.heap.size w wr)) (fun ix _ => n - (intOf ix).toNat)
  case atStart => exact ⟨0, Nat.zero_le _, rfl, hide (fun t ht => absurd ht (by omega)), Below.refl _ _⟩
  case round =>
   obtain ⟨i, hi, rfl, HPRE, HBW⟩ := hrel
   by_cases hil : i < n
   ·have hiA : i < A.length := by rw [HN.out]; exact hil
    have hiB : i < B.length := by rw [HM.out]; exact hil
    obtain ⟨p, hp⟩ : ∃ p, A[i]? = some p := ⟨_, List.getElem?_eq_getElem hiA⟩
    obtain ⟨q, hq⟩ : ∃ q, B[i]? = some q := ⟨_, List.getElem?_eq_getElem hiB⟩
    obtain ⟨_, _, e, -, hh⟩ := HA.out
    rw [HN.out] at e
    simp only [Value.slice.injEq, true_and] at e
    obtain ⟨rfl, rfl⟩ := e
    obtain ⟨ab, aoff, rfl, l1w, hcA⟩ := hh (by omega)
    obtain ⟨_, _, e, -, hh⟩ := HB.out
    rw [HM.out] at e
    simp only [Value.slice.injEq, true_and] at e
    obtain ⟨rfl, rfl⟩ := e
    obtain ⟨bb, boff, rfl, l2w, hcB⟩ := hh (by omega)
    obtain ⟨d0w, hpo⟩ := hcA i p hp
    obtain ⟨d1w, hqo⟩ := hcB i q hq
    have hpi := opsD_at hp
    have hqi := opsD_at hq
    obtain ⟨pv, pos⟩ := p
    obtain ⟨qv, qos⟩ := q
    dsimp only at d0w d1w hpo hqo hpi hqi
    have hps := (HS.out.2 _ (List.mem_of_getElem? hp)).1
    have hpv := (HS.out.2 _ (List.mem_of_getElem? hp)).2
    dsimp only at hps hpv
    obtain ⟨po, pc, rfl⟩ := hpo.form
    obtain ⟨qo, qc, rfl⟩ := hqo.form
    obtain ⟨pn, hpn⟩ : ∃ k, pos.length = k := ⟨_, rfl⟩
    obtain ⟨qn, hqn⟩ : ∃ k, qos.length = k := ⟨_, rfl⟩
    rw [hpn] at d0w hps
    rw [hqn] at d1w
    have HPO := hide hpo; have HQO := hide hqo; have HPI := hide hpi; have HQI := hide hqi; have HPV := hide hpv; have HPN := hide hpn; have HQN := hide hqn
    have d0 := (HBW.out.cell (p := ⟨ab, aoff + i, none⟩) l1w).trans d0w
    have d1 := (HBW.out.cell (p := ⟨bb, boff + i, none⟩) l2w).trans d1w
    have D0 := hide d0w; have D1 := hide d1w
    clear hh hcA hcB hpo hqo hpi hqi hpv hpn hqn hp hq hiA hiB d0w d1w
    by_cases hlen : pn = qn
    ·subst hlen
     have gp : ((pn : Int) != (pn : Int)) = false := by simp
     go_wp2_with fail
     go_region_held3 (fun w' => w'.cell? ⟨ab, aoff + i, none⟩ = some (.slice po pn pc) ∧ w'.cell? ⟨bb, boff + i, none⟩ = some (.slice qo pn qc)) (go_keep) (fail)
     go_wp2_with fail
     clear gp d0 d1
     have HBD : Hid (Below w.heap.size w wr.drew) := HBW.out.drew
     generalize wr.drew = W0 at *
     go_loopw [6] (fun jx wr => ∃ j : Nat, j ≤ pn ∧ jx = .int .i64 j ∧ Hid (∀ t, t < j → (pos.map (·.o))[t]? = (qos.map (·.o))[t]?) ∧ Hid (Below w.heap.size w wr)) (fun jx _ => pn - (intOf jx).toNat)
     case atStart => exact ⟨0, Nat.zero_le _, rfl, hide (fun t ht => absurd ht (by omega)), HBD⟩
     case round =>
      clear HBD
      obtain ⟨j, hj, rfl, HJ, HBR⟩ := hrel
      have d0 := (HBR.out.cell (p := ⟨ab, aoff + i, none⟩) l1w).trans D0.out
      have d1 := (HBR.out.cell (p := ⟨bb, boff + i, none⟩) l2w).trans D1.out
      by_cases hjl : j < pn
      ·obtain ⟨x, hx⟩ : ∃ x, pos[j]? = some x := ⟨_, List.getElem?_eq_getElem (by rw [HPN.out]; exact hjl)⟩
       obtain ⟨y, hy⟩ : ∃ y, qos[j]? = some y := ⟨_, List.getElem?_eq_getElem (by rw [HQN.out]; exact hjl)⟩
       obtain ⟨pb, poff, _, e1, l3w, a0, a1, a2, a3, -, hrx⟩ := HPO.out.at hx
       obtain ⟨qb, qoff, _, e2, l4w, b0, b1, b2, b3, -, hry⟩ := HQO.out.at hy
       simp only [Value.slice.injEq, true_and] at e1 e2
       obtain ⟨rfl, rfl⟩ := e1
       obtain ⟨rfl, rfl⟩ := e2
       have hxl := HPV.out x (List.mem_of_getElem? hx)
       have hxi : (pos.map (·.o))[j]? = some x.o := by rw [List.getElem?_map, hx]; rfl
       have hyi : (qos.map (·.o))[j]? = some y.o := by rw [List.getElem?_map, hy]; rfl
       have hxr := hrx wr HBR.out
       have hyr := hry wr HBR.out
       obtain ⟨⟨xk, xn, xd, xv⟩, xvo, xvc⟩ := x
       obtain ⟨⟨yk, yn, yd, yv⟩, yvo, yvc⟩ := y
       simp only [OpC.row] at a3 b3 hxr hyr
       dsimp only at a0 a1 a2 a3 b0 b1 b2 b3 hxl hxi hyi hxr hyr
       have HXR := hide hxr; have HYR := hide hyr; have HXL := hide hxl; have HXI := hide hxi; have HYI := hide hyi
       replace a0 := (HBR.out.cell (p := ⟨pb, poff + j * 4, none⟩) l3w).trans a0
       replace a1 := (HBR.out.cell (p := ⟨pb, poff + j * 4 + 1, none⟩) l3w).trans a1
       replace a2 := (HBR.out.cell (p := ⟨pb, poff + j * 4 + 2, none⟩) l3w).trans a2
       replace a3 := (HBR.out.cell (p := ⟨pb, poff + j * 4 + 3, none⟩) l3w).trans a3
       replace b0 := (HBR.out.cell (p := ⟨qb, qoff + j * 4, none⟩) l4w).trans b0
       replace b1 := (HBR.out.cell (p := ⟨qb, qoff + j * 4 + 1, none⟩) l4w).trans b1
       replace b2 := (HBR.out.cell (p := ⟨qb, qoff + j * 4 + 2, none⟩) l4w).trans b2
       replace b3 := (HBR.out.cell (p := ⟨qb, qoff + j * 4 + 3, none⟩) l4w).trans b3
       have l1 := Nat.lt_of_lt_of_le l1w HBR.out.size
       have l2 := Nat.lt_of_lt_of_le l2w HBR.out.size
       have l3 := Nat.lt_of_lt_of_le l3w HBR.out.size
       have l4 := Nat.lt_of_lt_of_le l4w HBR.out.size
       clear hx hy hrx hry hxl hxi hyi hxr hyr
       go_wp2_with fail
       refine wp_region_held_drew (S := (fun w' => w'.cell? ⟨ab, aoff + i, none⟩ = some (.slice (some ⟨pb, poff, none⟩) pn pc) ∧ w'.cell? ⟨bb, boff + i, none⟩ = some (.slice (some ⟨qb, qoff, none⟩) pn qc) ∧ w'.cell? ⟨pb, poff + j * 4, none⟩ = some (.int .i64 xk) ∧ w'.cell? ⟨pb, poff + j * 4 + 1, none⟩ = some (.string xn) ∧ w'.cell? ⟨pb, poff + j * 4 + 2, none⟩ = some (.int .i64 xd) ∧ w'.cell? ⟨pb, poff + j * 4 + 3, none⟩ = some (.slice xvo xv.length xvc) ∧ w'.cell? ⟨qb, qoff + j * 4, none⟩ = some (.int .i64 yk) ∧ w'.cell? ⟨qb, qoff + j * 4 + 1, none⟩ = some (.string yn) ∧ w'.cell? ⟨qb, qoff + j * 4 + 2, none⟩ = some (.int .i64 yd) ∧ w'.cell? ⟨qb, qoff + j * 4 + 3, none⟩ = some (.slice yvo yv.length yvc))) (by kernel_rfl) (by (try dsimp only); go_keep) (fun hHeld => ?_)
       refine held_run (v := ?_) 0 39 rfl rfl (by kernel_rfl) (by kernel_rfl) (by kernel_rfl) (fun _ _ _ h => h) (by rfl) ?_ (by assumption) ?_
       rotate_left
       ·(intro w hSw; (try dsimp only at hSw); go_simp; with_reducible rfl)
       simp only [Act.put, List.setIfInBounds_toArray, List.set_cons_zero, List.set_cons_succ]
       refine held_run (v := ?_) 1 40 rfl rfl (by kernel_rfl) (by kernel_rfl) (by kernel_rfl) (fun _ _ _ h => h) (by rfl) ?_ (by assumption) ?_
       rotate_left
       ·(intro w hSw; (try dsimp only at hSw); go_simp; with_reducible rfl)
       simp only [Act.put, List.setIfInBounds_toArray, List.set_cons_zero, List.set_cons_succ]
       refine held_run (v := ?_) 2 41 rfl rfl (by kernel_rfl) (by kernel_rfl) (by kernel_rfl) (fun _ _ _ h => h) (by rfl) ?_ (by assumption) ?_
       rotate_left
       ·(intro w hSw; (try dsimp only at hSw); go_simp; with_reducible rfl)
       simp only [Act.put, List.setIfInBounds_toArray, List.set_cons_zero, List.set_cons_succ]
       refine held_run (v := ?_) 3 42 rfl rfl (by kernel_rfl) (by kernel_rfl) (by kernel_rfl) (fun _ _ _ h => h) (by rfl) ?_ (by assumption) ?_
       rotate_left
       ·(intro w hSw; (try dsimp only at hSw); go_simp; with_reducible rfl)
       simp only [Act.put, List.setIfInBounds_toArray, List.set_cons_zero, List.set_cons_succ]
       refine held_run (v := ?_) 4 43 rfl rfl (by kernel_rfl) (by kernel_rfl) (by kernel_rfl) (fun _ _ _ h => h) (by rfl) ?_ (by assumption) ?_
       rotate_left
       ·(intro w hSw; (try dsimp only at hSw); go_simp; with_reducible rfl)
       simp only [Act.put, List.setIfInBounds_toArray, List.set_cons_zero, List.set_cons_succ]
       refine held_run (v := ?_) 5 44 rfl rfl (by kernel_rfl) (by kernel_rfl) (by kernel_rfl) (fun _ _ _ h => h) (by rfl) ?_ (by assumption) ?_
       rotate_left
       ·(intro w hSw; (try dsimp only at hSw); go_simp; with_reducible rfl)
       simp only [Act.put, List.setIfInBounds_toArray, List.set_cons_zero, List.set_cons_succ]
       refine held_run (v := ?_) 6 45 rfl rfl (by kernel_rfl) (by kernel_rfl) (by kernel_rfl) (fun _ _ _ h => h) (by rfl) ?_ (by assumption) ?_
       rotate_left
       ·(intro w hSw; (try dsimp only at hSw); go_simp; with_reducible rfl)
       simp only [Act.put, List.setIfInBounds_toArray, List.set_cons_zero, List.set_cons_succ]
       refine held_run (v := ?_) 7 46 rfl rfl (by kernel_rfl) (by kernel_rfl) (by kernel_rfl) (fun _ _ _ h => h) (by rfl) ?_ (by assumption) ?_
       rotate_left
       ·(intro w hSw; (try dsimp only at hSw); go_simp; with_reducible rfl)
       simp only [Act.put, List.setIfInBounds_toArray, List.set_cons_zero, List.set_cons_succ]
       refine held_run (v := ?_) 8 47 rfl rfl (by kernel_rfl) (by kernel_rfl) (by kernel_rfl) (fun _ _ _ h => h) (by rfl) ?_ (by assumption) ?_
       rotate_left
       ·(intro w hSw; (try dsimp only at hSw); go_simp; with_reducible rfl)
       simp only [Act.put, List.setIfInBounds_toArray, List.set_cons_zero, List.set_cons_succ]
       refine held_run (v := ?_) 9 48 rfl rfl (by kernel_rfl) (by kernel_rfl) (by kernel_rfl) (fun _ _ _ h => h) (by rfl) ?_ (by assumption) ?_
       rotate_left
       ·(intro w hSw; (try dsimp only at hSw); go_simp; with_reducible rfl)
       simp only [Act.put, List.setIfInBounds_toArray, List.set_cons_zero, List.set_cons_succ]
       refine held_run (v := ?_) 10 49 rfl rfl (by kernel_rfl) (by kernel_rfl) (by kernel_rfl) (fun _ _ _ h => h) (by rfl) ?_ (by assumption) ?_
       rotate_left
       ·(intro w hSw; (try dsimp only at hSw); go_simp; with_reducible rfl)
       simp only [Act.put, List.setIfInBounds_toArray, List.set_cons_zero, List.set_cons_succ]
       refine held_run (v := ?_) 11 50 rfl rfl (by kernel_rfl) (by kernel_rfl) (by kernel_rfl) (fun _ _ _ h => h) (by rfl) ?_ (by assumption) ?_
       rotate_left
       ·(intro w hSw; (try dsimp only at hSw); go_simp; with_reducible rfl)
       simp only [Act.put, List.setIfInBounds_toArray, List.set_cons_zero, List.set_cons_succ]
       refine held_run (v := ?_) 12 51 rfl rfl (by kernel_rfl) (by kernel_rfl) (by kernel_rfl) (fun _ _ _ h => h) (by rfl) ?_ (by assumption) ?_
       rotate_left
       ·(intro w hSw; (try dsimp only at hSw); go_simp; with_reducible rfl)
       simp only [Act.put, List.setIfInBounds_toArray, List.set_cons_zero, List.set_cons_succ]
       refine held_run (v := ?_) 13 52 rfl rfl (by kernel_rfl) (by kernel_rfl) (by kernel_rfl) (fun _ _ _ h => h) (by rfl) ?_ (by assumption) ?_
       rotate_left
       ·(intro w hSw; (try dsimp only at hSw); go_simp; with_reducible rfl)
       simp only [Act.put, List.setIfInBounds_toArray, List.set_cons_zero, List.set_cons_succ]
       refine wpAnyH_ready (rs := [14]) (by kernel_rfl) (by simp) (AllReadyH.cons (o := _) rfl (fun K hK => ?_) AllReadyH.nil)
       go_simp
       (refine (sameOp2_any _ ⟨xk, xn, xd, xv⟩ ⟨yk, yn, yd, yv⟩ xvo yvo xvc yvc (HXR.out.below (Below.refl _ _).drew (Nat.le_refl _)) (HYR.out.below (Below.refl _ _).drew (Nat.le_refl _)) HXL.out).mono ?_; rintro e w5 ⟨rfl, hb5'⟩; have hb5 : Below wr.heap.size wr w5 := (Below.refl _ _).drew.trans (hb5'.mono (by simp)); clear hb5'; have e0 := (hb5.cell (p := ⟨ab, aoff + i, none⟩) l1).trans d0; have e1 := (hb5.cell (p := ⟨bb, boff + i, none⟩) l2).trans d1; have f0 := (hb5.cell (p := ⟨pb, poff + j * 4, none⟩) l3).trans a0; have f1 := (hb5.cell (p := ⟨pb, poff + j * 4 + 1, none⟩) l3).trans a1; have f2 := (hb5.cell (p := ⟨pb, poff + j * 4 + 2, none⟩) l3).trans a2; have f3 := (hb5.cell (p := ⟨pb, poff + j * 4 + 3, none⟩) l3).trans a3; have g0 := (hb5.cell (p := ⟨qb, qoff + j * 4, none⟩) l4).trans b0; have g1 := (hb5.cell (p := ⟨qb, qoff + j * 4 + 1, none⟩) l4).trans b1; have g2 := (hb5.cell (p := ⟨qb, qoff + j * 4 + 2, none⟩) l4).trans b2; have g3 := (hb5.cell (p := ⟨qb, qoff + j * 4 + 3, none⟩) l4).trans b3)
       go_wp2_with fail
       refine hK.out _ _ (by (try dsimp only); go_keep) (fun hHeld => ?_)
       clear hK K
       try simp only [Act.put, List.setIfInBounds_toArray, List.set_cons_zero, List.set_cons_succ]
       refine held_run (v := ?_) 15 7 rfl rfl (by kernel_rfl) (by kernel_rfl) (by kernel_rfl) (fun _ _ _ h => h) (by rfl) ?_ (by assumption) ?_
       rotate_left
       ·(intro w hSw; (try dsimp only at hSw); go_simp; with_reducible rfl)
       simp only [Act.put, List.setIfInBounds_toArray, List.set_cons_zero, List.set_cons_succ]
       refine wpAnyH_done (by kernel_rfl) ?_ _
       have HB5 := hide (HBR.out.trans (hb5.mono HBR.out.size))
       clear hb5 e0 e1 f0 f1 f2 f3 g0 g1 g2 g3 a0 a1 a2 a3 b0 b1 b2 b3 d0 d1
       cases hso : sameO ⟨xk, xn, xd, xv⟩ ⟨yk, yn, yd, yv⟩ with
       | true =>
        have HEQ : Hid ((⟨xk, xn, xd, xv⟩ : OpV) = ⟨yk, yn, yd, yv⟩) := sameO_iff.1 hso
        clear hso
        go_wp2
        go_roundw
        case rel => exact ⟨j + 1, by omega, by go_num, hide (fun t ht => by
         by_cases htj : t = j
         ·rw [htj, HXI.out, HYI.out, HEQ.out]
         ·exact HJ.out t (by omega)), HB5⟩
        case measure => simp [intOf]; omega
       | false =>
        have HF : Hid (r = false) := by
         cases hrr : r with
         | false => rfl
         | true =>
          have h1 := HR.out.1 hrr
          have h2 := HPI.out
          rw [h1, HQI.out] at h2
          have h3 := Option.some.inj h2
          have h4 := HYI.out
          rw [h3, HXI.out] at h4
          have h5 := sameO_iff.2 (Option.some.inj h4)
          rw [hso] at h5
          cases h5
        obtain rfl := HF.out
        clear hso
        go_wp2
        go_ret
        exact ⟨rfl, HB5.out⟩
      ·obtain rfl : j = pn := by omega
       have HEQ : Hid (pos.map (·.o) = qos.map (·.o)) := List.ext_getElem? fun t => by
        by_cases ht : t < j
        ·exact HJ.out t ht
        ·rw [List.getElem?_eq_none (by rw [List.length_map, HPN.out]; omega), List.getElem?_eq_none (by rw [List.length_map, HQN.out]; omega)]
       go_wp2
       go_roundw
       case rel => exact ⟨i + 1, by omega, by go_num, hide (fun t ht => by
        by_cases hti : t = i
        ·rw [hti, HPI.out, HQI.out, HEQ.out]
        ·exact HPRE.out t (by omega)), HBR⟩
       case measure => simp [intOf]; omega
    ·have gp : ((pn : Int) != (qn : Int)) = true := by rw [bne_iff_ne]; omega
     have HF : Hid (r = false) := by
      cases hrr : r with
      | false => rfl
      | true =>
       have h1 := HR.out.1 hrr
       have h2 := HPI.out
       rw [h1, HQI.out] at h2
       have h3 := congrArg List.length (Option.some.inj h2)
       rw [List.length_map, List.length_map, HPN.out, HQN.out] at h3
       omega
     obtain rfl := HF.out
     have HBD : Hid (Below w.heap.size w wr.drew) := HBW.out.drew
     clear hlen
     go_wp2_with fail
     go_region_held3 (fun w' => w'.cell? ⟨ab, aoff + i, none⟩ = some (.slice po pn pc) ∧ w'.cell? ⟨bb, boff + i, none⟩ = some (.slice qo qn qc)) (go_keep) (fail)
     go_wp2
     go_ret
     exact ⟨rfl, HBD.out⟩
   ·obtain rfl : i = n := by omega
    have HT : Hid (r = true) := HR.out.2 (List.ext_getElem? fun t => by
     by_cases ht : t < i
     ·exact HPRE.out t ht
     ·rw [List.getElem?_eq_none (by unfold opsD; rw [List.length_map, HN.out]; omega), List.getElem?_eq_none (by unfold opsD; rw [List.length_map, HM.out]; omega)])
    obtain rfl := HT.out
    go_wp2
    go_ret
    exact ⟨rfl, HBW.out⟩
 ·have gn : ((n : Int) != (m : Int)) = true := by rw [bne_iff_ne]; omega
  have hf : r = false := by
   cases hrr : r with
   | false => rfl
   | true =>
    have := congrArg List.length (hr.1 hrr)
    unfold opsD at this
    rw [List.length_map, List.length_map] at this
    omega
  subst hf
  clear hn hm hr hnm HR
  go_enter Try.func14, Try.ntmps14
  go_wp2
  go_ret
  exact ⟨rfl, Below.refl _ _⟩

end Go.Proofs.Ytlkenhfhnpohhaa

/- A disk that isn't armed: a deed is always added. Lists of deeds that came in, put together anew. -/
namespace Go.Proofs.Ytlkenhfhnpohhaa
open Go.RowKit

def Free (D : Dsk) : Prop := D.down = false ∧ D.left < 0

theorem Free.steps {D : Dsk} (h : Free D) : D.steps = true := by
 unfold Dsk.steps
 rw [h.1, decide_eq_false (by have := h.2; omega)]
 rfl

theorem Free.stepped {D : Dsk} (h : Free D) : D.stepped = D := by
 unfold Dsk.stepped
 rw [if_neg (by have := h.2; omega), if_neg (fun h' => by have := h.2; omega)]

theorem Free.put {D : Dsk} (h : Free D) (at' : Int) (t : ByteArray) : Free (putD D at' t) := by
 unfold putD
 split
 ·rw [if_pos h.steps, h.stepped]
  exact h
 ·exact h

theorem Free.flush {D : Dsk} (h : Free D) : Free (flushD D) := by
 unfold flushD
 rw [if_pos h.steps, h.stepped]
 exact h

theorem wipes_free (f : Int) (fr : Nat) : ∀ (c i : Nat) (D : Dsk) (wp : Bool), Free D → (wipesD f fr c i D wp).2.1 = true ∧ Free (wipesD f fr c i D wp).1
 | 0, _, _, _, h => ⟨rfl, h⟩
 | c + 1, i, D, wp, h => by
  unfold wipesD
  rw [if_neg (by rw [h.1]; decide)]
  split
  ·rw [if_pos h.steps]
   exact wipes_free f fr c (i + 1) _ _ (h.put _ _)
  ·exact wipes_free f fr c (i + 1) _ _ h

theorem writes_free (f : Int) (fr : Nat) : ∀ (bs : List ByteArray) (i : Nat) (D : Dsk), Free D → (writesD f fr i bs D).2 = true ∧ Free (writesD f fr i bs D).1
 | [], _, _, h => ⟨rfl, h⟩
 | b :: t, i, D, h => by
  unfold writesD
  rw [if_pos h.steps]
  exact writes_free f fr t (i + 1) _ (h.put _ _)

theorem uncloseB_free {R : Dsk × Bool × Bool} (h1 : R.2.1 = true) (h2 : Free R.1) : uncloseB R = true ∧ Free (uncloseR R).2 := by
 obtain ⟨D, ok, wp⟩ := R
 dsimp only at h1 h2
 subst h1
 cases wp with
 | false => exact ⟨rfl, h2⟩
 | true => exact ⟨by unfold uncloseB; simp [h2.steps], h2.flush⟩

theorem andB_free {D : Dsk} (h : Free D) : andB D true = true ∧ Free (andFlush D true).2 := ⟨by unfold andB; rw [h.steps]; rfl, h.flush⟩

theorem addD_free {f : Int} {fr en mn : Nat} {os : List OpV} {D : Dsk} (h : Free D) : (addD f fr en mn os D).2 = true ∧ Free (addD f fr en mn os D).1 := by
 obtain ⟨w1, w2⟩ := wipes_free f fr (mn - en) en D false h
 obtain ⟨u1, u2⟩ := uncloseB_free w1 w2
 obtain ⟨x1, x2⟩ := writes_free f fr (os.map opS) en _ u2
 obtain ⟨y1, y2⟩ := andB_free x2
 unfold addD
 rw [if_neg (by rw [u1]; decide), x1, if_neg (by rw [y1]; decide), y2.steps]
 exact andB_free (y2.put _ _)

theorem restart_free (D : Dsk) (keep : Int) : Free { D.settled keep with left := -1, down := false } := ⟨rfl, by show (-1 : Int) < 0; decide⟩

def WantT (w W : World) (v : Value) (dss : List (Value × List OpC)) : Prop := W.ownsRow 0 47 1 v dss.length (dss.map (·.1)) ∧ (∀ p ∈ dss, OpsN w p.1 p.2) ∧ Below w.heap.size w W

theorem WantT.later {w W W' : World} {v : Value} {dss : List (Value × List OpC)} (h : WantT w W v dss) (hb : Below W.heap.size W W') : WantT w W' v dss :=
 ⟨ownsKeep h.1 (fun b _ _ hx => hb.block b (heap_lt hx)), h.2.1, h.2.2.trans (hb.mono h.2.2.size)⟩

theorem list_notLog {t : TypeId} (h : listT t) : ¬ logT t := by
 unfold listT at h
 unfold logT diskT
 rcases h with rfl | rfl | rfl <;> decide

theorem WantT.keptW {w W W' : World} {base : Nat} {v : Value} {dss : List (Value × List OpC)} (h : WantT w W v dss) (hk : KeptW base W W') (hb : w.heap.size ≤ base) (hW : base ≤ W.heap.size) : WantT w W' v dss :=
 ⟨ownsKeep h.1 (fun b _ _ hx => hk.block b (heap_lt hx) (.inr fun cs' t' fz' hx' => by
  rw [hx] at hx'
  simp only [Option.some.injEq, Obj.cells.injEq] at hx'
  rw [← hx'.2.1]
  exact list_notLog (.inl rfl))), h.2.1, h.2.2.trans ((hk.below hW).mono hb)⟩

theorem DeedsT.keptW {W W' : World} {base base' : Nat} {v : Value} {dss : List (Value × List OpC)} (h : DeedsT base W v dss) (hk : KeptW base' W W') : DeedsT base W' v dss :=
 h.keep fun b _ _ _ hx ht => hk.block b (heap_lt hx) (.inr fun cs' t' fz' hx' => by
  rw [hx] at hx'
  simp only [Option.some.injEq, Obj.cells.injEq] at hx'
  rw [← hx'.2.1]
  exact list_notLog ht)

theorem wantT_nil (w W : World) (hb : Below w.heap.size w W) : WantT w W (.slice none 0 0) [] := ⟨World.ownsRow_nil _ _ _ _, (fun p hp => absurd hp (by simp)), hb⟩

theorem owns_at {W : World} {base : Nat} {e : TypeId} {o : Option Addr} {n c : Nat} {xs : List Value} (h : W.ownsRow base e 1 (.slice o n c) n xs) (h0 : 0 < n) : ∃ b, o = some ⟨b, 0, none⟩ ∧ b < W.heap.size ∧ n ≤ c ∧ ∀ i x, xs[i]? = some x → W.cell? ⟨b, 0 + i, none⟩ = some x := by
 rcases h.2 with ⟨e', rfl⟩ | ⟨g, cap, cur, e', -, hg, hle, -⟩
 ·omega
 ·simp only [Value.slice.injEq, true_and] at e'
  obtain ⟨rfl, rfl⟩ := e'
  refine ⟨g, rfl, heap_lt hg, hle, fun i x hx => ?_⟩
  have := World.ownsRow.cells (g := g) h rfl i x hx
  rw [Go.WideShapes.add_plain] at this
  exact this

theorem deedsN_of_owns {W : World} {base : Nat} {v : Value} {dss : List (Value × List OpC)} (h : W.ownsRow base 47 1 v dss.length (dss.map (·.1))) (hp : ∀ p ∈ dss, OpsN W p.1 p.2) : DeedsN W v dss := by
 obtain ⟨o, c, rfl, hle⟩ := owns_form h
 refine ⟨o, c, rfl, hle, fun h0 => ?_⟩
 obtain ⟨b, rfl, hlt, -, hc⟩ := owns_at h h0
 exact ⟨b, 0, rfl, hlt, fun i p hi => ⟨hc i p.1 (by rw [List.getElem?_map, hi]; rfl), hp p (List.mem_of_getElem? hi)⟩⟩

theorem WantT.read {w W : World} {v : Value} {dss : List (Value × List OpC)} (h : WantT w W v dss) : DeedsN W v dss := deedsN_of_owns h.1 fun p hp => (h.2.1 p hp).below h.2.2

theorem ops_at : ∀ (os : List OpC) (i : Nat) (q : OpC), os[i]? = some q → ∀ j, j < 4 → (os.flatMap OpC.cells)[i * 4 + j]? = q.cells[j]?
 | o :: t, 0, q, h, j, hj => by
  obtain rfl : o = q := by simpa using h
  rw [List.flatMap_cons, Nat.zero_mul, Nat.zero_add, List.getElem?_append_left (by show j < 4; exact hj)]
 | o :: t, i + 1, q, h, j, hj => by
  rw [List.flatMap_cons, List.getElem?_append_right (by show 4 ≤ _; omega)]
  have := ops_at t i q (by simpa using h) j hj
  rw [← this]
  congr 1
  show (i + 1) * 4 + j - 4 = _
  omega

theorem OpsT.read {base : Nat} {W : World} {v : Value} {os : List OpC} (h : OpsT base W v os) : OpsN W v os := by
 obtain ⟨o, c, rfl, hle⟩ := owns_form h.1
 refine ⟨o, c, rfl, hle, fun h0 => ?_⟩
 rcases h.1.2 with ⟨e', e0⟩ | ⟨g, cap, cur, e', -, hg, -⟩
 ·omega
 ·simp only [Value.slice.injEq, true_and] at e'
  obtain ⟨rfl, rfl⟩ := e'
  refine ⟨g, 0, rfl, heap_lt hg, fun i q hi => ?_⟩
  have hc : ∀ j, j < 4 → W.cell? ⟨g, 0 + i * 4 + j, none⟩ = q.cells[j]? := fun j hj => by
   have h1 := ops_at os i q hi j hj
   obtain ⟨x, hx⟩ : ∃ x, q.cells[j]? = some x := ⟨_, List.getElem?_eq_getElem (show j < 4 from hj)⟩
   rw [hx] at h1 ⊢
   have := World.ownsRow.cells (g := g) h.1 rfl (i * 4 + j) x h1
   rw [Go.WideShapes.add_plain] at this
   rw [Nat.add_assoc]
   exact this
  exact ⟨hc 0 (by decide), hc 1 (by decide), hc 2 (by decide), hc 3 (by decide), (h.2 q (List.mem_of_getElem? hi)).row⟩

theorem DeedsT.read {base : Nat} {W : World} {v : Value} {dss : List (Value × List OpC)} (h : DeedsT base W v dss) : DeedsN W v dss := deedsN_of_owns h.1 fun p hp => (h.2 p hp).read

end Go.Proofs.Ytlkenhfhnpohhaa

/- A list of deeds is copied; one more is put behind it. -/
namespace Go.Proofs.Ytlkenhfhnpohhaa
open Go.RowKit

theorem copy_want (W : World) (v : Value) (n : Nat) (xs : List Value) (h : W.ownsRow 0 47 1 v n xs) (hx : ∀ x ∈ xs, x.oneCell' = true) (hn : n ≤ 1000) (base : Nat) (hb : base ≤ W.heap.size) :
  ∃ o k W', (Builtin.append_ #[33, 33] 33 #[.slice none 0 0, v]).run Try.prog W = .ok (.slice o n k) W' ∧ W'.ownsRow base 47 1 (.slice o n k) n xs ∧ Below W.heap.size W W' := by
 obtain ⟨j0, hj, hy0, hy1, hy2⟩ := info_got Try.infoOpsM
 have hnil : ∀ b, W.ownsRow b 47 1 (.slice none 0 0) 0 [] := fun b => World.ownsRow_nil _ _ _ _
 by_cases h0 : n = 0
 ·subst h0
  obtain rfl : xs = [] := List.eq_nil_of_length_eq_zero (by simpa using h.1)
  rcases h.2 with ⟨rfl, -⟩ | ⟨g, cap, cur, rfl, -, hg, -⟩
  ·exact ⟨none, 0, W, run_append_owned_none W 0 33 33 47 j0 1 (by kernel_rfl) hj (.slice none 0 0) 0 [] (hnil 0), hnil _, Below.refl _ _⟩
  ·obtain ⟨v', W', hr, hown, hg', hv⟩ := run_append_own (P := Try.prog) W W.heap.size 33 33 47 j0 _ 1 24 (by kernel_rfl) hj hy0 hy1 hy2 rfl (by decide) (.slice none 0 0) 0 [] (hnil _) ⟨g, 0, none⟩ 0 cap [] (by simp) (fun j u hu => by simp at hu) (fun u hu => by cases hu) (by unfold maxLen; omega) (by omega) (Nat.le_refl _)
   obtain ⟨o, c, rfl, -⟩ := owns_form hown
   rw [Nat.zero_add] at hr hown
   refine ⟨o, c, W', hr, ownsLess hown hb, ⟨hg'.os, hg'.tape, hg'.output, hg'.size, fun k hk => hg'.block k hk (fun e => by cases e)⟩⟩
 ·obtain ⟨o, c, rfl, -⟩ := owns_form h
  obtain ⟨b, rfl, -, -, hc⟩ := owns_at h (by omega)
  have hlen : xs.length = n := by simpa using h.1
  obtain ⟨v', W', hr, hown, hg', hv⟩ := run_append_own (P := Try.prog) W W.heap.size 33 33 47 j0 _ 1 24 (by kernel_rfl) hj hy0 hy1 hy2 rfl (by decide) (.slice none 0 0) 0 [] (hnil _) ⟨b, 0, none⟩ n c xs (by rw [hlen]; omega) (fun j u hu => by rw [Go.WideShapes.add_plain]; exact hc j u hu) hx (by unfold maxLen; omega) (by omega) (Nat.le_refl _)
  obtain ⟨o, c', rfl, -⟩ := owns_form hown
  rw [Nat.zero_add] at hr hown
  rw [List.nil_append] at hown
  exact ⟨o, c', W', hr, ownsLess hown hb, ⟨hg'.os, hg'.tape, hg'.output, hg'.size, fun k hk => hg'.block k hk (fun e => by cases e)⟩⟩

theorem put_want (W : World) (base : Nat) (o : Option Addr) (n k : Nat) (xs : List Value) (h : W.ownsRow base 47 1 (.slice o n k) n xs) (hb : base ≤ W.heap.size) (B : Nat) (x : Value) (hB : W.cell? ⟨B, 0, none⟩ = some x) (hx : x.oneCell' = true) (hn : n ≤ 1000) :
  ∃ o' k' W', (Builtin.append_ #[33, 33] 33 #[.slice o n k, .slice (some ⟨B, 0, none⟩) 1 1]).run Try.prog W = .ok (.slice o' (n + 1) k') W' ∧ W'.ownsRow base 47 1 (.slice o' (n + 1) k') (n + 1) (xs ++ [x]) ∧ Below base W W' := by
 obtain ⟨j0, hj, hy0, hy1, hy2⟩ := info_got Try.infoOpsM
 obtain ⟨v', W', hr, hown, hg', hv⟩ := run_append_own (P := Try.prog) W base 33 33 47 j0 _ 1 24 (by kernel_rfl) hj hy0 hy1 hy2 rfl (by decide) (.slice o n k) n xs h ⟨B, 0, none⟩ 1 1 [x] (by simp) (fun j u hu => by
  obtain rfl : j = 0 := by
   have := (List.getElem?_eq_some_iff.1 hu).1
   simp at this; exact this
  obtain rfl : x = u := by simpa using hu
  rw [Go.WideShapes.add_plain]
  exact hB) (fun u hu => by rw [List.mem_singleton] at hu; rw [hu]; exact hx) (by unfold maxLen; omega) (by omega) hb
 obtain ⟨o', c', rfl, -⟩ := owns_form hown
 refine ⟨o', c', W', hr, hown, ⟨hg'.os, hg'.tape, hg'.output, hg'.size, fun i hi => hg'.block i (by omega) (fun e => ?_)⟩⟩
 rcases h.2 with ⟨e', -⟩ | ⟨g, cap, cur, e', hbg, -⟩
 ·rw [e'] at e; cases e
 ·rw [e'] at e
  simp only [Value.ownBlock, Option.some.injEq] at e
  omega

def rowD : Nat → List Nat
 | 1 => [0]
 | 4 => [2, 3]
 | 5 => [4]
 | 6 => [5]
 | 7 => [1, 6]
 | 8 => [7]
 | _ => []

def rowS (base n : Nat) (xs : List Value) (x : Value) (fl : Bool) (i : Nat) (c : Nat → Value) (W : World) : Prop :=
 (i = 1 → fl = false → ∃ o k, c 1 = .slice o n k ∧ W.ownsRow base 47 1 (.slice o n k) n xs) ∧
 (i = 6 → fl = false → ∃ B, c 6 = .slice (some ⟨B, 0, none⟩) 1 1 ∧ W.cell? ⟨B, 0, none⟩ = some x ∧ B < W.heap.size) ∧
 (i = 7 → ∃ o k, c 7 = .slice o (n + 1) k ∧ W.ownsRow base 47 1 (.slice o (n + 1) k) (n + 1) (xs ++ [x])) ∧
 (i = 8 → c 8 = c 7)

theorem rowS_p {base n : Nat} {xs : List Value} {x : Value} {fl : Bool} {i : Nat} {c : Nat → Value} {W : World} (h1 : i ≠ 1) (h6 : i ≠ 6) (h7 : i ≠ 7) (h8 : i ≠ 8) : rowS base n xs x fl i c W := ⟨fun e => absurd e h1, fun e => absurd e h6, fun e => absurd e h7, fun e => absurd e h8⟩

end Go.Proofs.Ytlkenhfhnpohhaa

/- The log under a walk: what is known of it while deeds go in, and what behind a fall. -/
namespace Go.Proofs.Ytlkenhfhnpohhaa
open Go.RowKit

structure WalI (E : Dsk) (en : Nat) (ws : List (List OpV)) : Prop where
 well : Well E 60 0
 clean : Clean E
 up : E.down = false
 ds : (saysL 5 1 59 (cont E)).ds = ws
 e : (saysL 5 1 59 (cont E)).e = en

structure WalZ (E : Dsk) (ws ls : List (List OpV)) : Prop where
 well : ∃ k, Well E 60 k
 ds : ∀ c : Nat → List UInt8, (∀ j, poss E j (c j)) → (saysL 5 1 59 c).ds = ws ∨ (saysL 5 1 59 c).ds = ls

theorem WalI.en_le {E : Dsk} {en : Nat} {ws : List (List OpV)} (h : WalI E en ws) : en ≤ 59 := (says_from h.ds h.e).1

theorem WalI.full {E : Dsk} {en : Nat} {ws ls : List (List OpV)} (h : WalI E en ws) : WalZ E ws ls where
 well := ⟨0, h.well⟩
 ds := fun c hc => by
  obtain rfl : c = cont E := funext fun j => h.clean j _ (hc j)
  exact .inl h.ds

theorem addF_nought {os : List OpV} {r : Nat} (h : addF os r = 0) : os.length ≤ 12 ∧ os.length < r ∧ packF os = 0 := by
 unfold addF at h
 split at h
 ·cases h
 ·split at h
  ·cases h
  ·exact ⟨by omega, by omega, h⟩

theorem WalI.added {E : Dsk} {en : Nat} {ws : List (List OpV)} {os : List OpV} (h : WalI E en ws) (hf : addF os (59 - en) = 0) (ht : (addD 5 1 en 59 os E).2 = true) : WalI (addD 5 1 en 59 os E).1 (en + os.length + 1) (ws ++ [os]) := by
 obtain ⟨h1, h2, h3, h4, h5⟩ := (addD_facts h.well (by omega) (addF_nought hf).2.1 (packF_all (addF_nought hf).2.2) h.ds h.e).1 ht
 exact ⟨h3, h2, h1.trans h.up, h4, h5⟩

theorem WalI.fell {E : Dsk} {en : Nat} {ws : List (List OpV)} {os : List OpV} (h : WalI E en ws) (hf : addF os (59 - en) = 0) (ht : (addD 5 1 en 59 os E).2 = false) : WalZ (addD 5 1 en 59 os E).1 ws (ws ++ [os]) :=
 ⟨⟨_, addD_well h.well⟩, (addD_facts h.well (by omega) (addF_nought hf).2.1 (packF_all (addF_nought hf).2.2) h.ds h.e).2 h.clean ht⟩

def backD (E : Dsk) (keep : Int) : Dsk := { E.settled keep with left := -1, down := false }

theorem WalZ.back {E : Dsk} {ws ls : List (List OpV)} (h : WalZ E ws ls) (keep : Int) : ∃ gs en, (gs = ws ∨ gs = ls) ∧ WalI (backD E keep) en gs ∧ Free (backD E keep) := by
 have hs : (backD E keep).secs = (E.settled keep).secs := rfl
 have hc : ∀ j, cont (backD E keep) j = cont (E.settled keep) j := cont_same hs
 obtain ⟨k, hw⟩ := h.well
 refine ⟨_, _, ?_, ⟨?_, clean_same hs (settled_isClean keep E), rfl, rfl, rfl⟩, restart_free E keep⟩
 ·rw [show cont (backD E keep) = cont (E.settled keep) from funext hc]
  exact h.ds _ fun j => settled_poss keep E j
 ·have := settled_well hw keep
  exact ⟨this.len, this.num, this.few, this.apart, this.bits⟩

theorem says_noughts : (saysL 5 1 59 fun _ => noughtB 64).ds = [] ∧ (saysL 5 1 59 fun _ => noughtB 64).e = 0 := ⟨by kernel_rfl, by kernel_rfl⟩

theorem walI_new : WalI (newD 60) 0 [] := by
 have hc : cont (newD 60) = fun _ => noughtB 64 := funext fun j => cont_newD 60 j
 have hl : ∀ s ∈ (newD 60).secs, s.loose = [] := fun s hs => by
  obtain rfl : s = sec0 := (List.mem_replicate.1 hs).2
  rfl
 exact ⟨newD_well 60, clean_of_loose hl, rfl, by rw [hc]; exact says_noughts.1, by rw [hc]; exact says_noughts.2⟩

theorem walI_arm {E : Dsk} {en : Nat} {ws : List (List OpV)} (h : WalI E en ws) (n : Int) : WalI { E with left := n } en ws :=
 ⟨⟨h.well.len, h.well.num, h.well.few, h.well.apart, h.well.bits⟩, h.clean, h.up, h.ds, h.e⟩

end Go.Proofs.Ytlkenhfhnpohhaa

/- Values by their numbers; operations that have come up. -/
namespace Go.Proofs.Ytlkenhfhnpohhaa
open Go.RowKit

def upd (c : Nat → Value) (i : Nat) (v : Value) : Nat → Value := fun j => if j = i then v else c j

theorem upd_self (c : Nat → Value) (i : Nat) (v : Value) : upd c i v i = v := if_pos rfl

theorem upd_ne (c : Nat → Value) {i j : Nat} (v : Value) (h : j ≠ i) : upd c i v j = c j := if_neg h

theorem listed_not {L : Array Bool} {i : Nat} (h : L.getD i true = false) : ¬ L.getD i false = true := fun h' => by
 by_cases hl : i < L.size
 ·simp [hl] at h h'; rw [h] at h'; cases h'
 ·simp [Array.getElem?_eq_none (Nat.le_of_not_lt hl)] at h'

theorem listed_old {L : Array Bool} {i j : Nat} (hne : i ≠ j) (h : (L.setIfInBounds i true).getD j false = true) : L.getD j false = true := by rwa [getD_set_ne false hne] at h

theorem listed_new {L : Array Bool} {i : Nat} (h : L.getD i true = false) : (L.setIfInBounds i true).getD i false = true := by
 have hl : i < L.size := by
  by_cases hl : i < L.size
  ·exact hl
  ·simp [Array.getElem?_eq_none (Nat.le_of_not_lt hl)] at h
 simp [hl]

end Go.Proofs.Ytlkenhfhnpohhaa
