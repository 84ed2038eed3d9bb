/- The reference: are two lists of deeds the same? -/
import Derived.Test.YtlkenhfhnpohhaaWaP
namespace Go.Proofs.Ytlkenhfhnpohhaa
open Go.RowKit

def opsD (dss : List (Value × List OpC)) : List (List OpV) := dss.map fun p => p.2.map (·.o)

theorem OpsN.at {w : World} {v : Value} {os : List OpC} (h : OpsN w v os) {j : Nat} {q : OpC} (hq : os[j]? = some q) : ∃ b off cap, v = .slice (some ⟨b, off, none⟩) os.length cap ∧ b < w.heap.size ∧ w.cell? ⟨b, off + j * 4, none⟩ = some (.int .i64 q.o.kind) ∧ w.cell? ⟨b, off + j * 4 + 1, none⟩ = some (.string q.o.name) ∧ w.cell? ⟨b, off + j * 4 + 2, none⟩ = some (.int .i64 q.o.n) ∧ w.cell? ⟨b, off + j * 4 + 3, none⟩ = some q.row ∧ RowS w q.row q.o.v ∧ ∀ w', Below w.heap.size w w' → RowS w' q.row q.o.v := by
 obtain ⟨ao, cap, rfl, -, hh⟩ := h
 have hj := (List.getElem?_eq_some_iff.1 hq).1
 obtain ⟨b, off, rfl, hlt, hc⟩ := hh (by omega)
 obtain ⟨a0, a1, a2, a3, a4⟩ := hc j q hq
 exact ⟨b, off, cap, rfl, hlt, a0, a1, a2, a3, a4, fun w' hb => a4.below hb (Nat.le_refl _)⟩

theorem OpsN.form {w : World} {v : Value} {os : List OpC} (h : OpsN w v os) : ∃ o c, v = .slice o os.length c := by
 obtain ⟨ao, cap, e, -⟩ := h
 exact ⟨ao, cap, e⟩

theorem opsD_at {A : List (Value × List OpC)} {i : Nat} {p : Value × List OpC} (h : A[i]? = some p) : (opsD A)[i]? = some (p.2.map (·.o)) := by
 unfold opsD
 rw [List.getElem?_map, h]
 rfl

set_option linter.unusedSimpArgs false in
set_option maxRecDepth 100000 in
set_option maxHeartbeats 1600000 in
theorem sameDeeds_any (w : World) (va vb : Value) (A B : List (Value × List OpC)) (ha : DeedsN w va A) (hb : DeedsN w vb B) (hl : shortD A) (r : Bool) (hr : r = true ↔ opsD A = opsD B) :
  Calls Try.prog 14 #[va, vb] w fun e w' => e = .returned (.bool r) ∧ Below w.heap.size w w' := by
 have HA := hide ha; have HB := hide hb; have HR := hide hr; have HS := hide hl
 obtain ⟨ao, acap, rfl, -⟩ := id ha
 obtain ⟨bo, bcap, rfl, -⟩ := id hb
 obtain ⟨n, hn⟩ : ∃ n, A.length = n := ⟨_, rfl⟩
 obtain ⟨m, hm⟩ : ∃ m, B.length = m := ⟨_, rfl⟩
 rw [hn, hm]
 have HN := hide hn; have HM := hide hm
 have hn1000 : n ≤ 1000 := by have := hl.1; omega
 clear ha hb hl
 by_cases hnm : n = m
 ·subst hnm
  have gn : ((n : Int) != (n : Int)) = false := by simp
  clear hn hm hr
  go_enter Try.func14, Try.ntmps14
  go_wp2_with fail
  clear gn
  go_loopw [5] (fun ix wr => ∃ i : Nat, i ≤ n ∧ ix = .int .i64 i ∧ Hid (∀ t, t < i → (opsD A)[t]? = (opsD B)[t]?) ∧ Hid (Below w.heap.size w wr)) (fun ix _ => n - (intOf ix).toNat)
  case atStart => exact ⟨0, Nat.zero_le _, rfl, hide (fun t ht => absurd ht (by omega)), Below.refl _ _⟩
  case round =>
   obtain ⟨i, hi, rfl, HPRE, HBW⟩ := hrel
   by_cases hil : i < n
   ·have hiA : i < A.length := by rw [HN.out]; exact hil
    have hiB : i < B.length := by rw [HM.out]; exact hil
    obtain ⟨p, hp⟩ : ∃ p, A[i]? = some p := ⟨_, List.getElem?_eq_getElem hiA⟩
    obtain ⟨q, hq⟩ : ∃ q, B[i]? = some q := ⟨_, List.getElem?_eq_getElem hiB⟩
    obtain ⟨_, _, e, -, hh⟩ := HA.out
    rw [HN.out] at e
    simp only [Value.slice.injEq, true_and] at e
    obtain ⟨rfl, rfl⟩ := e
    obtain ⟨ab, aoff, rfl, l1w, hcA⟩ := hh (by omega)
    obtain ⟨_, _, e, -, hh⟩ := HB.out
    rw [HM.out] at e
    simp only [Value.slice.injEq, true_and] at e
    obtain ⟨rfl, rfl⟩ := e
    obtain ⟨bb, boff, rfl, l2w, hcB⟩ := hh (by omega)
    obtain ⟨d0w, hpo⟩ := hcA i p hp
    obtain ⟨d1w, hqo⟩ := hcB i q hq
    have hpi := opsD_at hp
    have hqi := opsD_at hq
    obtain ⟨pv, pos⟩ := p
    obtain ⟨qv, qos⟩ := q
    dsimp only at d0w d1w hpo hqo hpi hqi
    have hps := (HS.out.2 _ (List.mem_of_getElem? hp)).1
    have hpv := (HS.out.2 _ (List.mem_of_getElem? hp)).2
    dsimp only at hps hpv
    obtain ⟨po, pc, rfl⟩ := hpo.form
    obtain ⟨qo, qc, rfl⟩ := hqo.form
    obtain ⟨pn, hpn⟩ : ∃ k, pos.length = k := ⟨_, rfl⟩
    obtain ⟨qn, hqn⟩ : ∃ k, qos.length = k := ⟨_, rfl⟩
    rw [hpn] at d0w hps
    rw [hqn] at d1w
    have HPO := hide hpo; have HQO := hide hqo; have HPI := hide hpi; have HQI := hide hqi; have HPV := hide hpv; have HPN := hide hpn; have HQN := hide hqn
    have d0 := (HBW.out.cell (p := ⟨ab, aoff + i, none⟩) l1w).trans d0w
    have d1 := (HBW.out.cell (p := ⟨bb, boff + i, none⟩) l2w).trans d1w
    have D0 := hide d0w; have D1 := hide d1w
    clear hh hcA hcB hpo hqo hpi hqi hpv hpn hqn hp hq hiA hiB d0w d1w
    by_cases hlen : pn = qn
    ·subst hlen
     have gp : ((pn : Int) != (pn : Int)) = false := by simp
     go_wp2_with fail
     go_region_held3 (fun w' => w'.cell? ⟨ab, aoff + i, none⟩ = some (.slice po pn pc) ∧ w'.cell? ⟨bb, boff + i, none⟩ = some (.slice qo pn qc)) (go_keep) (fail)
     go_wp2_with fail
     clear gp d0 d1
     have HBD : Hid (Below w.heap.size w wr.drew) := HBW.out.drew
     generalize wr.drew = W0 at *
     go_loopw [6] (fun jx wr => ∃ j : Nat, j ≤ pn ∧ jx = .int .i64 j ∧ Hid (∀ t, t < j → (pos.map (·.o))[t]? = (qos.map (·.o))[t]?) ∧ Hid (Below w.heap.size w wr)) (fun jx _ => pn - (intOf jx).toNat)
     case atStart => exact ⟨0, Nat.zero_le _, rfl, hide (fun t ht => absurd ht (by omega)), HBD⟩
     case round =>
      clear HBD
      obtain ⟨j, hj, rfl, HJ, HBR⟩ := hrel
      have d0 := (HBR.out.cell (p := ⟨ab, aoff + i, none⟩) l1w).trans D0.out
      have d1 := (HBR.out.cell (p := ⟨bb, boff + i, none⟩) l2w).trans D1.out
      by_cases hjl : j < pn
      ·obtain ⟨x, hx⟩ : ∃ x, pos[j]? = some x := ⟨_, List.getElem?_eq_getElem (by rw [HPN.out]; exact hjl)⟩
       obtain ⟨y, hy⟩ : ∃ y, qos[j]? = some y := ⟨_, List.getElem?_eq_getElem (by rw [HQN.out]; exact hjl)⟩
       obtain ⟨pb, poff, _, e1, l3w, a0, a1, a2, a3, -, hrx⟩ := HPO.out.at hx
       obtain ⟨qb, qoff, _, e2, l4w, b0, b1, b2, b3, -, hry⟩ := HQO.out.at hy
       simp only [Value.slice.injEq, true_and] at e1 e2
       obtain ⟨rfl, rfl⟩ := e1
       obtain ⟨rfl, rfl⟩ := e2
       have hxl := HPV.out x (List.mem_of_getElem? hx)
       have hxi : (pos.map (·.o))[j]? = some x.o := by rw [List.getElem?_map, hx]; rfl
       have hyi : (qos.map (·.o))[j]? = some y.o := by rw [List.getElem?_map, hy]; rfl
       have hxr := hrx wr HBR.out
       have hyr := hry wr HBR.out
       obtain ⟨⟨xk, xn, xd, xv⟩, xvo, xvc⟩ := x
       obtain ⟨⟨yk, yn, yd, yv⟩, yvo, yvc⟩ := y
       simp only [OpC.row] at a3 b3 hxr hyr
       dsimp only at a0 a1 a2 a3 b0 b1 b2 b3 hxl hxi hyi hxr hyr
       have HXR := hide hxr; have HYR := hide hyr; have HXL := hide hxl; have HXI := hide hxi; have HYI := hide hyi
       replace a0 := (HBR.out.cell (p := ⟨pb, poff + j * 4, none⟩) l3w).trans a0
       replace a1 := (HBR.out.cell (p := ⟨pb, poff + j * 4 + 1, none⟩) l3w).trans a1
       replace a2 := (HBR.out.cell (p := ⟨pb, poff + j * 4 + 2, none⟩) l3w).trans a2
       replace a3 := (HBR.out.cell (p := ⟨pb, poff + j * 4 + 3, none⟩) l3w).trans a3
       replace b0 := (HBR.out.cell (p := ⟨qb, qoff + j * 4, none⟩) l4w).trans b0
       replace b1 := (HBR.out.cell (p := ⟨qb, qoff + j * 4 + 1, none⟩) l4w).trans b1
       replace b2 := (HBR.out.cell (p := ⟨qb, qoff + j * 4 + 2, none⟩) l4w).trans b2
       replace b3 := (HBR.out.cell (p := ⟨qb, qoff + j * 4 + 3, none⟩) l4w).trans b3
       have l1 := Nat.lt_of_lt_of_le l1w HBR.out.size
       have l2 := Nat.lt_of_lt_of_le l2w HBR.out.size
       have l3 := Nat.lt_of_lt_of_le l3w HBR.out.size
       have l4 := Nat.lt_of_lt_of_le l4w HBR.out.size
       clear hx hy hrx hry hxl hxi hyi hxr hyr
       go_wp2_with fail
       refine wp_region_held_drew (S := (fun w' => w'.cell? ⟨ab, aoff + i, none⟩ = some (.slice (some ⟨pb, poff, none⟩) pn pc) ∧ w'.cell? ⟨bb, boff + i, none⟩ = some (.slice (some ⟨qb, qoff, none⟩) pn qc) ∧ w'.cell? ⟨pb, poff + j * 4, none⟩ = some (.int .i64 xk) ∧ w'.cell? ⟨pb, poff + j * 4 + 1, none⟩ = some (.string xn) ∧ w'.cell? ⟨pb, poff + j * 4 + 2, none⟩ = some (.int .i64 xd) ∧ w'.cell? ⟨pb, poff + j * 4 + 3, none⟩ = some (.slice xvo xv.length xvc) ∧ w'.cell? ⟨qb, qoff + j * 4, none⟩ = some (.int .i64 yk) ∧ w'.cell? ⟨qb, qoff + j * 4 + 1, none⟩ = some (.string yn) ∧ w'.cell? ⟨qb, qoff + j * 4 + 2, none⟩ = some (.int .i64 yd) ∧ w'.cell? ⟨qb, qoff + j * 4 + 3, none⟩ = some (.slice yvo yv.length yvc))) (by kernel_rfl) (by (try dsimp only); go_keep) (fun hHeld => ?_)
       refine held_run (v := ?_) 0 39 rfl rfl (by kernel_rfl) (by kernel_rfl) (by kernel_rfl) (fun _ _ _ h => h) (by rfl) ?_ (by assumption) ?_
       rotate_left
       ·(intro w hSw; (try dsimp only at hSw); go_simp; with_reducible rfl)
       simp only [Act.put, List.setIfInBounds_toArray, List.set_cons_zero, List.set_cons_succ]
       refine held_run (v := ?_) 1 40 rfl rfl (by kernel_rfl) (by kernel_rfl) (by kernel_rfl) (fun _ _ _ h => h) (by rfl) ?_ (by assumption) ?_
       rotate_left
       ·(intro w hSw; (try dsimp only at hSw); go_simp; with_reducible rfl)
       simp only [Act.put, List.setIfInBounds_toArray, List.set_cons_zero, List.set_cons_succ]
       refine held_run (v := ?_) 2 41 rfl rfl (by kernel_rfl) (by kernel_rfl) (by kernel_rfl) (fun _ _ _ h => h) (by rfl) ?_ (by assumption) ?_
       rotate_left
       ·(intro w hSw; (try dsimp only at hSw); go_simp; with_reducible rfl)
       simp only [Act.put, List.setIfInBounds_toArray, List.set_cons_zero, List.set_cons_succ]
       refine held_run (v := ?_) 3 42 rfl rfl (by kernel_rfl) (by kernel_rfl) (by kernel_rfl) (fun _ _ _ h => h) (by rfl) ?_ (by assumption) ?_
       rotate_left
       ·(intro w hSw; (try dsimp only at hSw); go_simp; with_reducible rfl)
       simp only [Act.put, List.setIfInBounds_toArray, List.set_cons_zero, List.set_cons_succ]
       refine held_run (v := ?_) 4 43 rfl rfl (by kernel_rfl) (by kernel_rfl) (by kernel_rfl) (fun _ _ _ h => h) (by rfl) ?_ (by assumption) ?_
       rotate_left
       ·(intro w hSw; (try dsimp only at hSw); go_simp; with_reducible rfl)
       simp only [Act.put, List.setIfInBounds_toArray, List.set_cons_zero, List.set_cons_succ]
       refine held_run (v := ?_) 5 44 rfl rfl (by kernel_rfl) (by kernel_rfl) (by kernel_rfl) (fun _ _ _ h => h) (by rfl) ?_ (by assumption) ?_
       rotate_left
       ·(intro w hSw; (try dsimp only at hSw); go_simp; with_reducible rfl)
       simp only [Act.put, List.setIfInBounds_toArray, List.set_cons_zero, List.set_cons_succ]
       refine held_run (v := ?_) 6 45 rfl rfl (by kernel_rfl) (by kernel_rfl) (by kernel_rfl) (fun _ _ _ h => h) (by rfl) ?_ (by assumption) ?_
       rotate_left
       ·(intro w hSw; (try dsimp only at hSw); go_simp; with_reducible rfl)
       simp only [Act.put, List.setIfInBounds_toArray, List.set_cons_zero, List.set_cons_succ]
       refine held_run (v := ?_) 7 46 rfl rfl (by kernel_rfl) (by kernel_rfl) (by kernel_rfl) (fun _ _ _ h => h) (by rfl) ?_ (by assumption) ?_
       rotate_left
       ·(intro w hSw; (try dsimp only at hSw); go_simp; with_reducible rfl)
       simp only [Act.put, List.setIfInBounds_toArray, List.set_cons_zero, List.set_cons_succ]
       refine held_run (v := ?_) 8 47 rfl rfl (by kernel_rfl) (by kernel_rfl) (by kernel_rfl) (fun _ _ _ h => h) (by rfl) ?_ (by assumption) ?_
       rotate_left
       ·(intro w hSw; (try dsimp only at hSw); go_simp; with_reducible rfl)
       simp only [Act.put, List.setIfInBounds_toArray, List.set_cons_zero, List.set_cons_succ]
       refine held_run (v := ?_) 9 48 rfl rfl (by kernel_rfl) (by kernel_rfl) (by kernel_rfl) (fun _ _ _ h => h) (by rfl) ?_ (by assumption) ?_
       rotate_left
       ·(intro w hSw; (try dsimp only at hSw); go_simp; with_reducible rfl)
       simp only [Act.put, List.setIfInBounds_toArray, List.set_cons_zero, List.set_cons_succ]
       refine held_run (v := ?_) 10 49 rfl rfl (by kernel_rfl) (by kernel_rfl) (by kernel_rfl) (fun _ _ _ h => h) (by rfl) ?_ (by assumption) ?_
       rotate_left
       ·(intro w hSw; (try dsimp only at hSw); go_simp; with_reducible rfl)
       simp only [Act.put, List.setIfInBounds_toArray, List.set_cons_zero, List.set_cons_succ]
       refine held_run (v := ?_) 11 50 rfl rfl (by kernel_rfl) (by kernel_rfl) (by kernel_rfl) (fun _ _ _ h => h) (by rfl) ?_ (by assumption) ?_
       rotate_left
       ·(intro w hSw; (try dsimp only at hSw); go_simp; with_reducible rfl)
       simp only [Act.put, List.setIfInBounds_toArray, List.set_cons_zero, List.set_cons_succ]
       refine held_run (v := ?_) 12 51 rfl rfl (by kernel_rfl) (by kernel_rfl) (by kernel_rfl) (fun _ _ _ h => h) (by rfl) ?_ (by assumption) ?_
       rotate_left
       ·(intro w hSw; (try dsimp only at hSw); go_simp; with_reducible rfl)
       simp only [Act.put, List.setIfInBounds_toArray, List.set_cons_zero, List.set_cons_succ]
       refine held_run (v := ?_) 13 52 rfl rfl (by kernel_rfl) (by kernel_rfl) (by kernel_rfl) (fun _ _ _ h => h) (by rfl) ?_ (by assumption) ?_
       rotate_left
       ·(intro w hSw; (try dsimp only at hSw); go_simp; with_reducible rfl)
       simp only [Act.put, List.setIfInBounds_toArray, List.set_cons_zero, List.set_cons_succ]
       refine wpAnyH_ready (rs := [14]) (by kernel_rfl) (by simp) (AllReadyH.cons (o := _) rfl (fun K hK => ?_) AllReadyH.nil)
       go_simp
       (refine (sameOp2_any _ ⟨xk, xn, xd, xv⟩ ⟨yk, yn, yd, yv⟩ xvo yvo xvc yvc (HXR.out.below (Below.refl _ _).drew (Nat.le_refl _)) (HYR.out.below (Below.refl _ _).drew (Nat.le_refl _)) HXL.out).mono ?_; rintro e w5 ⟨rfl, hb5'⟩; have hb5 : Below wr.heap.size wr w5 := (Below.refl _ _).drew.trans (hb5'.mono (by simp)); clear hb5'; have e0 := (hb5.cell (p := ⟨ab, aoff + i, none⟩) l1).trans d0; have e1 := (hb5.cell (p := ⟨bb, boff + i, none⟩) l2).trans d1; have f0 := (hb5.cell (p := ⟨pb, poff + j * 4, none⟩) l3).trans a0; have f1 := (hb5.cell (p := ⟨pb, poff + j * 4 + 1, none⟩) l3).trans a1; have f2 := (hb5.cell (p := ⟨pb, poff + j * 4 + 2, none⟩) l3).trans a2; have f3 := (hb5.cell (p := ⟨pb, poff + j * 4 + 3, none⟩) l3).trans a3; have g0 := (hb5.cell (p := ⟨qb, qoff + j * 4, none⟩) l4).trans b0; have g1 := (hb5.cell (p := ⟨qb, qoff + j * 4 + 1, none⟩) l4).trans b1; have g2 := (hb5.cell (p := ⟨qb, qoff + j * 4 + 2, none⟩) l4).trans b2; have g3 := (hb5.cell (p := ⟨qb, qoff + j * 4 + 3, none⟩) l4).trans b3)
       go_wp2_with fail
       refine hK.out _ _ (by (try dsimp only); go_keep) (fun hHeld => ?_)
       clear hK K
       try simp only [Act.put, List.setIfInBounds_toArray, List.set_cons_zero, List.set_cons_succ]
       refine held_run (v := ?_) 15 7 rfl rfl (by kernel_rfl) (by kernel_rfl) (by kernel_rfl) (fun _ _ _ h => h) (by rfl) ?_ (by assumption) ?_
       rotate_left
       ·(intro w hSw; (try dsimp only at hSw); go_simp; with_reducible rfl)
       simp only [Act.put, List.setIfInBounds_toArray, List.set_cons_zero, List.set_cons_succ]
       refine wpAnyH_done (by kernel_rfl) ?_ _
       have HB5 := hide (HBR.out.trans (hb5.mono HBR.out.size))
       clear hb5 e0 e1 f0 f1 f2 f3 g0 g1 g2 g3 a0 a1 a2 a3 b0 b1 b2 b3 d0 d1
       cases hso : sameO ⟨xk, xn, xd, xv⟩ ⟨yk, yn, yd, yv⟩ with
       | true =>
        have HEQ : Hid ((⟨xk, xn, xd, xv⟩ : OpV) = ⟨yk, yn, yd, yv⟩) := sameO_iff.1 hso
        clear hso
        go_wp2
        go_roundw
        case rel => exact ⟨j + 1, by omega, by go_num, hide (fun t ht => by
         by_cases htj : t = j
         ·rw [htj, HXI.out, HYI.out, HEQ.out]
         ·exact HJ.out t (by omega)), HB5⟩
        case measure => simp [intOf]; omega
       | false =>
        have HF : Hid (r = false) := by
         cases hrr : r with
         | false => rfl
         | true =>
          have h1 := HR.out.1 hrr
          have h2 := HPI.out
          rw [h1, HQI.out] at h2
          have h3 := Option.some.inj h2
          have h4 := HYI.out
          rw [h3, HXI.out] at h4
          have h5 := sameO_iff.2 (Option.some.inj h4)
          rw [hso] at h5
          cases h5
        obtain rfl := HF.out
        clear hso
        go_wp2
        go_ret
        exact ⟨rfl, HB5.out⟩
      ·obtain rfl : j = pn := by omega
       have HEQ : Hid (pos.map (·.o) = qos.map (·.o)) := List.ext_getElem? fun t => by
        by_cases ht : t < j
        ·exact HJ.out t ht
        ·rw [List.getElem?_eq_none (by rw [List.length_map, HPN.out]; omega), List.getElem?_eq_none (by rw [List.length_map, HQN.out]; omega)]
       go_wp2
       go_roundw
       case rel => exact ⟨i + 1, by omega, by go_num, hide (fun t ht => by
        by_cases hti : t = i
        ·rw [hti, HPI.out, HQI.out, HEQ.out]
        ·exact HPRE.out t (by omega)), HBR⟩
       case measure => simp [intOf]; omega
    ·have gp : ((pn : Int) != (qn : Int)) = true := by rw [bne_iff_ne]; omega
     have HF : Hid (r = false) := by
      cases hrr : r with
      | false => rfl
      | true =>
       have h1 := HR.out.1 hrr
       have h2 := HPI.out
       rw [h1, HQI.out] at h2
       have h3 := congrArg List.length (Option.some.inj h2)
       rw [List.length_map, List.length_map, HPN.out, HQN.out] at h3
       omega
     obtain rfl := HF.out
     have HBD : Hid (Below w.heap.size w wr.drew) := HBW.out.drew
     clear hlen
     go_wp2_with fail
     go_region_held3 (fun w' => w'.cell? ⟨ab, aoff + i, none⟩ = some (.slice po pn pc) ∧ w'.cell? ⟨bb, boff + i, none⟩ = some (.slice qo qn qc)) (go_keep) (fail)
     go_wp2
     go_ret
     exact ⟨rfl, HBD.out⟩
   ·obtain rfl : i = n := by omega
    have HT : Hid (r = true) := HR.out.2 (List.ext_getElem? fun t => by
     by_cases ht : t < i
     ·exact HPRE.out t ht
     ·rw [List.getElem?_eq_none (by unfold opsD; rw [List.length_map, HN.out]; omega), List.getElem?_eq_none (by unfold opsD; rw [List.length_map, HM.out]; omega)])
    obtain rfl := HT.out
    go_wp2
    go_ret
    exact ⟨rfl, HBW.out⟩
 ·have gn : ((n : Int) != (m : Int)) = true := by rw [bne_iff_ne]; omega
  have hf : r = false := by
   cases hrr : r with
   | false => rfl
   | true =>
    have := congrArg List.length (hr.1 hrr)
    unfold opsD at this
    rw [List.length_map, List.length_map] at this
    omega
  subst hf
  clear hn hm hr hnm HR
  go_enter Try.func14, Try.ntmps14
  go_wp2
  go_ret
  exact ⟨rfl, Below.refl _ _⟩

end Go.Proofs.Ytlkenhfhnpohhaa
