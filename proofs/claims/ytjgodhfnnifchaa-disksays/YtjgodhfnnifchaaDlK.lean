/- DiskSays: the walk. -/
import Derived.Test.YtjgodhfnnifchaaDlJ
namespace Go.Proofs.Ytjgodhfnnifchaa
open Go.RowKit

/-- What is light is light for all that the acts have. -/
theorem acts_link {w : World} {v : Value} {al : List (Int × ByteArray)} {bl : List ActC} (ha : ActsAt w v al) (hc : ActsC w v bl) (hl : al.length ≤ 100) (hs : ∀ p ∈ al, p.2.size ≤ 100) : bl.length ≤ 100 ∧ ∀ p ∈ bl, p.s.size ≤ 100 := by
  obtain ⟨ao, cap, rfl, -, ha⟩ := ha
  obtain ⟨ao', cap', e, -, hc⟩ := hc
  simp only [Value.slice.injEq] at e
  obtain ⟨rfl, hn, rfl⟩ := e
  refine ⟨by omega, fun p hp => ?_⟩
  obtain ⟨i, hi, rfl⟩ := List.getElem_of_mem hp
  obtain ⟨b, off, rfl, -, ha⟩ := ha (by omega)
  obtain ⟨b', off', e, -, hc⟩ := hc (by omega)
  cases e
  obtain ⟨-, h2, -⟩ := ha i al[i] (List.getElem?_eq_getElem (by omega))
  have h3 := (hc i bl[i] (List.getElem?_eq_getElem hi)).2 2 (.string bl[i].s) rfl
  rw [h2] at h3
  simp only [Option.some.injEq, Value.string.injEq] at h3
  rw [← h3]
  exact hs _ (List.getElem_mem (by omega))

set_option linter.unusedSimpArgs false in
set_option maxRecDepth 100000 in
set_option maxHeartbeats 3200000 in
theorem says_any (w : World) (n : Int) (v : Value) (al : List (Int × ByteArray)) (bl : List ActC) (ha : ActsAt w v al) (hc : ActsC w v bl) :
    Calls Try.prog 3 #[.int .i64 n, v] w fun e w' => e = .returned (.bool true) ∧ Below w.heap.size w w' := by
  have HA := hide ha; have HC := hide hc
  clear ha hc
  go_enter Try.func3, Try.ntmps3
  go_wp2_with fail
  refine (spins_ok w).mono ?_
  rintro e w0 ⟨rfl, hb0⟩
  have HB0 := hide hb0
  clear hb0
  go_wp2_with fail
  refine (lightActs_any w0 v al 100 (HA.out.below HB0.out (Nat.le_refl _)) (by decide)).mono ?_
  rintro e w1 ⟨b, rfl, hl, hb1⟩
  have HB1 := hide (belowTrans HB0.out hb1 HB0.out.size)
  clear hb1 HB0
  cases b with
  | false =>
    clear hl
    go_wp2
    go_ret
    exact ⟨rfl, HB1.out⟩
  | true =>
    have HL := hide (acts_link HA.out HC.out (hl rfl).1 (hl rfl).2)
    have hll := HL.out.1
    clear hl
    go_wp2_with fail
    by_cases hn : 1 ≤ n ∧ n ≤ 200
    · obtain ⟨m, rfl⟩ := Int.eq_ofNat_of_zero_le (show 0 ≤ n by omega)
      refine (new_ok w1 m (by omega) (by omega)).mono ?_
      rintro e w2 ⟨rfl, hd2, hb2⟩
      have HD2 := hide hd2; have HB2 := hide hb2
      clear hd2 hb2
      go_wp2_with fail
      refine (newR_ok w2 m (by omega) (by omega)).mono ?_
      rintro e w3 ⟨rfl, hr3, hb3⟩
      have HBO := hide (Both.new m HB1.out HD2.out HB2.out hr3 hb3)
      clear hr3 hb3 HD2 HB2 HB1
      generalize w1.heap.size = b1 at *
      generalize w2.heap.size = b2 at *
      go_wp2_with fail
      refine (sectors_any w3 b1 b1 (newD m) HBO.out.disk).mono ?_
      rintro e w4 ⟨rfl, hb4⟩
      have HBP := hide (HBO.out.later hb4)
      clear hb4 HBO
      have hlm : (newD m).secs.length = m := by simp [newD]
      rw [hlm]
      go_wp2
      obtain ⟨ao, capv, rfl, hcv, -⟩ := HC.out
      go_loopw [10] (fun x wr => ∃ (i k : Nat) (D : Dsk) (R : RD), i ≤ bl.length ∧ k ≤ i ∧ x = .int .i64 i ∧ Hid (Both w wr b1 b2 m k D R)) (fun x _ => bl.length - (intOf x).toNat)
      case atStart => exact ⟨0, 0, _, _, Nat.zero_le _, Nat.le_refl _, rfl, HBP⟩
      case round =>
        clear HBP
        obtain ⟨i, k, D, R, hi, hk, rfl, HB⟩ := hrel
        by_cases hil : i < bl.length
        · have g1 : decide ((i : Int) < (bl.length : Int)) = true := decide_eq_true (by omega)
          obtain ⟨ao', capv', e', -, hcell⟩ := (HC.out.below HB.out.below (Nat.le_refl _))
          obtain ⟨b, off, hao, hlt, hcc⟩ := hcell (by omega)
          obtain rfl : ao = ao' := by cases e'; rfl
          subst hao
          obtain ⟨hok, hcs⟩ := hcc i bl[i] (List.getElem?_eq_getElem hil)
          have hps : bl[i].s.size ≤ 100 := HL.out.2 _ (List.getElem_mem hil)
          generalize bl[i] = p at *
          have HLD : Hid ((loadVar 41 ⟨b, off + i * 9, none⟩).run Try.prog wr = .ok (.agg p.cells.toArray) wr) := run_loadA wr 41 b (off + i * 9) p.cells _ Try.underlying41 rfl (by rw [hok.size]; exact Try.sizeAct) (fun j u hu => hcs j u hu)
          have HSV := hide (run_storeVar_new (P := Try.prog) wr 41 actZ p.cells.toArray (by rw [List.size_toArray, hok.size]; exact Try.sizeAct) (by rw [show p.cells.toArray.size = 9 by rw [List.size_toArray, hok.size]]; rfl) hok.all)
          have HAB : Hid (ActB (wr.alloc (.cells p.cells.toArray 41)) wr.heap.size p) := heap_alloc_new wr _
          have HBA := hide (HB.out.later ((Below.refl _ _).alloc (Nat.le_refl _) (.cells p.cells.toArray 41)))
          obtain ⟨ca0, ca1, ca2, ca3⟩ := HAB.out.cells
          have hok2 := hok
          have HOK := hide hok2
          clear hcell hcc e' hcs hok hok2 HB
          have hab : wr.heap.size < (wr.alloc (.cells p.cells.toArray 41)).heap.size := by simp
          have hka : k ≤ 1000000 := by omega
          by_cases q1 : p.kind.toList = [119, 114, 105, 116, 101]
          · go_wp2_with (show wpList _ _ _ ({ dst := some 71, op := _, type := _, pos := _, after := _, guard := _ } :: _) _ _; refine wpList_loadA rfl 71 rfl (.tmp 70) 41 rfl ⟨b, off + i * 9, none⟩ _ rfl HLD.out ?_; refine wpList_allocA rfl 11 rfl 41 rfl _ _ (run_zero_act wr) ?_; refine wpList_storeA rfl (.tmp 11) (.tmp 71) 41 rfl rfl ⟨wr.heap.size, 0, none⟩ _ _ rfl rfl HSV.out ?_; simp only [Act.put, List.setIfInBounds_toArray, List.set_cons_zero, List.set_cons_succ])
            have HBD := hide (HBA.out.later (Below.refl _ _).drew)
            have HAD := hide (HAB.out.later (Below.refl _ _).drew)
            clear HBA HAB ca0 ca1 ca2 ca3 HSV HLD
            obtain ⟨-, ca1, ca2, -⟩ := HAD.out.cells
            have CA := hide (And.intro ca1 ca2)
            clear ca1 ca2
            refine upto_start (S := (fun w' => w'.cell? ⟨wr.heap.size, 1, none⟩ = some (.int .i64 p.a) ∧ w'.cell? ⟨wr.heap.size, 2, none⟩ = some (.string p.s))) (k := 14) (by kernel_rfl) (by exact CA.out) (fun hHeld => ?_)
            refine upto_run (v := ?_) 0 84 [] rfl rfl (by kernel_rfl) (by kernel_rfl) (by kernel_rfl) (by kernel_rfl) (by kernel_rfl) (fun _ _ _ h => h) (by rfl) ?_ (by assumption) ?_
            rotate_left
            · (intro w hSw; (try dsimp only at hSw); obtain ⟨hS1, hS2⟩ := hSw; go_simp; with_reducible rfl)
            simp only [Act.put, List.setIfInBounds_toArray, List.set_cons_zero, List.set_cons_succ]
            refine upto_run (v := ?_) 1 85 [] rfl rfl (by kernel_rfl) (by kernel_rfl) (by kernel_rfl) (by kernel_rfl) (by kernel_rfl) (fun _ _ _ h => h) (by rfl) ?_ (by assumption) ?_
            rotate_left
            · (intro w hSw; (try dsimp only at hSw); obtain ⟨hS1, hS2⟩ := hSw; go_simp; with_reducible rfl)
            simp only [Act.put, List.setIfInBounds_toArray, List.set_cons_zero, List.set_cons_succ]
            refine upto_run (v := ?_) 2 86 [] rfl rfl (by kernel_rfl) (by kernel_rfl) (by kernel_rfl) (by kernel_rfl) (by kernel_rfl) (fun _ _ _ h => h) (by rfl) ?_ (by assumption) ?_
            rotate_left
            · (intro w hSw; (try dsimp only at hSw); obtain ⟨hS1, hS2⟩ := hSw; go_simp; with_reducible rfl)
            simp only [Act.put, List.setIfInBounds_toArray, List.set_cons_zero, List.set_cons_succ]
            refine upto_run (v := ?_) 3 87 [] rfl rfl (by kernel_rfl) (by kernel_rfl) (by kernel_rfl) (by kernel_rfl) (by kernel_rfl) (fun _ _ _ h => h) (by rfl) ?_ (by assumption) ?_
            rotate_left
            · (intro w hSw; (try dsimp only at hSw); obtain ⟨hS1, hS2⟩ := hSw; go_simp; with_reducible rfl)
            simp only [Act.put, List.setIfInBounds_toArray, List.set_cons_zero, List.set_cons_succ]
            refine upto_run (v := ?_) 4 88 [] rfl rfl (by kernel_rfl) (by kernel_rfl) (by kernel_rfl) (by kernel_rfl) (by kernel_rfl) (fun _ _ _ h => h) (by rfl) ?_ (by assumption) ?_
            rotate_left
            · (intro w hSw; (try dsimp only at hSw); obtain ⟨hS1, hS2⟩ := hSw; go_simp; with_reducible rfl)
            simp only [Act.put, List.setIfInBounds_toArray, List.set_cons_zero, List.set_cons_succ]
            refine upto_run (v := ?_) 6 90 [] rfl rfl (by kernel_rfl) (by kernel_rfl) (by kernel_rfl) (by kernel_rfl) (by kernel_rfl) (fun _ _ _ h => h) (by rfl) ?_ (by assumption) ?_
            rotate_left
            · (intro w hSw; (try dsimp only at hSw); obtain ⟨hS1, hS2⟩ := hSw; go_simp; with_reducible rfl)
            simp only [Act.put, List.setIfInBounds_toArray, List.set_cons_zero, List.set_cons_succ]
            refine upto_run (v := ?_) 7 91 [] rfl rfl (by kernel_rfl) (by kernel_rfl) (by kernel_rfl) (by kernel_rfl) (by kernel_rfl) (fun _ _ _ h => h) (by rfl) ?_ (by assumption) ?_
            rotate_left
            · (intro w hSw; (try dsimp only at hSw); obtain ⟨hS1, hS2⟩ := hSw; go_simp; with_reducible rfl)
            simp only [Act.put, List.setIfInBounds_toArray, List.set_cons_zero, List.set_cons_succ]
            refine upto_run (v := ?_) 8 92 [] rfl rfl (by kernel_rfl) (by kernel_rfl) (by kernel_rfl) (by kernel_rfl) (by kernel_rfl) (fun _ _ _ h => h) (by rfl) ?_ (by assumption) ?_
            rotate_left
            · (intro w hSw; (try dsimp only at hSw); obtain ⟨hS1, hS2⟩ := hSw; go_simp; with_reducible rfl)
            simp only [Act.put, List.setIfInBounds_toArray, List.set_cons_zero, List.set_cons_succ]
            refine upto_run (v := ?_) 9 93 [] rfl rfl (by kernel_rfl) (by kernel_rfl) (by kernel_rfl) (by kernel_rfl) (by kernel_rfl) (fun _ _ _ h => h) (by rfl) ?_ (by assumption) ?_
            rotate_left
            · (intro w hSw; (try dsimp only at hSw); obtain ⟨hS1, hS2⟩ := hSw; go_simp; with_reducible rfl)
            simp only [Act.put, List.setIfInBounds_toArray, List.set_cons_zero, List.set_cons_succ]
            refine upto_run (v := ?_) 10 94 [] rfl rfl (by kernel_rfl) (by kernel_rfl) (by kernel_rfl) (by kernel_rfl) (by kernel_rfl) (fun _ _ _ h => h) (by rfl) ?_ (by assumption) ?_
            rotate_left
            · (intro w hSw; (try dsimp only at hSw); obtain ⟨hS1, hS2⟩ := hSw; go_simp; with_reducible rfl)
            simp only [Act.put, List.setIfInBounds_toArray, List.set_cons_zero, List.set_cons_succ]
            refine upto_one 5 (by kernel_rfl) rfl (fun K hK => ?_)
            go_simp
            refine (put_any _ b1 b1 D m k p.a p.s HBD.out.disk HBD.out.well hka (by omega) (by omega) HBD.out.b1.2).mono ?_
            rintro e x1 ⟨rfl, hd1, hk1⟩
            have HD1 := hide hd1
            have HK1 := hide hk1
            clear hd1 hk1 hHeld CA
            have HA1 := hide (HAD.out.kept HK1.out)
            obtain ⟨-, ca1, ca2, -⟩ := HA1.out.cells
            have CA := hide (And.intro ca1 ca2)
            clear ca1 ca2
            go_wp2_with fail
            refine hK.out _ _ (fun _ => CA.out) ?_
            clear hK K
            try simp only [Act.put, List.setIfInBounds_toArray, List.set_cons_zero, List.set_cons_succ]
            refine upto_one 11 (by kernel_rfl) rfl (fun K hK => ?_)
            go_simp
            refine (put_ref _ b2 b2 R p.a p.s (HBD.out.ref.beside HK1.out) (Nat.le_trans HBD.out.wait hka) (Nat.le_trans HBD.out.b2.2 HK1.out.size)).mono ?_
            rintro e x2 ⟨rfl, hr2, hk2⟩
            have HE := hide (HBD.out.put p.a p.s HD1.out HK1.out hr2 hk2)
            clear hr2 CA
            obtain ⟨-, ca1, ca2, -⟩ := (HA1.out.keptR hk2).cells
            have CA := hide (And.intro ca1 ca2)
            clear ca1 ca2 hk2
            go_wp2_with fail
            refine hK.out _ _ (fun _ => CA.out) ?_
            clear hK K
            try simp only [Act.put, List.setIfInBounds_toArray, List.set_cons_zero, List.set_cons_succ]
            refine upto_one 12 (by kernel_rfl) rfl (fun K hK => ?_)
            go_simp
            refine (same_any _ _ (HBD.out.tied.put p.a p.s).2 x2).mono ?_
            rintro e x3 ⟨rfl, hx3⟩
            subst x3
            go_wp2_with fail
            refine hK.out _ _ (fun _ => CA.out) ?_
            clear hK K
            try simp only [Act.put, List.setIfInBounds_toArray, List.set_cons_zero, List.set_cons_succ]
            refine upto_run (v := ?_) 13 12 [] rfl rfl (by kernel_rfl) (by kernel_rfl) (by kernel_rfl) (by kernel_rfl) (by kernel_rfl) (fun _ _ _ h => h) (by rfl) ?_ (by assumption) ?_
            rotate_left
            · (intro w hSw; (try dsimp only at hSw); obtain ⟨hS1, hS2⟩ := hSw; go_simp; with_reducible rfl)
            simp only [Act.put, List.setIfInBounds_toArray, List.set_cons_zero, List.set_cons_succ]
            refine upto_done (by kernel_rfl) ?_
            clear CA HA1 HAD HBD HD1 HK1
            go_wp2_with fail
            obtain ⟨kv9, nv9, wv9, hrm⟩ := HE.out.ref
            obtain ⟨-, -, -, -, dn4, -⟩ := hrm.cells
            rw [HE.out.tied.down] at dn4
            have HDN := hide dn4
            have HF := hide (HE.out.later (Below.refl _ _).drew)
            clear hrm dn4
            have hself : (((putD D p.a p.s).down : Bool) != (putD D p.a p.s).down) = false := bne_self_eq_false _
            refine upto_start (S := (fun w' => w'.cell? ⟨b2, 4, none⟩ = some (.bool (putD D p.a p.s).down))) (k := 11) (by kernel_rfl) (by exact HDN.out) (fun hHeld => ?_)
            refine upto_run (v := ?_) 0 140 [] rfl rfl (by kernel_rfl) (by kernel_rfl) (by kernel_rfl) (by kernel_rfl) (by kernel_rfl) (fun _ _ _ h => h) (by rfl) ?_ (by assumption) ?_
            rotate_left
            · (intro w hSw; (try dsimp only at hSw); go_simp; with_reducible rfl)
            simp only [Act.put, List.setIfInBounds_toArray, List.set_cons_zero, List.set_cons_succ]
            refine upto_run (v := ?_) 1 141 [] rfl rfl (by kernel_rfl) (by kernel_rfl) (by kernel_rfl) (by kernel_rfl) (by kernel_rfl) (fun _ _ _ h => h) (by rfl) ?_ (by assumption) ?_
            rotate_left
            · (intro w hSw; (try dsimp only at hSw); go_simp; with_reducible rfl)
            simp only [Act.put, List.setIfInBounds_toArray, List.set_cons_zero, List.set_cons_succ]
            refine upto_run (v := ?_) 2 142 [] rfl rfl (by kernel_rfl) (by kernel_rfl) (by kernel_rfl) (by kernel_rfl) (by kernel_rfl) (fun _ _ _ h => h) (by rfl) ?_ (by assumption) ?_
            rotate_left
            · (intro w hSw; (try dsimp only at hSw); go_simp; with_reducible rfl)
            simp only [Act.put, List.setIfInBounds_toArray, List.set_cons_zero, List.set_cons_succ]
            refine upto_run (v := ?_) 3 143 [] rfl rfl (by kernel_rfl) (by kernel_rfl) (by kernel_rfl) (by kernel_rfl) (by kernel_rfl) (fun _ _ _ h => h) (by rfl) ?_ (by assumption) ?_
            rotate_left
            · (intro w hSw; (try dsimp only at hSw); go_simp; with_reducible rfl)
            simp only [Act.put, List.setIfInBounds_toArray, List.set_cons_zero, List.set_cons_succ]
            refine upto_run (v := ?_) 5 145 [] rfl rfl (by kernel_rfl) (by kernel_rfl) (by kernel_rfl) (by kernel_rfl) (by kernel_rfl) (fun _ _ _ h => h) (by rfl) ?_ (by assumption) ?_
            rotate_left
            · (intro w hSw; (try dsimp only at hSw); go_simp; with_reducible rfl)
            simp only [Act.put, List.setIfInBounds_toArray, List.set_cons_zero, List.set_cons_succ]
            refine upto_run (v := ?_) 6 146 [] rfl rfl (by kernel_rfl) (by kernel_rfl) (by kernel_rfl) (by kernel_rfl) (by kernel_rfl) (fun _ _ _ h => h) (by rfl) ?_ (by assumption) ?_
            rotate_left
            · (intro w hSw; (try dsimp only at hSw); go_simp; with_reducible rfl)
            simp only [Act.put, List.setIfInBounds_toArray, List.set_cons_zero, List.set_cons_succ]
            refine upto_run (v := ?_) 7 147 [] rfl rfl (by kernel_rfl) (by kernel_rfl) (by kernel_rfl) (by kernel_rfl) (by kernel_rfl) (fun _ _ _ h => h) (by rfl) ?_ (by assumption) ?_
            rotate_left
            · (intro w hSw; (try dsimp only at hSw); go_simp; with_reducible rfl)
            simp only [Act.put, List.setIfInBounds_toArray, List.set_cons_zero, List.set_cons_succ]
            refine upto_run (v := ?_) 8 148 [] rfl rfl (by kernel_rfl) (by kernel_rfl) (by kernel_rfl) (by kernel_rfl) (by kernel_rfl) (fun _ _ _ h => h) (by rfl) ?_ (by assumption) ?_
            rotate_left
            · (intro w hSw; (try dsimp only at hSw); go_simp; with_reducible rfl)
            simp only [Act.put, List.setIfInBounds_toArray, List.set_cons_zero, List.set_cons_succ]
            refine upto_one 4 (by kernel_rfl) rfl (fun K hK => ?_)
            go_simp
            refine (down_any _ b1 b1 _ HF.out.disk).mono ?_
            rintro e y1 ⟨he, hy1⟩
            have he' : e = .returned (.bool (putD D p.a p.s).down) := he
            subst he'
            clear he
            have HG := hide (HF.out.later hy1)
            obtain ⟨kv8, nv8, wv8, hrm⟩ := HG.out.ref
            obtain ⟨-, -, -, -, dn5, -⟩ := hrm.cells
            rw [HG.out.tied.down] at dn5
            have dn6 : y1.cell? ⟨b2, 4, none⟩ = some (.bool (putD D p.a p.s).down) := dn5
            clear hrm dn5 hy1 HF HE HDN hHeld
            go_wp2_with fail
            refine hK.out _ _ (fun _ => dn6) ?_
            clear hK K
            try simp only [Act.put, List.setIfInBounds_toArray, List.set_cons_zero, List.set_cons_succ]
            refine upto_run (v := ?_) 9 149 [] rfl rfl (by kernel_rfl) (by kernel_rfl) (by kernel_rfl) (by kernel_rfl) (by kernel_rfl) (fun _ _ _ h => h) (by rfl) ?_ (by assumption) ?_
            rotate_left
            · (intro w hSw; (try dsimp only at hSw); go_simp; with_reducible rfl)
            simp only [Act.put, List.setIfInBounds_toArray, List.set_cons_zero, List.set_cons_succ]
            refine upto_run (v := ?_) 10 150 [] rfl rfl (by kernel_rfl) (by kernel_rfl) (by kernel_rfl) (by kernel_rfl) (by kernel_rfl) (fun _ _ _ h => h) (by rfl) ?_ (by assumption) ?_
            rotate_left
            · (intro w hSw; (try dsimp only at hSw); go_simp; with_reducible rfl)
            simp only [Act.put, List.setIfInBounds_toArray, List.set_cons_zero, List.set_cons_succ]
            refine upto_done (by kernel_rfl) ?_
            clear dn6
            go_wp2
            go_roundw
            case rel => exact ⟨i + 1, k + 1, _, _, by omega, by omega, by go_num, HG⟩
            case measure => simp [intOf]; omega
          · by_cases q2 : p.kind.toList = [114, 101, 97, 100]
            · go_wp2_with (show wpList _ _ _ ({ dst := some 71, op := _, type := _, pos := _, after := _, guard := _ } :: _) _ _; refine wpList_loadA rfl 71 rfl (.tmp 70) 41 rfl ⟨b, off + i * 9, none⟩ _ rfl HLD.out ?_; refine wpList_allocA rfl 11 rfl 41 rfl _ _ (run_zero_act wr) ?_; refine wpList_storeA rfl (.tmp 11) (.tmp 71) 41 rfl rfl ⟨wr.heap.size, 0, none⟩ _ _ rfl rfl HSV.out ?_; simp only [Act.put, List.setIfInBounds_toArray, List.set_cons_zero, List.set_cons_succ])
              refine (read_any _ b1 b1 D p.a HBA.out.disk (by rw [HBA.out.well.len]; omega)).mono ?_
              rintro e x1 ⟨rfl, hx1⟩
              have HBX := hide (HBA.out.later hx1)
              have HAX := hide (HAB.out.later hx1)
              clear hx1 HBA HAB ca0 ca1 ca2 ca3 HSV HLD
              obtain ⟨ca0, ca1, ca2, ca3⟩ := HAX.out.cells
              go_wp2_with fail
              refine (read_ref x1 b2 b2 R p.a HBX.out.ref).mono ?_
              rintro e x2 ⟨rfl, hx2⟩
              subst x2
              obtain ⟨er, ee⟩ := HBX.out.tied.read p.a
              rw [er]
              go_wp2_with fail
              refine (same_any _ _ ee x1).mono ?_
              rintro e x2 ⟨rfl, hx2⟩
              subst x2
              go_wp2_with fail
              have HE := HBX
              clear HBX HAX ca0 ca1 ca2 ca3
              obtain ⟨kv9, nv9, wv9, hrm⟩ := HE.out.ref
              obtain ⟨-, -, -, -, dn4, -⟩ := hrm.cells
              rw [HE.out.tied.down] at dn4
              have HDN := hide dn4
              have HF := hide (HE.out.later (Below.refl _ _).drew)
              clear hrm dn4
              have hself : ((D.down : Bool) != D.down) = false := bne_self_eq_false _
              refine upto_start (S := (fun w' => w'.cell? ⟨b2, 4, none⟩ = some (.bool D.down))) (k := 11) (by kernel_rfl) (by exact HDN.out) (fun hHeld => ?_)
              refine upto_run (v := ?_) 0 140 [] rfl rfl (by kernel_rfl) (by kernel_rfl) (by kernel_rfl) (by kernel_rfl) (by kernel_rfl) (fun _ _ _ h => h) (by rfl) ?_ (by assumption) ?_
              rotate_left
              · (intro w hSw; (try dsimp only at hSw); go_simp; with_reducible rfl)
              simp only [Act.put, List.setIfInBounds_toArray, List.set_cons_zero, List.set_cons_succ]
              refine upto_run (v := ?_) 1 141 [] rfl rfl (by kernel_rfl) (by kernel_rfl) (by kernel_rfl) (by kernel_rfl) (by kernel_rfl) (fun _ _ _ h => h) (by rfl) ?_ (by assumption) ?_
              rotate_left
              · (intro w hSw; (try dsimp only at hSw); go_simp; with_reducible rfl)
              simp only [Act.put, List.setIfInBounds_toArray, List.set_cons_zero, List.set_cons_succ]
              refine upto_run (v := ?_) 2 142 [] rfl rfl (by kernel_rfl) (by kernel_rfl) (by kernel_rfl) (by kernel_rfl) (by kernel_rfl) (fun _ _ _ h => h) (by rfl) ?_ (by assumption) ?_
              rotate_left
              · (intro w hSw; (try dsimp only at hSw); go_simp; with_reducible rfl)
              simp only [Act.put, List.setIfInBounds_toArray, List.set_cons_zero, List.set_cons_succ]
              refine upto_run (v := ?_) 3 143 [] rfl rfl (by kernel_rfl) (by kernel_rfl) (by kernel_rfl) (by kernel_rfl) (by kernel_rfl) (fun _ _ _ h => h) (by rfl) ?_ (by assumption) ?_
              rotate_left
              · (intro w hSw; (try dsimp only at hSw); go_simp; with_reducible rfl)
              simp only [Act.put, List.setIfInBounds_toArray, List.set_cons_zero, List.set_cons_succ]
              refine upto_run (v := ?_) 5 145 [] rfl rfl (by kernel_rfl) (by kernel_rfl) (by kernel_rfl) (by kernel_rfl) (by kernel_rfl) (fun _ _ _ h => h) (by rfl) ?_ (by assumption) ?_
              rotate_left
              · (intro w hSw; (try dsimp only at hSw); go_simp; with_reducible rfl)
              simp only [Act.put, List.setIfInBounds_toArray, List.set_cons_zero, List.set_cons_succ]
              refine upto_run (v := ?_) 6 146 [] rfl rfl (by kernel_rfl) (by kernel_rfl) (by kernel_rfl) (by kernel_rfl) (by kernel_rfl) (fun _ _ _ h => h) (by rfl) ?_ (by assumption) ?_
              rotate_left
              · (intro w hSw; (try dsimp only at hSw); go_simp; with_reducible rfl)
              simp only [Act.put, List.setIfInBounds_toArray, List.set_cons_zero, List.set_cons_succ]
              refine upto_run (v := ?_) 7 147 [] rfl rfl (by kernel_rfl) (by kernel_rfl) (by kernel_rfl) (by kernel_rfl) (by kernel_rfl) (fun _ _ _ h => h) (by rfl) ?_ (by assumption) ?_
              rotate_left
              · (intro w hSw; (try dsimp only at hSw); go_simp; with_reducible rfl)
              simp only [Act.put, List.setIfInBounds_toArray, List.set_cons_zero, List.set_cons_succ]
              refine upto_run (v := ?_) 8 148 [] rfl rfl (by kernel_rfl) (by kernel_rfl) (by kernel_rfl) (by kernel_rfl) (by kernel_rfl) (fun _ _ _ h => h) (by rfl) ?_ (by assumption) ?_
              rotate_left
              · (intro w hSw; (try dsimp only at hSw); go_simp; with_reducible rfl)
              simp only [Act.put, List.setIfInBounds_toArray, List.set_cons_zero, List.set_cons_succ]
              refine upto_one 4 (by kernel_rfl) rfl (fun K hK => ?_)
              go_simp
              refine (down_any _ b1 b1 _ HF.out.disk).mono ?_
              rintro e y1 ⟨he, hy1⟩
              have he' : e = .returned (.bool D.down) := he
              subst he'
              clear he
              have HG := hide (HF.out.later hy1)
              obtain ⟨kv8, nv8, wv8, hrm⟩ := HG.out.ref
              obtain ⟨-, -, -, -, dn5, -⟩ := hrm.cells
              rw [HG.out.tied.down] at dn5
              have dn6 : y1.cell? ⟨b2, 4, none⟩ = some (.bool D.down) := dn5
              clear hrm dn5 hy1 HF HE HDN hHeld
              go_wp2_with fail
              refine hK.out _ _ (fun _ => dn6) ?_
              clear hK K
              try simp only [Act.put, List.setIfInBounds_toArray, List.set_cons_zero, List.set_cons_succ]
              refine upto_run (v := ?_) 9 149 [] rfl rfl (by kernel_rfl) (by kernel_rfl) (by kernel_rfl) (by kernel_rfl) (by kernel_rfl) (fun _ _ _ h => h) (by rfl) ?_ (by assumption) ?_
              rotate_left
              · (intro w hSw; (try dsimp only at hSw); go_simp; with_reducible rfl)
              simp only [Act.put, List.setIfInBounds_toArray, List.set_cons_zero, List.set_cons_succ]
              refine upto_run (v := ?_) 10 150 [] rfl rfl (by kernel_rfl) (by kernel_rfl) (by kernel_rfl) (by kernel_rfl) (by kernel_rfl) (fun _ _ _ h => h) (by rfl) ?_ (by assumption) ?_
              rotate_left
              · (intro w hSw; (try dsimp only at hSw); go_simp; with_reducible rfl)
              simp only [Act.put, List.setIfInBounds_toArray, List.set_cons_zero, List.set_cons_succ]
              refine upto_done (by kernel_rfl) ?_
              clear dn6
              go_wp2
              go_roundw
              case rel => exact ⟨i + 1, k, _, _, by omega, by omega, by go_num, HG⟩
              case measure => simp [intOf]; omega
            · by_cases q3 : p.kind.toList = [102, 108, 117, 115, 104]
              · go_wp2_with (show wpList _ _ _ ({ dst := some 71, op := _, type := _, pos := _, after := _, guard := _ } :: _) _ _; refine wpList_loadA rfl 71 rfl (.tmp 70) 41 rfl ⟨b, off + i * 9, none⟩ _ rfl HLD.out ?_; refine wpList_allocA rfl 11 rfl 41 rfl _ _ (run_zero_act wr) ?_; refine wpList_storeA rfl (.tmp 11) (.tmp 71) 41 rfl rfl ⟨wr.heap.size, 0, none⟩ _ _ rfl rfl HSV.out ?_; simp only [Act.put, List.setIfInBounds_toArray, List.set_cons_zero, List.set_cons_succ])
                refine (flush_any _ b1 b1 D HBA.out.disk (by rw [HBA.out.well.len]; omega)).mono ?_
                rintro e x1 ⟨rfl, hd1, hk1⟩
                have HD1 := hide hd1
                have HK1 := hide hk1
                clear hd1 hk1 HAB ca0 ca1 ca2 ca3 HSV HLD
                go_wp2_with fail
                refine (flush_ref _ b2 b2 R (HBA.out.ref.beside HK1.out) (by rw [HBA.out.tied.lenN, HBA.out.well.len]; omega) (by rw [HBA.out.tied.lenN, HBA.out.well.len]; omega) (Nat.le_trans HBA.out.b2.2 HK1.out.size)).mono ?_
                rintro e x2 ⟨rfl, hr2, hk2⟩
                have HE := hide (HBA.out.flush HD1.out HK1.out hr2 hk2)
                clear hr2 hk2
                go_wp2_with fail
                refine (same_any _ _ (HBA.out.tied.flush HBA.out.well).2 x2).mono ?_
                rintro e x3 ⟨rfl, hx3⟩
                subst x3
                clear HBA HD1 HK1
                go_wp2_with fail
                obtain ⟨kv9, nv9, wv9, hrm⟩ := HE.out.ref
                obtain ⟨-, -, -, -, dn4, -⟩ := hrm.cells
                rw [HE.out.tied.down] at dn4
                have HDN := hide dn4
                have HF := hide (HE.out.later (Below.refl _ _).drew)
                clear hrm dn4
                have hself : (((flushD D).down : Bool) != (flushD D).down) = false := bne_self_eq_false _
                refine upto_start (S := (fun w' => w'.cell? ⟨b2, 4, none⟩ = some (.bool (flushD D).down))) (k := 11) (by kernel_rfl) (by exact HDN.out) (fun hHeld => ?_)
                refine upto_run (v := ?_) 0 140 [] rfl rfl (by kernel_rfl) (by kernel_rfl) (by kernel_rfl) (by kernel_rfl) (by kernel_rfl) (fun _ _ _ h => h) (by rfl) ?_ (by assumption) ?_
                rotate_left
                · (intro w hSw; (try dsimp only at hSw); go_simp; with_reducible rfl)
                simp only [Act.put, List.setIfInBounds_toArray, List.set_cons_zero, List.set_cons_succ]
                refine upto_run (v := ?_) 1 141 [] rfl rfl (by kernel_rfl) (by kernel_rfl) (by kernel_rfl) (by kernel_rfl) (by kernel_rfl) (fun _ _ _ h => h) (by rfl) ?_ (by assumption) ?_
                rotate_left
                · (intro w hSw; (try dsimp only at hSw); go_simp; with_reducible rfl)
                simp only [Act.put, List.setIfInBounds_toArray, List.set_cons_zero, List.set_cons_succ]
                refine upto_run (v := ?_) 2 142 [] rfl rfl (by kernel_rfl) (by kernel_rfl) (by kernel_rfl) (by kernel_rfl) (by kernel_rfl) (fun _ _ _ h => h) (by rfl) ?_ (by assumption) ?_
                rotate_left
                · (intro w hSw; (try dsimp only at hSw); go_simp; with_reducible rfl)
                simp only [Act.put, List.setIfInBounds_toArray, List.set_cons_zero, List.set_cons_succ]
                refine upto_run (v := ?_) 3 143 [] rfl rfl (by kernel_rfl) (by kernel_rfl) (by kernel_rfl) (by kernel_rfl) (by kernel_rfl) (fun _ _ _ h => h) (by rfl) ?_ (by assumption) ?_
                rotate_left
                · (intro w hSw; (try dsimp only at hSw); go_simp; with_reducible rfl)
                simp only [Act.put, List.setIfInBounds_toArray, List.set_cons_zero, List.set_cons_succ]
                refine upto_run (v := ?_) 5 145 [] rfl rfl (by kernel_rfl) (by kernel_rfl) (by kernel_rfl) (by kernel_rfl) (by kernel_rfl) (fun _ _ _ h => h) (by rfl) ?_ (by assumption) ?_
                rotate_left
                · (intro w hSw; (try dsimp only at hSw); go_simp; with_reducible rfl)
                simp only [Act.put, List.setIfInBounds_toArray, List.set_cons_zero, List.set_cons_succ]
                refine upto_run (v := ?_) 6 146 [] rfl rfl (by kernel_rfl) (by kernel_rfl) (by kernel_rfl) (by kernel_rfl) (by kernel_rfl) (fun _ _ _ h => h) (by rfl) ?_ (by assumption) ?_
                rotate_left
                · (intro w hSw; (try dsimp only at hSw); go_simp; with_reducible rfl)
                simp only [Act.put, List.setIfInBounds_toArray, List.set_cons_zero, List.set_cons_succ]
                refine upto_run (v := ?_) 7 147 [] rfl rfl (by kernel_rfl) (by kernel_rfl) (by kernel_rfl) (by kernel_rfl) (by kernel_rfl) (fun _ _ _ h => h) (by rfl) ?_ (by assumption) ?_
                rotate_left
                · (intro w hSw; (try dsimp only at hSw); go_simp; with_reducible rfl)
                simp only [Act.put, List.setIfInBounds_toArray, List.set_cons_zero, List.set_cons_succ]
                refine upto_run (v := ?_) 8 148 [] rfl rfl (by kernel_rfl) (by kernel_rfl) (by kernel_rfl) (by kernel_rfl) (by kernel_rfl) (fun _ _ _ h => h) (by rfl) ?_ (by assumption) ?_
                rotate_left
                · (intro w hSw; (try dsimp only at hSw); go_simp; with_reducible rfl)
                simp only [Act.put, List.setIfInBounds_toArray, List.set_cons_zero, List.set_cons_succ]
                refine upto_one 4 (by kernel_rfl) rfl (fun K hK => ?_)
                go_simp
                refine (down_any _ b1 b1 _ HF.out.disk).mono ?_
                rintro e y1 ⟨he, hy1⟩
                have he' : e = .returned (.bool (flushD D).down) := he
                subst he'
                clear he
                have HG := hide (HF.out.later hy1)
                obtain ⟨kv8, nv8, wv8, hrm⟩ := HG.out.ref
                obtain ⟨-, -, -, -, dn5, -⟩ := hrm.cells
                rw [HG.out.tied.down] at dn5
                have dn6 : y1.cell? ⟨b2, 4, none⟩ = some (.bool (flushD D).down) := dn5
                clear hrm dn5 hy1 HF HE HDN hHeld
                go_wp2_with fail
                refine hK.out _ _ (fun _ => dn6) ?_
                clear hK K
                try simp only [Act.put, List.setIfInBounds_toArray, List.set_cons_zero, List.set_cons_succ]
                refine upto_run (v := ?_) 9 149 [] rfl rfl (by kernel_rfl) (by kernel_rfl) (by kernel_rfl) (by kernel_rfl) (by kernel_rfl) (fun _ _ _ h => h) (by rfl) ?_ (by assumption) ?_
                rotate_left
                · (intro w hSw; (try dsimp only at hSw); go_simp; with_reducible rfl)
                simp only [Act.put, List.setIfInBounds_toArray, List.set_cons_zero, List.set_cons_succ]
                refine upto_run (v := ?_) 10 150 [] rfl rfl (by kernel_rfl) (by kernel_rfl) (by kernel_rfl) (by kernel_rfl) (by kernel_rfl) (fun _ _ _ h => h) (by rfl) ?_ (by assumption) ?_
                rotate_left
                · (intro w hSw; (try dsimp only at hSw); go_simp; with_reducible rfl)
                simp only [Act.put, List.setIfInBounds_toArray, List.set_cons_zero, List.set_cons_succ]
                refine upto_done (by kernel_rfl) ?_
                clear dn6
                go_wp2
                go_roundw
                case rel => exact ⟨i + 1, k + 1, _, _, by omega, by omega, by go_num, HG⟩
                case measure => simp [intOf]; omega
              · by_cases q4 : p.kind.toList = [97, 114, 109]
                · go_wp2_with (show wpList _ _ _ ({ dst := some 71, op := _, type := _, pos := _, after := _, guard := _ } :: _) _ _; refine wpList_loadA rfl 71 rfl (.tmp 70) 41 rfl ⟨b, off + i * 9, none⟩ _ rfl HLD.out ?_; refine wpList_allocA rfl 11 rfl 41 rfl _ _ (run_zero_act wr) ?_; refine wpList_storeA rfl (.tmp 11) (.tmp 71) 41 rfl rfl ⟨wr.heap.size, 0, none⟩ _ _ rfl rfl HSV.out ?_; simp only [Act.put, List.setIfInBounds_toArray, List.set_cons_zero, List.set_cons_succ])
                  have hpa := HOK.out.a
                  refine (arm_any _ b1 b1 D p.a HBA.out.disk hpa).mono ?_
                  rintro e x1 ⟨rfl, hd1, hk1⟩
                  have HD1 := hide hd1
                  have HK1 := hide hk1
                  have HA1 := hide (HAB.out.kept hk1)
                  clear hd1 hk1 HAB ca0 ca1 ca2 ca3 HSV HLD
                  obtain ⟨-, ca1, -, -⟩ := HA1.out.cells
                  obtain ⟨kv, nv, wv, hrm⟩ := HBA.out.ref.beside HK1.out
                  obtain ⟨-, -, -, cf, -, fz⟩ := hrm.cells
                  have HRM := hide hrm
                  clear hrm
                  have HS2 : Hid (RefO (x1.setCell ⟨b2, 3, none⟩ (.int .i64 (max p.a (-1)))) b2 b2 { R with fuse := max p.a (-1) }) := ⟨kv, nv, wv, HRM.out.field 3 _ _ _ (by omega) rfl⟩
                  have HK2 := hide (KeptR.set HRM.out.low HRM.out.head (.inl rfl) 3 (.int .i64 (max p.a (-1))))
                  have HE := hide (HBA.out.arm p.a HD1.out HK1.out HS2.out HK2.out)
                  clear HBA HD1 HK1 HS2 HK2 HRM HA1
                  go_wp2_with fail
                  · rw [show max p.a (-1) = -1 by omega] at HE
                    obtain ⟨kv9, nv9, wv9, hrm⟩ := HE.out.ref
                    obtain ⟨-, -, -, -, dn4, -⟩ := hrm.cells
                    rw [HE.out.tied.down] at dn4
                    have HDN := hide dn4
                    have HF := hide (HE.out.later (Below.refl _ _).drew)
                    clear hrm dn4
                    have hself : ((D.down : Bool) != D.down) = false := bne_self_eq_false _
                    refine upto_start (S := (fun w' => w'.cell? ⟨b2, 4, none⟩ = some (.bool D.down))) (k := 11) (by kernel_rfl) (by exact HDN.out) (fun hHeld => ?_)
                    refine upto_run (v := ?_) 0 140 [] rfl rfl (by kernel_rfl) (by kernel_rfl) (by kernel_rfl) (by kernel_rfl) (by kernel_rfl) (fun _ _ _ h => h) (by rfl) ?_ (by assumption) ?_
                    rotate_left
                    · (intro w hSw; (try dsimp only at hSw); go_simp; with_reducible rfl)
                    simp only [Act.put, List.setIfInBounds_toArray, List.set_cons_zero, List.set_cons_succ]
                    refine upto_run (v := ?_) 1 141 [] rfl rfl (by kernel_rfl) (by kernel_rfl) (by kernel_rfl) (by kernel_rfl) (by kernel_rfl) (fun _ _ _ h => h) (by rfl) ?_ (by assumption) ?_
                    rotate_left
                    · (intro w hSw; (try dsimp only at hSw); go_simp; with_reducible rfl)
                    simp only [Act.put, List.setIfInBounds_toArray, List.set_cons_zero, List.set_cons_succ]
                    refine upto_run (v := ?_) 2 142 [] rfl rfl (by kernel_rfl) (by kernel_rfl) (by kernel_rfl) (by kernel_rfl) (by kernel_rfl) (fun _ _ _ h => h) (by rfl) ?_ (by assumption) ?_
                    rotate_left
                    · (intro w hSw; (try dsimp only at hSw); go_simp; with_reducible rfl)
                    simp only [Act.put, List.setIfInBounds_toArray, List.set_cons_zero, List.set_cons_succ]
                    refine upto_run (v := ?_) 3 143 [] rfl rfl (by kernel_rfl) (by kernel_rfl) (by kernel_rfl) (by kernel_rfl) (by kernel_rfl) (fun _ _ _ h => h) (by rfl) ?_ (by assumption) ?_
                    rotate_left
                    · (intro w hSw; (try dsimp only at hSw); go_simp; with_reducible rfl)
                    simp only [Act.put, List.setIfInBounds_toArray, List.set_cons_zero, List.set_cons_succ]
                    refine upto_run (v := ?_) 5 145 [] rfl rfl (by kernel_rfl) (by kernel_rfl) (by kernel_rfl) (by kernel_rfl) (by kernel_rfl) (fun _ _ _ h => h) (by rfl) ?_ (by assumption) ?_
                    rotate_left
                    · (intro w hSw; (try dsimp only at hSw); go_simp; with_reducible rfl)
                    simp only [Act.put, List.setIfInBounds_toArray, List.set_cons_zero, List.set_cons_succ]
                    refine upto_run (v := ?_) 6 146 [] rfl rfl (by kernel_rfl) (by kernel_rfl) (by kernel_rfl) (by kernel_rfl) (by kernel_rfl) (fun _ _ _ h => h) (by rfl) ?_ (by assumption) ?_
                    rotate_left
                    · (intro w hSw; (try dsimp only at hSw); go_simp; with_reducible rfl)
                    simp only [Act.put, List.setIfInBounds_toArray, List.set_cons_zero, List.set_cons_succ]
                    refine upto_run (v := ?_) 7 147 [] rfl rfl (by kernel_rfl) (by kernel_rfl) (by kernel_rfl) (by kernel_rfl) (by kernel_rfl) (fun _ _ _ h => h) (by rfl) ?_ (by assumption) ?_
                    rotate_left
                    · (intro w hSw; (try dsimp only at hSw); go_simp; with_reducible rfl)
                    simp only [Act.put, List.setIfInBounds_toArray, List.set_cons_zero, List.set_cons_succ]
                    refine upto_run (v := ?_) 8 148 [] rfl rfl (by kernel_rfl) (by kernel_rfl) (by kernel_rfl) (by kernel_rfl) (by kernel_rfl) (fun _ _ _ h => h) (by rfl) ?_ (by assumption) ?_
                    rotate_left
                    · (intro w hSw; (try dsimp only at hSw); go_simp; with_reducible rfl)
                    simp only [Act.put, List.setIfInBounds_toArray, List.set_cons_zero, List.set_cons_succ]
                    refine upto_one 4 (by kernel_rfl) rfl (fun K hK => ?_)
                    go_simp
                    refine (down_any _ b1 b1 _ HF.out.disk).mono ?_
                    rintro e y1 ⟨he, hy1⟩
                    have he' : e = .returned (.bool D.down) := he
                    subst he'
                    clear he
                    have HG := hide (HF.out.later hy1)
                    obtain ⟨kv8, nv8, wv8, hrm⟩ := HG.out.ref
                    obtain ⟨-, -, -, -, dn5, -⟩ := hrm.cells
                    rw [HG.out.tied.down] at dn5
                    have dn6 : y1.cell? ⟨b2, 4, none⟩ = some (.bool D.down) := dn5
                    clear hrm dn5 hy1 HF HE HDN hHeld
                    go_wp2_with fail
                    refine hK.out _ _ (fun _ => dn6) ?_
                    clear hK K
                    try simp only [Act.put, List.setIfInBounds_toArray, List.set_cons_zero, List.set_cons_succ]
                    refine upto_run (v := ?_) 9 149 [] rfl rfl (by kernel_rfl) (by kernel_rfl) (by kernel_rfl) (by kernel_rfl) (by kernel_rfl) (fun _ _ _ h => h) (by rfl) ?_ (by assumption) ?_
                    rotate_left
                    · (intro w hSw; (try dsimp only at hSw); go_simp; with_reducible rfl)
                    simp only [Act.put, List.setIfInBounds_toArray, List.set_cons_zero, List.set_cons_succ]
                    refine upto_run (v := ?_) 10 150 [] rfl rfl (by kernel_rfl) (by kernel_rfl) (by kernel_rfl) (by kernel_rfl) (by kernel_rfl) (fun _ _ _ h => h) (by rfl) ?_ (by assumption) ?_
                    rotate_left
                    · (intro w hSw; (try dsimp only at hSw); go_simp; with_reducible rfl)
                    simp only [Act.put, List.setIfInBounds_toArray, List.set_cons_zero, List.set_cons_succ]
                    refine upto_done (by kernel_rfl) ?_
                    clear dn6
                    go_wp2
                    go_roundw
                    case rel => exact ⟨i + 1, k + 1, _, _, by omega, by omega, by go_num, HG⟩
                    case measure => simp [intOf]; omega
                  · rw [show max p.a (-1) = p.a by omega] at HE
                    obtain ⟨kv9, nv9, wv9, hrm⟩ := HE.out.ref
                    obtain ⟨-, -, -, -, dn4, -⟩ := hrm.cells
                    rw [HE.out.tied.down] at dn4
                    have HDN := hide dn4
                    have HF := hide (HE.out.later (Below.refl _ _).drew)
                    clear hrm dn4
                    have hself : ((D.down : Bool) != D.down) = false := bne_self_eq_false _
                    refine upto_start (S := (fun w' => w'.cell? ⟨b2, 4, none⟩ = some (.bool D.down))) (k := 11) (by kernel_rfl) (by exact HDN.out) (fun hHeld => ?_)
                    refine upto_run (v := ?_) 0 140 [] rfl rfl (by kernel_rfl) (by kernel_rfl) (by kernel_rfl) (by kernel_rfl) (by kernel_rfl) (fun _ _ _ h => h) (by rfl) ?_ (by assumption) ?_
                    rotate_left
                    · (intro w hSw; (try dsimp only at hSw); go_simp; with_reducible rfl)
                    simp only [Act.put, List.setIfInBounds_toArray, List.set_cons_zero, List.set_cons_succ]
                    refine upto_run (v := ?_) 1 141 [] rfl rfl (by kernel_rfl) (by kernel_rfl) (by kernel_rfl) (by kernel_rfl) (by kernel_rfl) (fun _ _ _ h => h) (by rfl) ?_ (by assumption) ?_
                    rotate_left
                    · (intro w hSw; (try dsimp only at hSw); go_simp; with_reducible rfl)
                    simp only [Act.put, List.setIfInBounds_toArray, List.set_cons_zero, List.set_cons_succ]
                    refine upto_run (v := ?_) 2 142 [] rfl rfl (by kernel_rfl) (by kernel_rfl) (by kernel_rfl) (by kernel_rfl) (by kernel_rfl) (fun _ _ _ h => h) (by rfl) ?_ (by assumption) ?_
                    rotate_left
                    · (intro w hSw; (try dsimp only at hSw); go_simp; with_reducible rfl)
                    simp only [Act.put, List.setIfInBounds_toArray, List.set_cons_zero, List.set_cons_succ]
                    refine upto_run (v := ?_) 3 143 [] rfl rfl (by kernel_rfl) (by kernel_rfl) (by kernel_rfl) (by kernel_rfl) (by kernel_rfl) (fun _ _ _ h => h) (by rfl) ?_ (by assumption) ?_
                    rotate_left
                    · (intro w hSw; (try dsimp only at hSw); go_simp; with_reducible rfl)
                    simp only [Act.put, List.setIfInBounds_toArray, List.set_cons_zero, List.set_cons_succ]
                    refine upto_run (v := ?_) 5 145 [] rfl rfl (by kernel_rfl) (by kernel_rfl) (by kernel_rfl) (by kernel_rfl) (by kernel_rfl) (fun _ _ _ h => h) (by rfl) ?_ (by assumption) ?_
                    rotate_left
                    · (intro w hSw; (try dsimp only at hSw); go_simp; with_reducible rfl)
                    simp only [Act.put, List.setIfInBounds_toArray, List.set_cons_zero, List.set_cons_succ]
                    refine upto_run (v := ?_) 6 146 [] rfl rfl (by kernel_rfl) (by kernel_rfl) (by kernel_rfl) (by kernel_rfl) (by kernel_rfl) (fun _ _ _ h => h) (by rfl) ?_ (by assumption) ?_
                    rotate_left
                    · (intro w hSw; (try dsimp only at hSw); go_simp; with_reducible rfl)
                    simp only [Act.put, List.setIfInBounds_toArray, List.set_cons_zero, List.set_cons_succ]
                    refine upto_run (v := ?_) 7 147 [] rfl rfl (by kernel_rfl) (by kernel_rfl) (by kernel_rfl) (by kernel_rfl) (by kernel_rfl) (fun _ _ _ h => h) (by rfl) ?_ (by assumption) ?_
                    rotate_left
                    · (intro w hSw; (try dsimp only at hSw); go_simp; with_reducible rfl)
                    simp only [Act.put, List.setIfInBounds_toArray, List.set_cons_zero, List.set_cons_succ]
                    refine upto_run (v := ?_) 8 148 [] rfl rfl (by kernel_rfl) (by kernel_rfl) (by kernel_rfl) (by kernel_rfl) (by kernel_rfl) (fun _ _ _ h => h) (by rfl) ?_ (by assumption) ?_
                    rotate_left
                    · (intro w hSw; (try dsimp only at hSw); go_simp; with_reducible rfl)
                    simp only [Act.put, List.setIfInBounds_toArray, List.set_cons_zero, List.set_cons_succ]
                    refine upto_one 4 (by kernel_rfl) rfl (fun K hK => ?_)
                    go_simp
                    refine (down_any _ b1 b1 _ HF.out.disk).mono ?_
                    rintro e y1 ⟨he, hy1⟩
                    have he' : e = .returned (.bool D.down) := he
                    subst he'
                    clear he
                    have HG := hide (HF.out.later hy1)
                    obtain ⟨kv8, nv8, wv8, hrm⟩ := HG.out.ref
                    obtain ⟨-, -, -, -, dn5, -⟩ := hrm.cells
                    rw [HG.out.tied.down] at dn5
                    have dn6 : y1.cell? ⟨b2, 4, none⟩ = some (.bool D.down) := dn5
                    clear hrm dn5 hy1 HF HE HDN hHeld
                    go_wp2_with fail
                    refine hK.out _ _ (fun _ => dn6) ?_
                    clear hK K
                    try simp only [Act.put, List.setIfInBounds_toArray, List.set_cons_zero, List.set_cons_succ]
                    refine upto_run (v := ?_) 9 149 [] rfl rfl (by kernel_rfl) (by kernel_rfl) (by kernel_rfl) (by kernel_rfl) (by kernel_rfl) (fun _ _ _ h => h) (by rfl) ?_ (by assumption) ?_
                    rotate_left
                    · (intro w hSw; (try dsimp only at hSw); go_simp; with_reducible rfl)
                    simp only [Act.put, List.setIfInBounds_toArray, List.set_cons_zero, List.set_cons_succ]
                    refine upto_run (v := ?_) 10 150 [] rfl rfl (by kernel_rfl) (by kernel_rfl) (by kernel_rfl) (by kernel_rfl) (by kernel_rfl) (fun _ _ _ h => h) (by rfl) ?_ (by assumption) ?_
                    rotate_left
                    · (intro w hSw; (try dsimp only at hSw); go_simp; with_reducible rfl)
                    simp only [Act.put, List.setIfInBounds_toArray, List.set_cons_zero, List.set_cons_succ]
                    refine upto_done (by kernel_rfl) ?_
                    clear dn6
                    go_wp2
                    go_roundw
                    case rel => exact ⟨i + 1, k + 1, _, _, by omega, by omega, by go_num, HG⟩
                    case measure => simp [intOf]; omega
                · have q1' := beq_eq_false_iff_ne.mpr q1
                  have q2' := beq_eq_false_iff_ne.mpr q2
                  have q3' := beq_eq_false_iff_ne.mpr q3
                  have q4' := beq_eq_false_iff_ne.mpr q4
                  clear q1 q2 q3 q4
                  go_wp2_with (show wpList _ _ _ ({ dst := some 71, op := _, type := _, pos := _, after := _, guard := _ } :: _) _ _; refine wpList_loadA rfl 71 rfl (.tmp 70) 41 rfl ⟨b, off + i * 9, none⟩ _ rfl HLD.out ?_; refine wpList_allocA rfl 11 rfl 41 rfl _ _ (run_zero_act wr) ?_; refine wpList_storeA rfl (.tmp 11) (.tmp 71) 41 rfl rfl ⟨wr.heap.size, 0, none⟩ _ _ rfl rfl HSV.out ?_; simp only [Act.put, List.setIfInBounds_toArray, List.set_cons_zero, List.set_cons_succ])
                  have hpk := HOK.out.k
                  refine (restart_any _ b1 b1 D p.k HBA.out.disk (by rw [HBA.out.well.len]; omega)).mono ?_
                  rintro e x1 ⟨rfl, hd1, hk1⟩
                  have HD1 := hide hd1
                  have HK1 := hide hk1
                  have HA1 := hide (HAB.out.kept hk1)
                  clear hd1 hk1 HAB ca0 ca1 ca2 ca3 HSV HLD
                  obtain ⟨-, -, -, ca3⟩ := HA1.out.cells
                  go_wp2_with fail
                  refine (restart_ref _ b2 b2 R p.k (HBA.out.ref.beside HK1.out) (by rw [HBA.out.tied.lenK, HBA.out.well.len]; omega) (by rw [HBA.out.tied.lenK, HBA.out.well.len]; omega) (Nat.le_trans HBA.out.wait hka) HBA.out.tied.at' (Nat.le_trans HBA.out.b2.2 HK1.out.size)).mono ?_
                  rintro e x2 ⟨rfl, hr2, hk2⟩
                  have HE := hide (HBA.out.restart p.k hpk.1 hpk.2 HD1.out HK1.out hr2 hk2)
                  clear hr2 hk2 HBA HD1 HK1 HA1 ca3
                  go_wp2_with fail
                  obtain ⟨kv9, nv9, wv9, hrm⟩ := HE.out.ref
                  obtain ⟨-, -, -, -, dn4, -⟩ := hrm.cells
                  rw [HE.out.tied.down] at dn4
                  have HDN := hide dn4
                  have HF := hide (HE.out.later (Below.refl _ _).drew)
                  clear hrm dn4
                  refine upto_start (S := (fun w' => w'.cell? ⟨b2, 4, none⟩ = some (.bool false))) (k := 11) (by kernel_rfl) (by exact HDN.out) (fun hHeld => ?_)
                  refine upto_run (v := ?_) 0 140 [] rfl rfl (by kernel_rfl) (by kernel_rfl) (by kernel_rfl) (by kernel_rfl) (by kernel_rfl) (fun _ _ _ h => h) (by rfl) ?_ (by assumption) ?_
                  rotate_left
                  · (intro w hSw; (try dsimp only at hSw); go_simp; with_reducible rfl)
                  simp only [Act.put, List.setIfInBounds_toArray, List.set_cons_zero, List.set_cons_succ]
                  refine upto_run (v := ?_) 1 141 [] rfl rfl (by kernel_rfl) (by kernel_rfl) (by kernel_rfl) (by kernel_rfl) (by kernel_rfl) (fun _ _ _ h => h) (by rfl) ?_ (by assumption) ?_
                  rotate_left
                  · (intro w hSw; (try dsimp only at hSw); go_simp; with_reducible rfl)
                  simp only [Act.put, List.setIfInBounds_toArray, List.set_cons_zero, List.set_cons_succ]
                  refine upto_run (v := ?_) 2 142 [] rfl rfl (by kernel_rfl) (by kernel_rfl) (by kernel_rfl) (by kernel_rfl) (by kernel_rfl) (fun _ _ _ h => h) (by rfl) ?_ (by assumption) ?_
                  rotate_left
                  · (intro w hSw; (try dsimp only at hSw); go_simp; with_reducible rfl)
                  simp only [Act.put, List.setIfInBounds_toArray, List.set_cons_zero, List.set_cons_succ]
                  refine upto_run (v := ?_) 3 143 [] rfl rfl (by kernel_rfl) (by kernel_rfl) (by kernel_rfl) (by kernel_rfl) (by kernel_rfl) (fun _ _ _ h => h) (by rfl) ?_ (by assumption) ?_
                  rotate_left
                  · (intro w hSw; (try dsimp only at hSw); go_simp; with_reducible rfl)
                  simp only [Act.put, List.setIfInBounds_toArray, List.set_cons_zero, List.set_cons_succ]
                  refine upto_run (v := ?_) 5 145 [] rfl rfl (by kernel_rfl) (by kernel_rfl) (by kernel_rfl) (by kernel_rfl) (by kernel_rfl) (fun _ _ _ h => h) (by rfl) ?_ (by assumption) ?_
                  rotate_left
                  · (intro w hSw; (try dsimp only at hSw); go_simp; with_reducible rfl)
                  simp only [Act.put, List.setIfInBounds_toArray, List.set_cons_zero, List.set_cons_succ]
                  refine upto_run (v := ?_) 6 146 [] rfl rfl (by kernel_rfl) (by kernel_rfl) (by kernel_rfl) (by kernel_rfl) (by kernel_rfl) (fun _ _ _ h => h) (by rfl) ?_ (by assumption) ?_
                  rotate_left
                  · (intro w hSw; (try dsimp only at hSw); go_simp; with_reducible rfl)
                  simp only [Act.put, List.setIfInBounds_toArray, List.set_cons_zero, List.set_cons_succ]
                  refine upto_run (v := ?_) 7 147 [] rfl rfl (by kernel_rfl) (by kernel_rfl) (by kernel_rfl) (by kernel_rfl) (by kernel_rfl) (fun _ _ _ h => h) (by rfl) ?_ (by assumption) ?_
                  rotate_left
                  · (intro w hSw; (try dsimp only at hSw); go_simp; with_reducible rfl)
                  simp only [Act.put, List.setIfInBounds_toArray, List.set_cons_zero, List.set_cons_succ]
                  refine upto_run (v := ?_) 8 148 [] rfl rfl (by kernel_rfl) (by kernel_rfl) (by kernel_rfl) (by kernel_rfl) (by kernel_rfl) (fun _ _ _ h => h) (by rfl) ?_ (by assumption) ?_
                  rotate_left
                  · (intro w hSw; (try dsimp only at hSw); go_simp; with_reducible rfl)
                  simp only [Act.put, List.setIfInBounds_toArray, List.set_cons_zero, List.set_cons_succ]
                  refine upto_one 4 (by kernel_rfl) rfl (fun K hK => ?_)
                  go_simp
                  refine (down_any _ b1 b1 _ HF.out.disk).mono ?_
                  rintro e y1 ⟨he, hy1⟩
                  have he' : e = .returned (.bool false) := he
                  subst he'
                  clear he
                  have HG := hide (HF.out.later hy1)
                  obtain ⟨kv8, nv8, wv8, hrm⟩ := HG.out.ref
                  obtain ⟨-, -, -, -, dn5, -⟩ := hrm.cells
                  rw [HG.out.tied.down] at dn5
                  have dn6 : y1.cell? ⟨b2, 4, none⟩ = some (.bool false) := dn5
                  clear hrm dn5 hy1 HF HE HDN hHeld
                  go_wp2_with fail
                  refine hK.out _ _ (fun _ => dn6) ?_
                  clear hK K
                  try simp only [Act.put, List.setIfInBounds_toArray, List.set_cons_zero, List.set_cons_succ]
                  refine upto_run (v := ?_) 9 149 [] rfl rfl (by kernel_rfl) (by kernel_rfl) (by kernel_rfl) (by kernel_rfl) (by kernel_rfl) (fun _ _ _ h => h) (by rfl) ?_ (by assumption) ?_
                  rotate_left
                  · (intro w hSw; (try dsimp only at hSw); go_simp; with_reducible rfl)
                  simp only [Act.put, List.setIfInBounds_toArray, List.set_cons_zero, List.set_cons_succ]
                  refine upto_run (v := ?_) 10 150 [] rfl rfl (by kernel_rfl) (by kernel_rfl) (by kernel_rfl) (by kernel_rfl) (by kernel_rfl) (fun _ _ _ h => h) (by rfl) ?_ (by assumption) ?_
                  rotate_left
                  · (intro w hSw; (try dsimp only at hSw); go_simp; with_reducible rfl)
                  simp only [Act.put, List.setIfInBounds_toArray, List.set_cons_zero, List.set_cons_succ]
                  refine upto_done (by kernel_rfl) ?_
                  clear dn6
                  go_wp2
                  go_roundw
                  case rel => exact ⟨i + 1, k + 1, _, _, by omega, by omega, by go_num, HG⟩
                  case measure => simp [intOf]; omega
        · obtain rfl : i = bl.length := by omega
          have g1 : decide ((bl.length : Int) < (bl.length : Int)) = false := decide_eq_false (by omega)
          go_wp2
          have HB2 := HB
          clear HB
          go_loopw [17] (fun x wq => ∃ j : Nat, j ≤ m + 2 ∧ x = .int .i64 ((j : Int) - 1) ∧ Hid (Both w wq b1 b2 m k D R)) (fun x _ => m + 2 - ((intOf x) + 1).toNat)
          case atStart => exact ⟨0, Nat.zero_le _, rfl, HB2⟩
          case round =>
            clear HB2
            obtain ⟨j, hj, rfl, HB⟩ := hrel
            by_cases hjl : j < m + 2
            · have g2 : decide ((j : Int) - 1 ≤ (m : Int)) = true := decide_eq_true (by omega)
              go_wp2_with fail
              refine (read_any _ b1 b1 D _ HB.out.disk (by rw [HB.out.well.len]; omega)).mono ?_
              rintro e x1 ⟨rfl, hx1⟩
              have HBX := hide (HB.out.later hx1)
              clear hx1 HB
              go_wp2_with fail
              refine (read_ref x1 b2 b2 R _ HBX.out.ref).mono ?_
              rintro e x2 ⟨rfl, hx2⟩
              subst x2
              obtain ⟨er, ee⟩ := HBX.out.tied.read ((j : Int) - 1)
              rw [er]
              go_wp2_with fail
              refine (same_any _ _ ee x1).mono ?_
              rintro e x2 ⟨rfl, hx2⟩
              subst x2
              go_wp2
              go_roundw
              case rel => exact ⟨j + 1, by omega, by go_num, HBX⟩
              case measure => simp [intOf]; omega
            · obtain rfl : j = m + 2 := by omega
              have g2 : decide (((m + 2 : Nat) : Int) - 1 ≤ (m : Int)) = false := decide_eq_false (by omega)
              go_wp2
              go_ret
              exact ⟨rfl, HB.out.below⟩
    · refine (new_bad w1 n (by omega)).mono ?_
      rintro e w2 ⟨rfl, hb2⟩
      have HB2 := hide (belowTrans HB1.out hb2 HB1.out.size)
      clear hb2 HB1
      go_wp2_with fail
      refine (newR_bad w2 n (by omega)).mono ?_
      rintro e w3 ⟨rfl, hw⟩
      subst w3
      go_wp2_with fail
      refine (same_errno 1 (by decide) w2).mono ?_
      rintro e w3 ⟨rfl, hw⟩
      subst w3
      go_wp2
      go_ret
      exact ⟨rfl, HB2.out⟩

end Go.Proofs.Ytjgodhfnnifchaa
