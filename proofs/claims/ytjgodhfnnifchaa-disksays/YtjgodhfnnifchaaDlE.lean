/- The other disk: of what waits some is kept. -/
import Derived.Test.YtjgodhfnnifchaaDlD
namespace Go.Proofs.Ytjgodhfnnifchaa
open Go.RowKit

theorem RefM.setKept {W : World} {base B g cap : Nat} {R : RD} {nv wv : Value} (h : RefM W base B R (.slice (some ⟨g, 0, none⟩) R.kept.length cap) nv wv) (i : Nat) (l : List UInt8) : RefM (W.setCell ⟨g, i, none⟩ (strC l)) base B { R with kept := R.kept.set i l } (.slice (some ⟨g, 0, none⟩) R.kept.length cap) nv wv ∧ KeptR base W (W.setCell ⟨g, i, none⟩ (strC l)) := by
  obtain ⟨cur, hbg, hh⟩ : ∃ cur, base ≤ g ∧ W.heap[g]? = some (.cells cur 9 (0, 0)) := by
    rcases h.ownK.2 with ⟨e, -⟩ | ⟨g', cap', cur, e, hb, hh, -⟩
    · cases e
    · cases e; exact ⟨cur, hb, hh⟩
  have hBg : B ≠ g := fun e => by
    have := h.head
    rw [e, hh] at this
    simp only [Option.some.injEq, Obj.cells.injEq] at this
    exact absurd this.2.1 (by decide)
  refine ⟨⟨h.low, (heap_setCell_other _ _ _ _ (fun e => hBg e)).trans h.head, ?_, ?_, ownsOther h.ownW hh (by decide) _ _, h.apart, h.fuse⟩, KeptR.set hbg hh (.inr (.inl rfl)) i _⟩
  · have := ownsSet h.ownK i (strC l)
    rw [← List.map_set] at this
    simpa using this
  · refine ⟨h.ownN.1, ?_⟩
    rcases h.ownN.2 with hn | ⟨k, cap', cur', rfl, hbk, hk, rest⟩
    · exact .inl hn
    · exact .inr ⟨k, cap', cur', rfl, hbk, (heap_setCell_other W ⟨g, i, none⟩ k (strC l) (fun e => h.apart g rfl (congrArg some e))).trans hk, rest⟩

theorem turn_at : ∀ (l : List (Nat × List UInt8)) (i : Nat) (x : Nat × List UInt8), l[i]? = some x → ∀ j, j < 2 → (l.flatMap turnC)[i * 2 + j]? = (turnC x)[j]?
  | [], i, x, h, _, _ => by simp at h
  | y :: l, 0, x, h, j, hj => by
    have e : y = x := by simpa using h
    subst e
    rw [List.flatMap_cons, Nat.zero_mul, Nat.zero_add, List.getElem?_append_left (by simp [turnC]; omega)]
  | y :: l, i + 1, x, h, j, hj => by
    have hl : (turnC y).length = 2 := rfl
    rw [List.flatMap_cons, List.getElem?_append_right (by omega), hl, show (i + 1) * 2 + j - 2 = i * 2 + j by omega]
    exact turn_at l i x (by simpa using h) j hj

theorem shr_mod (keep : Int) (j : Nat) : keep.fdiv (2 ^ min ((j : Int) % 64).toNat IntKind.u64.bits) = keep / 2 ^ (j % 64) := by
  have e : ((j : Int) % 64).toNat = j % 64 := by omega
  have e2 : min (j % 64) IntKind.u64.bits = j % 64 := Nat.min_eq_left (by show j % 64 ≤ 64; omega)
  rw [e, e2]
  exact Int.fdiv_eq_ediv_of_nonneg _ (Int.le_of_lt (Int.pow_pos (by decide)))

/-- Of the first so many some are kept. -/
def keptTo (keep : Int) (R : RD) (j : Nat) : List (List UInt8) := (R.wait.zipIdx.take j).foldl (keepR keep) R.kept

theorem keptTo_len (keep : Int) (R : RD) (j : Nat) : (keptTo keep R j).length = R.kept.length := keepR_len keep _ _

theorem keptTo_succ (keep : Int) (R : RD) (j : Nat) (hj : j < R.wait.length) : keptTo keep R (j + 1) = keepR keep (keptTo keep R j) (R.wait[j], j) := by
  unfold keptTo
  have hl : j < R.wait.zipIdx.length := by simpa using hj
  rw [← List.take_append_getElem hl, List.foldl_append]
  simp

set_option linter.unusedSimpArgs false in
set_option maxRecDepth 100000 in
set_option maxHeartbeats 1600000 in
theorem restart_ref (w : World) (base B : Nat) (R : RD) (keep : Int) (h : RefO w base B R) (h1 : 1 ≤ R.kept.length) (h2 : R.kept.length ≤ 200) (hw : R.wait.length ≤ 1000000) (hat : ∀ x ∈ R.wait, x.1 < R.kept.length) (hbase : base ≤ w.heap.size) :
    Calls Try.prog 21 #[.pointer (some ⟨B, 0, none⟩), .int .u64 keep] w fun e w' => e = .returned (.tuple #[]) ∧ RefO w' base B (R.restarted keep) ∧ KeptR base w w' := by
  obtain ⟨kv, nv, wv, h⟩ := h
  have HM := hide h
  clear h
  obtain ⟨i0, hi0, hz0, hz1, hz2⟩ := info_parts Try.infoStr
  have HS : Hid (RefM w base B { R with kept := keptTo keep R 0 } kv nv wv) := by
    have e : keptTo keep R 0 = R.kept := rfl
    rw [e]; exact HM.out
  go_enter Try.func21, Try.ntmps21
  go_wp2
  go_loopw [4] (fun x wr => ∃ j : Nat, j ≤ R.wait.length ∧ x = .int .i64 j ∧ Hid (RefM wr base B { R with kept := keptTo keep R j } kv nv wv) ∧ Hid (KeptR base w wr)) (fun x _ => R.wait.length - (intOf x).toNat)
  case atStart => exact ⟨0, Nat.zero_le _, rfl, HS, hide (KeptR.refl _ _)⟩
  case round =>
    clear HS HM
    obtain ⟨j, hj, rfl, HI, HK⟩ := hrel
    obtain ⟨c0, -, c2, -, -, hf⟩ := HI.out.cells
    obtain ⟨wo, capw, rfl, hcw⟩ : ∃ wo capw, wv = .slice wo R.wait.length capw ∧ R.wait.length ≤ capw := by
      rcases HI.out.ownW.2 with ⟨rfl, e⟩ | ⟨g, cap, cur, rfl, -, -, hc, -⟩
      · exact ⟨none, 0, by rw [show R.wait.length = 0 from e], by rw [show R.wait.length = 0 from e]; exact Nat.le_refl _⟩
      · exact ⟨_, _, rfl, hc⟩
    obtain ⟨gk, capk, rfl, hck⟩ : ∃ gk capk, kv = .slice (some ⟨gk, 0, none⟩) R.kept.length capk ∧ R.kept.length ≤ capk := by
      have hl := keptTo_len keep R j
      rcases HI.out.ownK.2 with ⟨rfl, e⟩ | ⟨g, cap, cur, e, -, -, hc, -⟩
      · have e' : (keptTo keep R j).length = 0 := e
        omega
      · have hc' : (keptTo keep R j).length ≤ cap := hc
        have e' : kv = .slice (some ⟨g, 0, none⟩) (keptTo keep R j).length cap := e
        rw [hl] at e' hc'
        exact ⟨_, _, e', hc'⟩
    by_cases hjl : j < R.wait.length
    · have hlt : decide ((j : Int) < (R.wait.length : Int)) = true := decide_eq_true (by omega)
      obtain ⟨gw, rfl⟩ : ∃ gw, wo = some ⟨gw, 0, none⟩ := by
        rcases HI.out.ownW.2 with ⟨-, e⟩ | ⟨g, cap, cur, e, -⟩
        · have e' : R.wait.length = 0 := e
          omega
        · cases e; exact ⟨_, rfl⟩
      obtain ⟨at', data, hx⟩ : ∃ at' data, R.wait[j] = (at', data) := ⟨_, _, rfl⟩
      have hx2 : R.wait[j]? = some (at', data) := by rw [List.getElem?_eq_getElem hjl, hx]
      have ha := hat _ (List.getElem_mem hjl)
      rw [hx] at ha
      have ca := owns_cell HI.out.ownW (j * 2) _ (turn_at R.wait j _ hx2 0 (by decide))
      have cd := owns_cell HI.out.ownW (j * 2 + 1) _ (turn_at R.wait j _ hx2 1 (by decide))
      have hks := keptTo_succ keep R j hjl
      rw [hx] at hks

      by_cases hk : kept? keep j = true
      · have hks' : keptTo keep R (j + 1) = (keptTo keep R j).set at' data := by rw [hks]; unfold keepR; rw [if_pos hk]
        have hkb : (bits .and .u64 (keep / 2 ^ (j % 64)) 1 == 1) = true := hk
        have hsh : keep.fdiv (2 ^ min ((j : Int) % 64).toNat IntKind.u64.bits) = keep / 2 ^ (j % 64) := shr_mod keep j
        have hl := keptTo_len keep R j
        have hI2 : RefM wr base B { R with kept := keptTo keep R j } (.slice (some ⟨gk, 0, none⟩) (keptTo keep R j).length capk) nv (.slice (some ⟨gw, 0, none⟩) R.wait.length capw) := by rw [hl]; exact HI.out
        obtain ⟨hm3, hk3⟩ := hI2.setKept at' data
        obtain ⟨old, hold⟩ : ∃ old, (keptTo keep R j)[at']? = some old := ⟨_, List.getElem?_eq_getElem (by rw [hl]; exact ha)⟩
        have cg := owns_cell hI2.ownK at' (strC old) (by rw [List.getElem?_map, hold]; rfl)
        have fg := owns_thaw hI2.ownK at'
        have HN : Hid (RefM (wr.drew.setCell ⟨gk, at', none⟩ (.string ⟨data.toArray⟩)) base B { R with kept := keptTo keep R (j + 1) } (.slice (some ⟨gk, 0, none⟩) R.kept.length capk) nv (.slice (some ⟨gw, 0, none⟩) R.wait.length capw)) := by
          have hd := (hI2.later (Below.refl _ _).drew).setKept at' data
          have h3 := hd.1
          rw [hks']
          rw [← hl]
          exact h3
        have HKN : Hid (KeptR base w (wr.drew.setCell ⟨gk, at', none⟩ (.string ⟨data.toArray⟩))) := (HK.out.trans (KeptR.of_below (Below.refl _ _).drew)).trans ((hI2.later (Below.refl _ _).drew).setKept at' data).2
        clear hm3 hk3 hI2 hks hks' HI HK hl hold
        go_wp2_with fail
--@round
        refine upto_start (S := (fun w' => w'.cell? ⟨B, 0, none⟩ = some (.slice (some ⟨gk, 0, none⟩) R.kept.length capk) ∧ w'.cell? ⟨B, 2, none⟩ = some (.slice (some ⟨gw, 0, none⟩) R.wait.length capw) ∧ w'.cell? ⟨gw, j * 2, none⟩ = some (.int .i64 (at' : Int)) ∧ w'.cell? ⟨gw, j * 2 + 1, none⟩ = some (strC data))) (k := 21) (by kernel_rfl) (by exact ⟨c0, c2, ca, cd⟩) (fun hHeld => ?_)
        refine upto_run (v := ?_) 0 21 [21] rfl rfl (by kernel_rfl) (by kernel_rfl) (by kernel_rfl) (by kernel_rfl) (by kernel_rfl) (fun _ _ _ h => h) (by rfl) ?_ (by assumption) ?_
        rotate_left
        · (intro w hSw; (try dsimp only at hSw); obtain ⟨hS1, hS2, hS3, hS4⟩ := hSw; go_simp; with_reducible rfl)
        simp only [Act.put, List.setIfInBounds_toArray, List.set_cons_zero, List.set_cons_succ]
        refine upto_run (v := ?_) 1 22 [21] rfl rfl (by kernel_rfl) (by kernel_rfl) (by kernel_rfl) (by kernel_rfl) (by kernel_rfl) (fun _ _ _ h => h) (by rfl) ?_ (by assumption) ?_
        rotate_left
        · (intro w hSw; (try dsimp only at hSw); obtain ⟨hS1, hS2, hS3, hS4⟩ := hSw; go_simp; with_reducible rfl)
        simp only [Act.put, List.setIfInBounds_toArray, List.set_cons_zero, List.set_cons_succ]
        refine upto_run (v := ?_) 2 23 [21] rfl rfl (by kernel_rfl) (by kernel_rfl) (by kernel_rfl) (by kernel_rfl) (by kernel_rfl) (fun _ _ _ h => h) (by rfl) ?_ (by assumption) ?_
        rotate_left
        · (intro w hSw; (try dsimp only at hSw); obtain ⟨hS1, hS2, hS3, hS4⟩ := hSw; go_simp; with_reducible rfl)
        simp only [Act.put, List.setIfInBounds_toArray, List.set_cons_zero, List.set_cons_succ]
        refine upto_run (v := ?_) 3 24 [21] rfl rfl (by kernel_rfl) (by kernel_rfl) (by kernel_rfl) (by kernel_rfl) (by kernel_rfl) (fun _ _ _ h => h) (by rfl) ?_ (by assumption) ?_
        rotate_left
        · (intro w hSw; (try dsimp only at hSw); obtain ⟨hS1, hS2, hS3, hS4⟩ := hSw; go_simp; with_reducible rfl)
        simp only [Act.put, List.setIfInBounds_toArray, List.set_cons_zero, List.set_cons_succ]
        refine upto_run (v := ?_) 4 25 [21] rfl rfl (by kernel_rfl) (by kernel_rfl) (by kernel_rfl) (by kernel_rfl) (by kernel_rfl) (fun _ _ _ h => h) (by rfl) ?_ (by assumption) ?_
        rotate_left
        · (intro w hSw; (try dsimp only at hSw); obtain ⟨hS1, hS2, hS3, hS4⟩ := hSw; go_simp; with_reducible rfl)
        simp only [Act.put, List.setIfInBounds_toArray, List.set_cons_zero, List.set_cons_succ]
        refine upto_run (v := ?_) 5 26 [21] rfl rfl (by kernel_rfl) (by kernel_rfl) (by kernel_rfl) (by kernel_rfl) (by kernel_rfl) (fun _ _ _ h => h) (by rfl) ?_ (by assumption) ?_
        rotate_left
        · (intro w hSw; (try dsimp only at hSw); obtain ⟨hS1, hS2, hS3, hS4⟩ := hSw; go_simp; with_reducible rfl)
        simp only [Act.put, List.setIfInBounds_toArray, List.set_cons_zero, List.set_cons_succ]
        refine upto_run (v := ?_) 6 27 [21] rfl rfl (by kernel_rfl) (by kernel_rfl) (by kernel_rfl) (by kernel_rfl) (by kernel_rfl) (fun _ _ _ h => h) (by rfl) ?_ (by assumption) ?_
        rotate_left
        · (intro w hSw; (try dsimp only at hSw); obtain ⟨hS1, hS2, hS3, hS4⟩ := hSw; go_simp; with_reducible rfl)
        simp only [Act.put, List.setIfInBounds_toArray, List.set_cons_zero, List.set_cons_succ]
        refine upto_run (v := ?_) 7 28 [21] rfl rfl (by kernel_rfl) (by kernel_rfl) (by kernel_rfl) (by kernel_rfl) (by kernel_rfl) (fun _ _ _ h => h) (by rfl) ?_ (by assumption) ?_
        rotate_left
        · (intro w hSw; (try dsimp only at hSw); obtain ⟨hS1, hS2, hS3, hS4⟩ := hSw; go_simp; with_reducible rfl)
        simp only [Act.put, List.setIfInBounds_toArray, List.set_cons_zero, List.set_cons_succ]
        refine upto_run (v := ?_) 8 29 [21] rfl rfl (by kernel_rfl) (by kernel_rfl) (by kernel_rfl) (by kernel_rfl) (by kernel_rfl) (fun _ _ _ h => h) (by rfl) ?_ (by assumption) ?_
        rotate_left
        · (intro w hSw; (try dsimp only at hSw); obtain ⟨hS1, hS2, hS3, hS4⟩ := hSw; go_simp; with_reducible rfl)
        simp only [Act.put, List.setIfInBounds_toArray, List.set_cons_zero, List.set_cons_succ]
        refine upto_run (v := ?_) 9 30 [21] rfl rfl (by kernel_rfl) (by kernel_rfl) (by kernel_rfl) (by kernel_rfl) (by kernel_rfl) (fun _ _ _ h => h) (by rfl) ?_ (by assumption) ?_
        rotate_left
        · (intro w hSw; (try dsimp only at hSw); obtain ⟨hS1, hS2, hS3, hS4⟩ := hSw; go_simp; with_reducible rfl)
        simp only [Act.put, List.setIfInBounds_toArray, List.set_cons_zero, List.set_cons_succ]
        refine upto_run (v := ?_) 10 31 [21] rfl rfl (by kernel_rfl) (by kernel_rfl) (by kernel_rfl) (by kernel_rfl) (by kernel_rfl) (fun _ _ _ h => h) (by rfl) ?_ (by assumption) ?_
        rotate_left
        · (intro w hSw; (try dsimp only at hSw); obtain ⟨hS1, hS2, hS3, hS4⟩ := hSw; go_simp; with_reducible rfl)
        simp only [Act.put, List.setIfInBounds_toArray, List.set_cons_zero, List.set_cons_succ]
        refine upto_run (v := ?_) 11 32 [21] rfl rfl (by kernel_rfl) (by kernel_rfl) (by kernel_rfl) (by kernel_rfl) (by kernel_rfl) (fun _ _ _ h => h) (by rfl) ?_ (by assumption) ?_
        rotate_left
        · (intro w hSw; (try dsimp only at hSw); obtain ⟨hS1, hS2, hS3, hS4⟩ := hSw; go_simp; with_reducible rfl)
        simp only [Act.put, List.setIfInBounds_toArray, List.set_cons_zero, List.set_cons_succ]
        refine upto_run (v := ?_) 12 33 [21] rfl rfl (by kernel_rfl) (by kernel_rfl) (by kernel_rfl) (by kernel_rfl) (by kernel_rfl) (fun _ _ _ h => h) (by rfl) ?_ (by assumption) ?_
        rotate_left
        · (intro w hSw; (try dsimp only at hSw); obtain ⟨hS1, hS2, hS3, hS4⟩ := hSw; go_simp; with_reducible rfl)
        simp only [Act.put, List.setIfInBounds_toArray, List.set_cons_zero, List.set_cons_succ]
        refine upto_run (v := ?_) 13 34 [21] rfl rfl (by kernel_rfl) (by kernel_rfl) (by kernel_rfl) (by kernel_rfl) (by kernel_rfl) (fun _ _ _ h => h) (by rfl) ?_ (by assumption) ?_
        rotate_left
        · (intro w hSw; (try dsimp only at hSw); obtain ⟨hS1, hS2, hS3, hS4⟩ := hSw; go_simp; with_reducible rfl)
        simp only [Act.put, List.setIfInBounds_toArray, List.set_cons_zero, List.set_cons_succ]
        refine upto_run (v := ?_) 14 35 [21] rfl rfl (by kernel_rfl) (by kernel_rfl) (by kernel_rfl) (by kernel_rfl) (by kernel_rfl) (fun _ _ _ h => h) (by rfl) ?_ (by assumption) ?_
        rotate_left
        · (intro w hSw; (try dsimp only at hSw); obtain ⟨hS1, hS2, hS3, hS4⟩ := hSw; go_simp; with_reducible rfl)
        simp only [Act.put, List.setIfInBounds_toArray, List.set_cons_zero, List.set_cons_succ]
        refine upto_run (v := ?_) 15 36 [21] rfl rfl (by kernel_rfl) (by kernel_rfl) (by kernel_rfl) (by kernel_rfl) (by kernel_rfl) (fun _ _ _ h => h) (by rfl) ?_ (by assumption) ?_
        rotate_left
        · (intro w hSw; (try dsimp only at hSw); obtain ⟨hS1, hS2, hS3, hS4⟩ := hSw; go_simp; with_reducible rfl)
        simp only [Act.put, List.setIfInBounds_toArray, List.set_cons_zero, List.set_cons_succ]
        refine upto_run (v := ?_) 16 37 [21] rfl rfl (by kernel_rfl) (by kernel_rfl) (by kernel_rfl) (by kernel_rfl) (by kernel_rfl) (fun _ _ _ h => h) (by rfl) ?_ (by assumption) ?_
        rotate_left
        · (intro w hSw; (try dsimp only at hSw); obtain ⟨hS1, hS2, hS3, hS4⟩ := hSw; go_simp; with_reducible rfl)
        simp only [Act.put, List.setIfInBounds_toArray, List.set_cons_zero, List.set_cons_succ]
        refine upto_run (v := ?_) 17 38 [21] rfl rfl (by kernel_rfl) (by kernel_rfl) (by kernel_rfl) (by kernel_rfl) (by kernel_rfl) (fun _ _ _ h => h) (by rfl) ?_ (by assumption) ?_
        rotate_left
        · (intro w hSw; (try dsimp only at hSw); obtain ⟨hS1, hS2, hS3, hS4⟩ := hSw; go_simp; with_reducible rfl)
        simp only [Act.put, List.setIfInBounds_toArray, List.set_cons_zero, List.set_cons_succ]
        refine upto_run (v := ?_) 18 39 [21] rfl rfl (by kernel_rfl) (by kernel_rfl) (by kernel_rfl) (by kernel_rfl) (by kernel_rfl) (fun _ _ _ h => h) (by rfl) ?_ (by assumption) ?_
        rotate_left
        · (intro w hSw; (try dsimp only at hSw); obtain ⟨hS1, hS2, hS3, hS4⟩ := hSw; go_simp; with_reducible rfl)
        simp only [Act.put, List.setIfInBounds_toArray, List.set_cons_zero, List.set_cons_succ]
        refine upto_run (v := ?_) 19 40 [21] rfl rfl (by kernel_rfl) (by kernel_rfl) (by kernel_rfl) (by kernel_rfl) (by kernel_rfl) (fun _ _ _ h => h) (by rfl) ?_ (by assumption) ?_
        rotate_left
        · (intro w hSw; (try dsimp only at hSw); obtain ⟨hS1, hS2, hS3, hS4⟩ := hSw; go_simp; with_reducible rfl)
        simp only [Act.put, List.setIfInBounds_toArray, List.set_cons_zero, List.set_cons_succ]
        refine upto_run (v := ?_) 20 41 [21] rfl rfl (by kernel_rfl) (by kernel_rfl) (by kernel_rfl) (by kernel_rfl) (by kernel_rfl) (fun _ _ _ h => h) (by rfl) ?_ (by assumption) ?_
        rotate_left
        · (intro w hSw; (try dsimp only at hSw); obtain ⟨hS1, hS2, hS3, hS4⟩ := hSw; go_simp; with_reducible rfl)
        simp only [Act.put, List.setIfInBounds_toArray, List.set_cons_zero, List.set_cons_succ]
        refine upto_one 21 (by kernel_rfl) rfl (fun K hK => ?_)
        go_simp
        refine hK.out _ _ (fun h => absurd h (by decide)) ?_
        clear hK K
        try simp only [Act.put, List.setIfInBounds_toArray, List.set_cons_zero, List.set_cons_succ]
        refine upto_done (by kernel_rfl) ?_
--@endround
        clear c0 c2 ca cd cg fg hHeld
        go_wp2
        go_roundw
        case rel => exact ⟨j + 1, by omega, by go_num, HN, HKN⟩
        case measure => simp [intOf]; omega
      · have hks' : keptTo keep R (j + 1) = keptTo keep R j := by rw [hks]; unfold keepR; rw [if_neg hk]
        have HN : Hid (RefM wr base B { R with kept := keptTo keep R (j + 1) } (.slice (some ⟨gk, 0, none⟩) R.kept.length capk) nv (.slice (some ⟨gw, 0, none⟩) R.wait.length capw)) := by
          rw [hks']; exact HI.out
        have hkb : (bits .and .u64 (keep / 2 ^ (j % 64)) 1 == 1) = false := by simpa [kept?] using hk
        have hsh : keep.fdiv (2 ^ min ((j : Int) % 64).toNat IntKind.u64.bits) = keep / 2 ^ (j % 64) := shr_mod keep j
        clear hks hks' HI
        go_wp2

        go_roundw
        case rel => exact ⟨j + 1, by omega, by go_num, HN, HK⟩
        case measure => simp [intOf]; omega
    · obtain rfl : j = R.wait.length := by omega
      have hlt : decide ((R.wait.length : Int) < (R.wait.length : Int)) = false := decide_eq_false (by omega)
      have hl := keptTo_len keep R R.wait.length
      have hres : R.restarted keep = ⟨keptTo keep R R.wait.length, keptTo keep R R.wait.length, [], -1, false⟩ := by
        unfold RD.restarted keptTo
        rw [List.take_of_length_le (by simp)]
      have HRES := hide hres
      have hls : base ≤ wr.heap.size := Nat.le_trans hbase HK.out.size
      have HI2 : Hid (RefM wr base B { R with kept := keptTo keep R R.wait.length } (.slice (some ⟨gk, 0, none⟩) (keptTo keep R R.wait.length).length capk) nv (.slice wo R.wait.length capw)) := by rw [hl]; exact HI.out
      clear HI hres
      have HNEW : Hid (∀ k u, ((keptTo keep R R.wait.length).map strC)[k]? = some u → wr.cell? ((⟨gk, 0, none⟩ : Addr).add k) = some u) := fun k u hu => by
        rw [add_addr, Nat.zero_add]
        exact owns_cell HI2.out.ownK k u hu
      have HONE : Hid (∀ u ∈ (keptTo keep R R.wait.length).map strC, u.oneCell' = true) := fun u hu => by
        obtain ⟨l, -, rfl⟩ := List.mem_map.1 hu
        rfl
      have HOWN : Hid (wr.ownsRow base 9 1 (.slice none 0 0) 0 []) := World.ownsRow_nil _ _ _ _
      have HL := hide hl
      clear hl
      go_wp2_with (show wpList _ _ _ ({ dst := some 47, op := _, type := _, pos := _, after := _, guard := _ } :: _) _ _; refine wpList_append_lies _ rfl (.const (.slice none 0 0)) (.tmp 46) 50 rfl base 9 i0 (.string ⟨#[]⟩) 1 16 (by kernel_rfl) hi0 hz0 hz1 hz2 rfl (by decide) (.slice none 0 0) 0 [] rfl HOWN.out ⟨gk, 0, none⟩ R.kept.length capk ((keptTo keep R R.wait.length).map strC) rfl (by rw [List.length_map, HL.out, Nat.mul_one]) HNEW.out HONE.out (by omega) (by unfold maxLen; omega) (by omega) hls wr.heap.size rfl ?_)
      intro g5 cap5 w5 hown5 hgrow5 hat5 hlt5
      obtain ⟨hm6, hk6⟩ := HI2.out.newN (.slice (some ⟨g5, 0, none⟩) R.kept.length cap5) (keptTo keep R R.wait.length) hgrow5 (by rw [HL.out]; exact hown5) (fun b hb => by
        simp only [Value.ownBlock, Option.some.injEq] at hb
        subst hb
        rcases hat5 with h | h
        · cases h
        · exact Nat.le_of_eq h.symm)
      obtain ⟨hm7, hk7⟩ := hm6.noW
      have hm8 := hm7.field 4 (.bool false) R.fuse false hm7.fuse rfl
      have hk8 := KeptR.set hm7.low hm7.head (.inl rfl) 4 (.bool false)
      have hm9 := hm8.field 3 (.int .i64 (-1)) (-1) false (by decide) rfl
      have hk9 := KeptR.set hm8.low hm8.head (.inl rfl) 3 (.int .i64 (-1))
      have HM9 := hide hm9
      have HK9 := hide ((((HK.out.trans hk6).trans hk7).trans hk8).trans hk9)
      have hh := heads HI2.out hgrow5
      have d1 : w5.cell? ⟨B, 1, none⟩ = some nv := by rw [cell_of_row w5 _ 1 _ _ _ hh]; rfl
      have k1 : w5.frozen? ⟨B, 1, none⟩ = false := by simp [World.frozen?, hh]
      have d2 := hm6.cells.2.2.1
      have k2 := hm6.cells.2.2.2.2.2 2
      have d4 := hm7.cells.2.2.2.2.1
      have k4 := hm7.cells.2.2.2.2.2 4
      have d3 := hm8.cells.2.2.2.1
      have k3 := hm8.cells.2.2.2.2.2 3
      clear hown5 hgrow5 hat5 hlt5 hm6 hk6 hm7 hk7 hm8 hk8 hm9 hk9 hh HOWN HONE HNEW HI2 HK c0 c2 hf
      go_wp2
      rw [HRES.out]
      exact bodyPost_end (results_none rfl _ _ _) rfl ⟨rfl, ⟨_, _, _, HM9.out⟩, HK9.out⟩

end Go.Proofs.Ytjgodhfnnifchaa
