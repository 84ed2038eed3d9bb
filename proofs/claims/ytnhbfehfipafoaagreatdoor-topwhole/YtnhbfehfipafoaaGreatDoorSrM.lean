/- A store is read. -/
import Derived.Test.YtnhbfehfipafoaaGreatDoorWaV

namespace Go.Proofs.YtnhbfehfipafoaaGreatDoor
open Go.RowKit

def KeepK (W W' : World) : Prop := ∀ b, Kin W b → W'.heap[b]? = W.heap[b]?

theorem KeepK.cell {W W' : World} (h : KeepK W W') {b : Nat} (hb : Kin W b) (k : Nat) : W'.cell? ⟨b, k, none⟩ = W.cell? ⟨b, k, none⟩ := World.cell?_of_block (h b hb)

theorem RowS.keepK {W W' : World} {v : Value} {ks : List Int} (h : RowS W v ks) (hv : KinH W v) (hk : KeepK W W') : RowS W' v ks := by
 obtain ⟨ao, cap, rfl, hn, h6, hh⟩ := h
 refine ⟨ao, cap, rfl, hn, h6, fun h0 => ?_⟩
 obtain ⟨b, off, rfl, -, hc⟩ := hh h0
 have hb := hv ⟨b, off, none⟩ _ _ rfl h0
 exact ⟨b, off, rfl, (hb.same (hk b hb)).lt, fun i hi => (hk.cell hb _).trans (hc i hi)⟩

theorem KinH.keepK {W W' : World} {v : Value} (h : KinH W v) (hk : KeepK W W') : KinH W' v := fun p n c e h0 => (h p n c e h0).same (hk _ (h p n c e h0))

theorem NcIn.keepK {W W' : World} {q : Nc} (h : NcIn W q) (hk : KeepK W W') : NcIn W' q := by
 obtain ⟨⟨ao, cap, e, hn, hh⟩, hs1, hs2⟩ := h
 refine ⟨⟨ao, cap, e, hn, fun h0 => ?_⟩, hs1.keepK hk, fun b off n c e' i hi u hu => ?_⟩
 ·obtain ⟨b, off, rfl, -, hc⟩ := hh h0
  have hb := hs1 ⟨b, off, none⟩ _ _ e h0
  refine ⟨b, off, rfl, (hb.same (hk b hb)).lt, fun i r hi => ?_⟩
  obtain ⟨u, hu, hr⟩ := hc i r hi
  refine ⟨u, (hk.cell hb _).trans hu, hr.keepK ?_ hk⟩
  have hil : i < q.x.gens.length := (List.getElem?_eq_some_iff.1 hi).1
  exact hs2 b off _ _ e i hil u hu
 ·have hb := hs1 ⟨b, off, none⟩ _ _ e' (by omega)
  exact (hs2 b off n c e' i hi u ((hk.cell hb _).symm.trans hu)).keepK hk

theorem CatN.keepK {W W' : World} {v : Value} {qs : List Nc} (h : CatN W v qs) (hk : KeepK W W') : CatN W' v qs := by
 obtain ⟨ao, cap, e, hn, hh⟩ := h
 refine ⟨ao, cap, e, hn, fun h0 => ?_⟩
 obtain ⟨b, off, rfl, hb, hc⟩ := hh h0
 refine ⟨b, off, rfl, hb.same (hk b hb), fun i q hi => ?_⟩
 obtain ⟨h1, h2, h3, h4⟩ := hc i q hi
 exact ⟨(hk.cell hb _).trans h1, (hk.cell hb _).trans h2, (hk.cell hb _).trans h3, h4.keepK hk⟩

theorem keepK_set {W : World} {b : Nat} {cs : Array Value} {t : TypeId} {fz : Nat × Nat} (hb : W.heap[b]? = some (.cells cs t fz)) (ht : ¬ kinT t) (k : Nat) (v : Value) : KeepK W (W.setCell ⟨b, k, none⟩ v) := fun c hc => heap_setCell_other _ _ _ _ (fun e => by
 have e : c = b := e
 subst e
 obtain ⟨cs', t', fz', h, ht'⟩ := hc
 rw [hb] at h
 simp only [Option.some.injEq, Obj.cells.injEq] at h
 rw [← h.2.1] at ht'
 exact ht ht')

theorem sto_kin : ¬ kinT 96 := by unfold kinT; decide

theorem keepK_kept {base : Own} {W W' : World} (h : Kept base W W') : KeepK W W' := fun b hb => by
 obtain ⟨cs, t, fz, hx, ht⟩ := hb
 refine h.block b (heap_lt hx) (.inr fun cs' t' fz' hx' => ?_)
 rw [hx] at hx'
 simp only [Option.some.injEq, Obj.cells.injEq] at hx'
 rw [← hx'.2.1]
 rcases ht with rfl | rfl | rfl <;> unfold diskT <;> decide

theorem keepK_keptW {base : Own} {W W' : World} (h : KeptW base W W') : KeepK W W' := fun b hb => by
 obtain ⟨cs, t, fz, hx, ht⟩ := hb
 refine h.block b (heap_lt hx) (.inr fun cs' t' fz' hx' => ?_)
 rw [hx] at hx'
 simp only [Option.some.injEq, Obj.cells.injEq] at hx'
 rw [← hx'.2.1]
 rcases ht with rfl | rfl | rfl <;> unfold logT diskT <;> decide

theorem allC_split : ∀ {l l' : List Nmd} (a b : List OpV), allC l (a ++ b) = (0, l') → ∃ l1, allC l a = (0, l1) ∧ allC l1 b = (0, l')
 | l, _, [], _, h => ⟨l, rfl, h⟩
 | l, l', o :: t, b, h => by
  rw [List.cons_append, allC_cons] at h
  by_cases h0 : (applyC l o).1 = 0
  ·rw [if_pos h0] at h
   obtain ⟨l1, h1, h2⟩ := allC_split t b h
   exact ⟨l1, by rw [allC_cons, if_pos h0]; exact h1, h2⟩
  ·rw [if_neg h0] at h
   exact absurd (congrArg Prod.fst h) h0

theorem opF_v4 {o : OpV} (h : opF o = 0) : o.v.length ≤ 4 := by
 unfold opF at h
 split at h
 ·cases h
 ·rename_i h1
  unfold shapeB at h1
  simp only [Bool.and_eq_true, decide_eq_true_eq, Bool.not_eq_false] at h1
  exact h1.2

theorem owns_max {W : World} {base : Nat} {e : TypeId} {sz : Nat} {v : Value} {n : Nat} {xs : List Value} (h : W.ownsRow base e sz v n xs) : n ≤ 9223372036854775807 := by
 rcases h.2 with ⟨-, rfl⟩ | ⟨g, cap, cur, rfl, hb, hh, hc1, hc2, hc3, hc4⟩
 ·omega
 ·unfold maxLen at hc2
  omega

def SrdP (w : World) (S B : Nat) (base : Own) (D : Dsk) (m : Nat) (h : Hd) (l : List Nmd) (en : Nat) (e : Ending) (w' : World) : Prop :=
 ∃ L o n c qs, e = .returned .nilIface ∧ w.heap.size ≤ L ∧ StoB w' S B h (.slice o n c) (.pointer (some ⟨L, 0, none⟩)) ∧ CatN w' (.slice o n c) qs ∧ qs.map (·.x) = l ∧ LogM w' L B 82 ((m - 82 : Nat) : Int) h.first en ∧ DiskO w' base B D ∧ ButB w.heap.size S w w'

set_option linter.unusedSimpArgs false in
set_option maxRecDepth 100000 in
set_option maxHeartbeats 1600000 in
theorem sread_any (w : World) (base : Own) (S B : Nat) (D : Dsk) (m : Nat) (h : Hd) (l : List Nmd) (en : Nat) (x : StoB w S B h (.slice none 0 0) (.pointer none)) (hd : DiskO w base B D) (i : StoI D m h l en) (hm : m ≤ 200) (h86 : 86 ≤ m) (ht : TabP w) (hx : MaxL w) :
  Calls Tryz.prog 47 #[.pointer (some ⟨S, 0, none⟩)] w fun e w' => SrdP w S B base D m h l en e w' := by
 have ok := (newest_ok i.says.head).1
 obtain ⟨l0, hok0, htx, hds⟩ := i.says.says
 have X := hide x; have HD := hide hd; have HI := hide i; have HT := hide ht; have HX := hide hx; have HOK := hide ok; have HTX := hide htx; have HDS := hide hds; have HOK0 := hide hok0
 have HSL : Hid (S < w.heap.size) := heap_lt (show w.heap[S]? = _ from x)
 obtain ⟨c0, c1, c2, c3, c4, -⟩ := x.cells
 clear x hd i ht hx ok htx hds hok0
 go_enter Tryz.func47, Tryz.ntmps47
 go_wp2_with fail
 refine wp_region_held_drew (S := (fun w' => w'.cell? ⟨S, 0, none⟩ = some (.pointer (some ⟨B, 0, none⟩)) ∧ w'.cell? ⟨S, 1, none⟩ = some (.int .i64 (h.pl : Int)) ∧ w'.cell? ⟨S, 2, none⟩ = some (.int .u32 h.age) ∧ w'.cell? ⟨S, 3, none⟩ = some (.int .u32 h.first) ∧ w'.cell? ⟨S, 4, none⟩ = some (.int .u32 h.long))) (by kernel_rfl) (by (try dsimp only); go_keep) (fun hHeld => ?_)
 refine held_run (v := ?_) 0 8 rfl rfl (by kernel_rfl) (by kernel_rfl) (by kernel_rfl) (fun _ _ _ h => h) (by rfl) ?_ (by assumption) ?_
 rotate_left
 ·(intro w hSw; (try dsimp only at hSw); go_simp; with_reducible rfl)
 simp only [Act.put, List.setIfInBounds_toArray, List.set_cons_zero, List.set_cons_succ]
 refine held_run (v := ?_) 1 9 rfl rfl (by kernel_rfl) (by kernel_rfl) (by kernel_rfl) (fun _ _ _ h => h) (by rfl) ?_ (by assumption) ?_
 rotate_left
 ·(intro w hSw; (try dsimp only at hSw); go_simp; with_reducible rfl)
 simp only [Act.put, List.setIfInBounds_toArray, List.set_cons_zero, List.set_cons_succ]
 refine held_run (v := ?_) 2 10 rfl rfl (by kernel_rfl) (by kernel_rfl) (by kernel_rfl) (fun _ _ _ h => h) (by rfl) ?_ (by assumption) ?_
 rotate_left
 ·(intro w hSw; (try dsimp only at hSw); go_simp; with_reducible rfl)
 simp only [Act.put, List.setIfInBounds_toArray, List.set_cons_zero, List.set_cons_succ]
 refine held_run (v := ?_) 3 11 rfl rfl (by kernel_rfl) (by kernel_rfl) (by kernel_rfl) (fun _ _ _ h => h) (by rfl) ?_ (by assumption) ?_
 rotate_left
 ·(intro w hSw; (try dsimp only at hSw); go_simp; with_reducible rfl)
 simp only [Act.put, List.setIfInBounds_toArray, List.set_cons_zero, List.set_cons_succ]
 refine held_run (v := ?_) 4 12 rfl rfl (by kernel_rfl) (by kernel_rfl) (by kernel_rfl) (fun _ _ _ h => h) (by rfl) ?_ (by assumption) ?_
 rotate_left
 ·(intro w hSw; (try dsimp only at hSw); go_simp; with_reducible rfl)
 simp only [Act.put, List.setIfInBounds_toArray, List.set_cons_zero, List.set_cons_succ]
 refine held_run (v := ?_) 5 13 rfl rfl (by kernel_rfl) (by kernel_rfl) (by kernel_rfl) (fun _ _ _ h => h) (by rfl) ?_ (by assumption) ?_
 rotate_left
 ·(intro w hSw; (try dsimp only at hSw); go_simp; with_reducible rfl)
 simp only [Act.put, List.setIfInBounds_toArray, List.set_cons_zero, List.set_cons_succ]
 refine held_run (v := ?_) 6 14 rfl rfl (by kernel_rfl) (by kernel_rfl) (by kernel_rfl) (fun _ _ _ h => h) (by rfl) ?_ (by assumption) ?_
 rotate_left
 ·(intro w hSw; (try dsimp only at hSw); go_simp; with_reducible rfl)
 simp only [Act.put, List.setIfInBounds_toArray, List.set_cons_zero, List.set_cons_succ]
 refine held_run (v := ?_) 7 15 rfl rfl (by kernel_rfl) (by kernel_rfl) (by kernel_rfl) (fun _ _ _ h => h) (by rfl) ?_ (by assumption) ?_
 rotate_left
 ·(intro w hSw; (try dsimp only at hSw); go_simp; with_reducible rfl)
 simp only [Act.put, List.setIfInBounds_toArray, List.set_cons_zero, List.set_cons_succ]
 refine wpAnyH_ready (rs := [8]) (by kernel_rfl) (by simp) (AllReadyH.cons (o := _) rfl (fun K hK => ?_) AllReadyH.nil)
 go_simp
 (refine (readText_any _ base B D m h (HD.out.later (Below.refl _ _).drew) HI.out.up HI.out.well.len hm (by omega) HOK.out).mono ?_; rintro e w3 ⟨rfl, hb3'⟩; have hb3 : Below w.heap.size w w3 := (Below.refl _ _).drew.trans (hb3'.mono (by simp)); clear hb3'; obtain ⟨d0, d1, d2, d3, d4, -⟩ := StoB.cells (X.out.later hb3))
 go_wp2_with fail
 refine hK.out _ _ (by (try dsimp only); go_keep) (fun hHeld => ?_)
 clear hK K
 try simp only [Act.put, List.setIfInBounds_toArray, List.set_cons_zero, List.set_cons_succ]
 refine held_run (v := ?_) 9 7 rfl rfl (by kernel_rfl) (by kernel_rfl) (by kernel_rfl) (fun _ _ _ h => h) (by rfl) ?_ (by assumption) ?_
 rotate_left
 ·(intro w hSw; (try dsimp only at hSw); go_simp; with_reducible rfl)
 simp only [Act.put, List.setIfInBounds_toArray, List.set_cons_zero, List.set_cons_succ]
 refine held_run (v := ?_) 10 17 rfl rfl (by kernel_rfl) (by kernel_rfl) (by kernel_rfl) (fun _ _ _ h => h) (by rfl) ?_ (by assumption) ?_
 rotate_left
 ·(intro w hSw; (try dsimp only at hSw); go_simp; with_reducible rfl)
 simp only [Act.put, List.setIfInBounds_toArray, List.set_cons_zero, List.set_cons_succ]
 refine held_run (v := ?_) 11 18 rfl rfl (by kernel_rfl) (by kernel_rfl) (by kernel_rfl) (fun _ _ _ h => h) (by rfl) ?_ (by assumption) ?_
 rotate_left
 ·(intro w hSw; (try dsimp only at hSw); go_simp; with_reducible rfl)
 simp only [Act.put, List.setIfInBounds_toArray, List.set_cons_zero, List.set_cons_succ]
 refine held_run (v := ?_) 12 3 rfl rfl (by kernel_rfl) (by kernel_rfl) (by kernel_rfl) (fun _ _ _ h => h) (by rfl) ?_ (by assumption) ?_
 rotate_left
 ·(intro w hSw; (try dsimp only at hSw); go_simp; with_reducible rfl)
 simp only [Act.put, List.setIfInBounds_toArray, List.set_cons_zero, List.set_cons_succ]
 refine held_run (v := ?_) 13 4 rfl rfl (by kernel_rfl) (by kernel_rfl) (by kernel_rfl) (fun _ _ _ h => h) (by rfl) ?_ (by assumption) ?_
 rotate_left
 ·(intro w hSw; (try dsimp only at hSw); go_simp; with_reducible rfl)
 simp only [Act.put, List.setIfInBounds_toArray, List.set_cons_zero, List.set_cons_succ]
 refine wpAnyH_done (by kernel_rfl) ?_ _
 rw [HTX.out]
 have X3 := hide (X.out.later hb3); have HD3 := hide (HD.out.later hb3); have HT3 := hide (HT.out.below hb3); have HX3 := hide (HX.out.below hb3)
 have HB3 := hide hb3
 clear hb3 c0 c1 c2 c3 c4 d0 d1 d2 d3 d4 X HD HT HX
 go_wp2_with fail
 refine (parse_ok w3 _ l0 HOK0.out HT3.out HX3.out rfl).mono ?_
 rintro e w4 hres
 obtain ⟨o4, n4, k4, q4, rfl, hc4, hq4, hb4⟩ := catRes_ok hres
 have X4 := X3.out.later hb4
 obtain ⟨-, -, -, -, -, g5, -, gz⟩ := X4.cells
 have g6 := gz 5
 have HB4 := hide ((ButB.of (b := S) (HB3.out.trans (hb4.mono HB3.out.size))).set 5 (.slice o4 n4 k4))
 have HD4 := hide ((HD3.out.later hb4).set sto_type X4 5 (.slice o4 n4 k4))
 have HC4 := hide (hc4.keepK (keepK_set X4 sto_kin 5 (.slice o4 n4 k4)))
 have X5 := hide (X4.setNow (.slice o4 n4 k4))
 have HQ4 := hide hq4
 clear hres hc4 hq4 hb4 X4 gz X3 HD3 HT3 HX3 HB3
 go_wp2_with fail
 refine (openLog_any _ base S B D m h _ _ X5.out HD4.out HI.out.up HI.out.well.len hm h86 HOK.out).mono ?_
 rintro e w5 ⟨L, dv, dss, rfl, hL, hdt, hdd, hlg, hx5, hd5, hb5⟩
 have HSB : Hid (∀ W, Kin W S → False → False) := fun _ _ h => h
 have HB5 := hide (HB4.out.trans ⟨hb5.os, hb5.tape, hb5.output, hb5.size, fun k hk hn => hb5.block k (Nat.lt_of_lt_of_le hk HB4.out.size) hn⟩)
 have HL5 : Hid (w.heap.size ≤ L) := Nat.le_trans HB4.out.size hL
 have HC5 := hide (HC4.out.keepK (fun b hb => hb5.block b hb.lt (fun e => by
  subst e
  obtain ⟨cs, t, fz, h1, h2⟩ := hb
  rw [show _ = _ from X5.out] at h1
  simp only [Option.some.injEq, Obj.cells.injEq] at h1
  rw [← h1.2.1] at h2
  exact sto_kin h2)))
 have HDT := hide hdt; have HLG := hide hlg; have X6 := hide hx5; have HD5 := hide hd5
 have HDD : Hid (allC (q4.map (·.x)) ((dss.map (fun p => p.2.map (·.o))).drop 0).flatten = (0, l)) := by
  show _ = _
  rw [HQ4.out, List.drop_zero, hdd]
  exact HDS.out
 have HCO : Hid (CatOk (q4.map (·.x))) := by rw [HQ4.out]; exact HOK0.out
 have HE : Hid ((saysL h.first 82 (m - 82) (cont D)).e = en) := HI.out.says.e
 rw [HE.out] at HLG
 obtain ⟨dn, hdn⟩ : ∃ dn, dss.length = dn := ⟨_, rfl⟩
 have hdmax : dn ≤ 9223372036854775807 := by rw [← hdn]; exact owns_max hdt.1
 obtain ⟨do5, dc5, rfl⟩ := hdt.form
 rw [hdn] at HDT ⊢
 have HDN := hide hdn
 clear hL hdt hdd hlg hx5 hd5 hb5 hdn HSB HB4 HD4 HC4 X5 HQ4 HE
 go_wp2_with fail
 go_loopw [43] (fun ix wr => ∃ (k : Nat) (o : Option Addr) (n c : Nat) (qs : List Nc), k ≤ dn ∧ ix = .int .i64 k ∧ Hid (StoB wr S B h (.slice o n c) (.pointer (some ⟨L, 0, none⟩))) ∧ Hid (CatN wr (.slice o n c) qs) ∧ Hid (CatOk (qs.map (·.x))) ∧ Hid (allC (qs.map (·.x)) ((dss.map (fun p => p.2.map (·.o))).drop k).flatten = (0, l)) ∧ Hid (LogM wr L B 82 ((m - 82 : Nat) : Int) h.first en) ∧ Hid (DeedsT 0 wr (.slice do5 dn dc5) dss) ∧ Hid (DiskO wr base B D) ∧ Hid (ButB w.heap.size S w wr)) (fun ix _ => dn - (intOf ix).toNat)
 case atStart => exact ⟨0, o4, n4, k4, q4, Nat.zero_le _, rfl, X6, HC5, HCO, HDD, HLG, HDT, HD5, HB5⟩
 case round =>
  clear X6 HC5 HCO HDD HLG HDT HD5 HB5
  obtain ⟨k, o, n, c, qs, hk, rfl, X, HC, HCO, HAL, HLG, HDT, HD, HB⟩ := hrel
  by_cases hkl : k < dn
  ·have hdl : k < dss.length := by rw [HDN.out]; exact hkl
   obtain ⟨b, off, cap, e, hbl, cd, hop⟩ := DeedsN.at HDT.out.read hdl
   simp only [Value.slice.injEq] at e
   obtain ⟨rfl, -, rfl⟩ := e
   have hot := HDT.out.2 dss[k] (List.getElem_mem hdl)
   have HOL : Hid (dss[k].2.length ≤ 9223372036854775807) := owns_max hot.1
   obtain ⟨ao, ac, hao⟩ := hot.form
   rw [hao] at cd hop
   have hal := HAL.out
   have hdr : (dss.map (fun p => p.2.map (·.o))).drop k = dss[k].2.map (·.o) :: (dss.map (fun p => p.2.map (·.o))).drop (k + 1) := by
    rw [List.drop_eq_getElem_cons (by rw [List.length_map]; exact hdl), List.getElem_map]
   rw [hdr, List.flatten_cons] at hal
   obtain ⟨l1, ha1, ha2⟩ := allC_split _ _ hal
   have HV4 : Hid (∀ q ∈ dss[k].2, q.o.v.length ≤ 20) := fun q hq => by
    have := opF_v4 (allC_opF HCO.out _ (congrArg Prod.fst ha1) q.o (List.mem_map.2 ⟨q, hq, rfl⟩))
    omega
   have HOP := hide hop; have HA1 := hide ha1; have HA2 := hide ha2
   have HCO2 : Hid (CatOk l1) := by have := allC_ok HCO.out _ (congrArg Prod.fst ha1); rwa [ha1] at this
   clear hot hal hdr ha1 ha2 hop hao HAL
   generalize dss[k].2 = dk at *
   obtain ⟨ol, hol⟩ : ∃ ol, dk.length = ol := ⟨_, rfl⟩
   rw [hol] at cd HOP
   obtain ⟨-, -, -, -, -, c5, -⟩ := X.out.cells
   clear hol
   go_wp2_with fail
   refine up_start (A := fun j => decide (j = 4 ∨ j = 8 ∨ j = 9)) (S := (fun w' => w'.cell? ⟨S, 5, none⟩ = some (.slice o n c) ∧ w'.cell? ⟨b, off + k, none⟩ = some (.slice ao ol ac))) (by kernel_rfl) (by exact ⟨c5, cd⟩) (fun hHeld => ?_)
   refine up_pure (v := ?_) 0 47 rfl rfl (by kernel_rfl) (by kernel_rfl) (by kernel_rfl) (by kernel_rfl) (fun _ _ _ h => h) (by rfl) ?_ ?_
   rotate_left
   ·(intro w; go_simp; with_reducible rfl)
   simp only [Act.put, List.setIfInBounds_toArray, List.set_cons_zero, List.set_cons_succ]
   refine up_pure (v := ?_) 1 48 rfl rfl (by kernel_rfl) (by kernel_rfl) (by kernel_rfl) (by kernel_rfl) (fun _ _ _ h => h) (by rfl) ?_ ?_
   rotate_left
   ·(intro w; go_simp; with_reducible rfl)
   simp only [Act.put, List.setIfInBounds_toArray, List.set_cons_zero, List.set_cons_succ]
   refine up_pure (v := ?_) 2 49 rfl rfl (by kernel_rfl) (by kernel_rfl) (by kernel_rfl) (by kernel_rfl) (fun _ _ _ h => h) (by rfl) ?_ ?_
   rotate_left
   ·(intro w; go_simp; with_reducible rfl)
   simp only [Act.put, List.setIfInBounds_toArray, List.set_cons_zero, List.set_cons_succ]
   refine up_pure (v := ?_) 3 50 rfl rfl (by kernel_rfl) (by kernel_rfl) (by kernel_rfl) (by kernel_rfl) (fun _ _ _ h => h) (by rfl) ?_ ?_
   rotate_left
   ·(intro w; go_simp; with_reducible rfl)
   simp only [Act.put, List.setIfInBounds_toArray, List.set_cons_zero, List.set_cons_succ]
   refine up_pure (v := ?_) 5 52 rfl rfl (by kernel_rfl) (by kernel_rfl) (by kernel_rfl) (by kernel_rfl) (fun _ _ _ h => h) (by rfl) ?_ ?_
   rotate_left
   ·(intro w; go_simp; with_reducible rfl)
   simp only [Act.put, List.setIfInBounds_toArray, List.set_cons_zero, List.set_cons_succ]
   refine up_pure (v := ?_) 6 53 rfl rfl (by kernel_rfl) (by kernel_rfl) (by kernel_rfl) (by kernel_rfl) (fun _ _ _ h => h) (by rfl) ?_ ?_
   rotate_left
   ·(intro w; go_simp; with_reducible rfl)
   simp only [Act.put, List.setIfInBounds_toArray, List.set_cons_zero, List.set_cons_succ]
   refine up_pure (v := ?_) 7 54 rfl rfl (by kernel_rfl) (by kernel_rfl) (by kernel_rfl) (by kernel_rfl) (fun _ _ _ h => h) (by rfl) ?_ ?_
   rotate_left
   ·(intro w; go_simp; with_reducible rfl)
   simp only [Act.put, List.setIfInBounds_toArray, List.set_cons_zero, List.set_cons_succ]
   refine up_run (v := ?_) 4 51 [9, 10, 11, 12, 13, 14, 15, 16] rfl rfl (by kernel_rfl) (by kernel_rfl) (by kernel_rfl) (by kernel_rfl) (fun _ _ _ h => h) (by rfl) ?_ (by assumption) ?_
   rotate_left
   ·(intro w hSw; (try dsimp only at hSw); go_simp; with_reducible rfl)
   simp only [Act.put, List.setIfInBounds_toArray, List.set_cons_zero, List.set_cons_succ]
   refine up_run (v := ?_) 8 55 [9, 10, 11, 12, 13, 14, 15, 16] rfl rfl (by kernel_rfl) (by kernel_rfl) (by kernel_rfl) (by kernel_rfl) (fun _ _ _ h => h) (by rfl) ?_ (by assumption) ?_
   rotate_left
   ·(intro w hSw; (try dsimp only at hSw); go_simp; with_reducible rfl)
   simp only [Act.put, List.setIfInBounds_toArray, List.set_cons_zero, List.set_cons_succ]
   refine up_one 9 (by kernel_rfl) rfl (fun K hK => ?_)
   go_simp
   refine (after_any _ (.agg #[.slice o n c]) (.slice ao ol ac) qs dk ⟨_, rfl, HC.out.below (Below.refl _ _).drew⟩ HCO.out (HOP.out.below (Below.refl _ _).drew) HV4.out HOL.out).mono ?_
   rw [HA1.out]
   rintro e w3 hres
   obtain ⟨o2, n2, c2, qs2, rfl, hcn, hqs, hb3'⟩ := catRes_ok hres
   have hb3 : Below wr.heap.size wr w3 := (Below.refl _ _).drew.trans (hb3'.mono (by simp))
   obtain ⟨-, -, -, -, -, f5, f6, fz⟩ := (X.out.later hb3).cells
   have fd := (hb3.cell (p := ⟨b, off + k, none⟩) hbl).trans cd
   go_wp2_with fail
   refine hK.out _ _ (fun _ => ⟨f5, fd⟩) ?_
   clear hK K hHeld
   try simp only [Act.put, List.setIfInBounds_toArray, List.set_cons_zero, List.set_cons_succ]
   have hHeld : (fun w' => w'.cell? ⟨S, 5, none⟩ = some (.slice o n c) ∧ w'.cell? ⟨b, off + k, none⟩ = some (.slice ao ol ac)) w3 := ⟨f5, fd⟩
   refine up_pure (v := ?_) 10 46 rfl rfl (by kernel_rfl) (by kernel_rfl) (by kernel_rfl) (by kernel_rfl) (fun _ _ _ h => h) (by rfl) ?_ ?_
   rotate_left
   ·(intro w; go_simp; with_reducible rfl)
   simp only [Act.put, List.setIfInBounds_toArray, List.set_cons_zero, List.set_cons_succ]
   refine up_pure (v := ?_) 11 57 rfl rfl (by kernel_rfl) (by kernel_rfl) (by kernel_rfl) (by kernel_rfl) (fun _ _ _ h => h) (by rfl) ?_ ?_
   rotate_left
   ·(intro w; go_simp; with_reducible rfl)
   simp only [Act.put, List.setIfInBounds_toArray, List.set_cons_zero, List.set_cons_succ]
   refine up_pure (v := ?_) 12 58 rfl rfl (by kernel_rfl) (by kernel_rfl) (by kernel_rfl) (by kernel_rfl) (fun _ _ _ h => h) (by rfl) ?_ ?_
   rotate_left
   ·(intro w; go_simp; with_reducible rfl)
   simp only [Act.put, List.setIfInBounds_toArray, List.set_cons_zero, List.set_cons_succ]
   refine up_pure (v := ?_) 13 59 rfl rfl (by kernel_rfl) (by kernel_rfl) (by kernel_rfl) (by kernel_rfl) (fun _ _ _ h => h) (by rfl) ?_ ?_
   rotate_left
   ·(intro w; go_simp; with_reducible rfl)
   simp only [Act.put, List.setIfInBounds_toArray, List.set_cons_zero, List.set_cons_succ]
   refine up_pure (v := ?_) 14 60 rfl rfl (by kernel_rfl) (by kernel_rfl) (by kernel_rfl) (by kernel_rfl) (fun _ _ _ h => h) (by rfl) ?_ ?_
   rotate_left
   ·(intro w; go_simp; with_reducible rfl)
   simp only [Act.put, List.setIfInBounds_toArray, List.set_cons_zero, List.set_cons_succ]
   have fz5 := fz 5
   refine up_one 15 (by kernel_rfl) rfl (fun K hK => ?_)
   go_simp
   refine hK.out _ _ (fun h => absurd h (by decide)) ?_
   clear hK K hHeld
   try simp only [Act.put, List.setIfInBounds_toArray, List.set_cons_zero, List.set_cons_succ]
   refine up_one 16 (by kernel_rfl) rfl (fun K hK => ?_)
   go_simp
   refine hK.out _ _ (fun h => absurd h (by decide)) ?_
   clear hK K
   try simp only [Act.put, List.setIfInBounds_toArray, List.set_cons_zero, List.set_cons_succ]
   refine up_done (by kernel_rfl) ?_
   have X3 := X.out.later hb3
   have Xn := hide (X3.setNow (.slice o2 n2 c2)); have HCn := hide (hcn.keepK (keepK_set X3 sto_kin 5 (.slice o2 n2 c2)))
   have HCOn : Hid (CatOk (qs2.map (·.x))) := by rw [hqs]; exact HCO2.out
   have HALn : Hid (allC (qs2.map (·.x)) ((dss.map (fun p => p.2.map (·.o))).drop (k + 1)).flatten = (0, l)) := by show _ = _; rw [hqs]; exact HA2.out
   have HLGn := hide ((HLG.out.later hb3).aside (S := S) (by have := HSL.out; have := HL5.out; omega) 5 (.slice o2 n2 c2))
   have HDTn := hide ((HDT.out.later hb3).setSto X3 5 (.slice o2 n2 c2))
   have HDn := hide ((HD.out.later hb3).set sto_type X3 5 (.slice o2 n2 c2))
   have HBn := hide (HB.out.trans ((ButB.of (hb3.mono HB.out.size)).set (b := S) 5 (.slice o2 n2 c2)))
   clear X3 hb3 hb3' hres hcn hqs X HC HCO HLG HDT HD HB HA2 HCO2
   go_wp2
   go_roundw
   case rel => exact ⟨k + 1, o2, n2, c2, qs2, by omega, by go_num, Xn, HCn, HCOn, HALn, HLGn, HDTn, HDn, HBn⟩
   case measure => simp [intOf]; omega
  ·obtain rfl : k = dn := by omega
   have hal := HAL.out
   rw [List.drop_eq_nil_of_le (by rw [List.length_map, HDN.out]; exact Nat.le_refl _)] at hal
   have HQ : Hid (qs.map (·.x) = l) := congrArg Prod.snd hal
   clear hal HAL
   go_wp2
   go_ret
   exact ⟨L, o, n, c, qs, rfl, HL5.out, X.out, HC.out, HQ.out, HLG.out, HD.out, HB.out⟩

end Go.Proofs.YtnhbfehfipafoaaGreatDoor

/- A disk is formatted; a store is opened. -/
namespace Go.Proofs.YtnhbfehfipafoaaGreatDoor
open Go.RowKit

def stoT (t : TypeId) : Prop := logT t ∨ t = 96

structure KeptS (base : Own) (W W' : World) : Prop where
 os : W'.os = W.os
 tape : W'.tape = W.tape
 output : W'.output = W.output
 size : W.heap.size ≤ W'.heap.size
 block : ∀ b, b < W.heap.size → (¬ base.mine b ∨ ∀ cs t fz, W.heap[b]? = some (.cells cs t fz) → ¬ stoT t) → W'.heap[b]? = W.heap[b]?

theorem KeptS.refl (base : Own) (W : World) : KeptS base W W := ⟨rfl, rfl, rfl, Nat.le_refl _, fun _ _ _ => rfl⟩

theorem KeptS.of_below {base : Own} {W W' : World} (h : Below W.heap.size W W') : KeptS base W W' := ⟨h.os, h.tape, h.output, h.size, fun b hb _ => h.block b hb⟩

theorem KeptS.of_keptW {base : Own} {W W' : World} (h : KeptW base W W') : KeptS base W W' := ⟨h.os, h.tape, h.output, h.size, fun b hb hx => h.block b hb (hx.imp id (fun h1 cs t fz e h2 => h1 cs t fz e (.inl h2)))⟩

theorem KeptS.of_kept {base : Own} {W W' : World} (h : Kept base W W') : KeptS base W W' := ⟨h.os, h.tape, h.output, h.size, fun b hb hx => h.block b hb (hx.imp id (fun h1 cs t fz e h2 => h1 cs t fz e (.inl (.inl h2))))⟩

theorem KeptS.trans {base : Own} {W W' W'' : World} (h : KeptS base W W') (k : KeptS base W' W'') : KeptS base W W'' where
 os := k.os.trans h.os
 tape := k.tape.trans h.tape
 output := k.output.trans h.output
 size := Nat.le_trans h.size k.size
 block := fun b hb hx => by
  have h1 := h.block b hb hx
  refine (k.block b (Nat.lt_of_lt_of_le hb h.size) ?_).trans h1
  rcases hx with hx | hx
  ·exact .inl hx
  ·exact .inr fun cs t fz e => hx cs t fz (by rw [← h1]; exact e)

theorem KeptS.of_but {base : Own} {S B : Nat} {W W' : World} {h : Hd} {u lp : Value} (k : ButB W.heap.size S W W') (x : StoB W S B h u lp) (hS : base.mine S) : KeptS base W W' :=
 ⟨k.os, k.tape, k.output, k.size, fun b hb hx => k.block b hb (fun e => by
  subst e
  rcases hx with hx | hx
  ·exact hx hS
  ·exact hx _ _ _ x (.inr rfl))⟩

theorem KeptS.mono {base base' : Own} {W W' : World} (h : KeptS base W W') (hb : ∀ b, base.mine b → base'.mine b) : KeptS base' W W' :=
 ⟨h.os, h.tape, h.output, h.size, fun b hb' hx => h.block b hb' (hx.imp (fun h hm => h (hb b hm)) id)⟩

theorem KeptS.below {base : Own} {K : Nat} {w W W' : World} (h : KeptS base W W') (hb : Below K w W) (hK : ∀ b, base.mine b → K ≤ b) (hK2 : K ≤ W.heap.size) : Below K w W' :=
 ⟨h.os.trans hb.os, h.tape.trans hb.tape, h.output.trans hb.output, Nat.le_trans hb.size h.size, fun k hk => (h.block k (by omega) (.inl (fun hm => by have := hK k hm; omega))).trans (hb.block k hk)⟩

theorem keepK_keptS {base : Own} {W W' : World} (h : KeptS base W W') : KeepK W W' := fun b hb => by
 obtain ⟨cs, t, fz, hx, ht⟩ := hb
 refine h.block b (heap_lt hx) (.inr fun cs' t' fz' hx' => ?_)
 rw [hx] at hx'
 simp only [Option.some.injEq, Obj.cells.injEq] at hx'
 rw [← hx'.2.1]
 rcases ht with rfl | rfl | rfl <;> unfold stoT logT diskT <;> decide

def StoM (W : World) (base : Own) (S B m : Nat) (h : Hd) (l : List Nmd) (en : Nat) : Prop :=
 ∃ L o n c qs, StoB W S B h (.slice o n c) (.pointer (some ⟨L, 0, none⟩)) ∧ CatN W (.slice o n c) qs ∧ qs.map (·.x) = l ∧ LogM W L B 82 ((m - 82 : Nat) : Int) h.first en ∧ base.mine L ∧ base.mine S

theorem StoM.later {W W' : World} {base : Own} {S B m : Nat} {h : Hd} {l : List Nmd} {en : Nat} (x : StoM W base S B m h l en) (hb : Below W.heap.size W W') : StoM W' base S B m h l en := by
 obtain ⟨L, o, n, c, qs, x1, x2, x3, x4, x5, x6⟩ := x
 exact ⟨L, o, n, c, qs, x1.later hb, x2.below hb, x3, x4.later hb, x5, x6⟩

structure StoreP (W : World) (base : Own) (S B : Nat) (D : Dsk) (m : Nat) (h : Hd) (l : List Nmd) (en : Nat) : Prop where
 mem : StoM W base S B m h l en
 disk : DiskO W base B D
 says : StoI D m h l en

theorem StoreP.later {W W' : World} {base : Own} {S B : Nat} {D : Dsk} {m : Nat} {h : Hd} {l : List Nmd} {en : Nat} (x : StoreP W base S B D m h l en) (hb : Below W.heap.size W W') : StoreP W' base S B D m h l en := ⟨x.mem.later hb, x.disk.later hb, x.says⟩

def FmtP (w : World) (base : Own) (B m : Nat) (e : Ending) (w' : World) : Prop := e = .returned .nilIface ∧ ∃ D h, DiskO w' base B D ∧ StoI D m h [] 0 ∧ Free D ∧ Kept base w w'

set_option linter.unusedSimpArgs false in
set_option maxRecDepth 100000 in
set_option maxHeartbeats 1600000 in
theorem format_any (w : World) (base : Own) (B m : Nat) (hd : DiskO w base B (newD m)) (hm : m ≤ 200) (h86 : 86 ≤ m) (ht : TabP w) (hbase : base.h ≤ w.heap.size) :
  Calls Tryz.prog 14 #[.pointer (some ⟨B, 0, none⟩)] w fun e w' => FmtP w base B m e w' := by
 have HW := hide (newD_well m)
 have HS := hide (sectors_any w base B (newD m) hd)
 rw [HW.out.len] at HS
 have HD := hide hd; have HT := hide ht; have HBA := hide hbase
 have HNN := hide (newest_newD m)
 clear hd ht hbase
 go_enter Tryz.func14, Tryz.ntmps14
 go_wp2_with fail
 refine HS.out.mono ?_
 rintro e w1 ⟨rfl, hb1⟩
 have HB1 := hide hb1; have HD1 := hide (HD.out.later hb1); have HT1 := hide (HT.out.below hb1)
 clear hb1 HD HT HS
 have g86 : decide ((m : Int) < 86) = false := decide_eq_false (by omega)
 have g86' : ¬ ((m : Int) < 86) := by omega
 go_wp2_with fail
 refine (newest_any w1 base B (newD m) m HD1.out rfl HW.out.len (by omega) hm).mono ?_
 rintro e w2 ⟨rfl, hb2⟩
 rw [HNN.out]
 have HB2 := hide (HB1.out.trans (hb2.mono HB1.out.size)); have HD2 := hide (HD1.out.later hb2); have HT2 := hide (HT1.out.below hb2)
 have hbA := alloc_below w2 (.cells #[.int .i64 0, .int .u32 0, .int .u32 0, .int .u32 0] 91)
 have HB3 := hide (HB2.out.trans (hbA.mono HB2.out.size)); have HD3 := hide (HD2.out.later hbA); have HT3 := hide (HT2.out.below hbA)
 obtain ⟨z0, z1, z2, z3, z4, z5, z6, z7⟩ := HdB.cells (HdB.new w2 (.int .i64 0) (.int .u32 0) (.int .u32 0) (.int .u32 0))
 clear hb2 hbA HB1 HD1 HT1 HB2 HD2 HT2
 rw [show hdV ((none : Option Hd).getD hd0) = .agg #[.int .i64 0, .int .u32 0, .int .u32 0, .int .u32 0] from rfl, show (none : Option Hd).isSome = false from rfl]
 go_wp2_with fail
 refine (lay_any _ base B (newD m) m hd0 (.agg #[.slice none 0 0]) [] 1 HD3.out rfl HW.out hm h86 (by decide) ⟨_, rfl, catN_nil _⟩ catOk_nil HT3.out (by omega) (Nat.le_trans HBA.out HB3.out.size)).mono ?_
 rintro e w4 ⟨F, hF, hfr, rfl, hd4, hk4⟩
 have htx : textC (List.map (·.x) ([] : List Nc)) = [] := rfl
 rw [htx] at hd4 ⊢
 have hok := (layD_free (n := nextHd hd0 F 0) (t := []) (D := newD m) ⟨rfl, by show (-1 : Int) < 0; decide⟩).1
 obtain ⟨hi, hfree⟩ := format_new h86 hF
 rw [show ([] : List UInt8).length = 0 from rfl] at hd4 ⊢
 rw [hok]
 have HFIN : Hid (FmtP w base B m (.returned .nilIface) w4) := ⟨rfl, _, _, hd4, hi, hfree, (Kept.of_below HB3.out).trans hk4⟩
 clear hok hi hfree hd4 hk4 hfr hF htx
 rw [show okV true = .nilIface from rfl]
 go_wp2
 go_ret
 exact HFIN.out

def OpnP (w : World) (base : Own) (B : Nat) (D : Dsk) (m : Nat) (h : Hd) (l : List Nmd) (en : Nat) (e : Ending) (w' : World) : Prop :=
 ∃ S, e = .returned (.tuple #[.pointer (some ⟨S, 0, none⟩), .nilIface]) ∧ w.heap.size ≤ S ∧ StoreP w' base S B D m h l en ∧ Below w.heap.size w w'

set_option linter.unusedSimpArgs false in
set_option maxRecDepth 100000 in
set_option maxHeartbeats 1600000 in
theorem open_any (w : World) (base : Own) (B : Nat) (D : Dsk) (m : Nat) (h : Hd) (l : List Nmd) (en : Nat) (hd : DiskO w base B D) (i : StoI D m h l en) (hm : m ≤ 200) (h86 : 86 ≤ m) (ht : TabP w) (hx : MaxL w) (hbase : base.h ≤ w.heap.size) :
  Calls Tryz.prog 13 #[.pointer (some ⟨B, 0, none⟩)] w fun e w' => OpnP w base B D m h l en e w' := by
 have HS := hide (sectors_any w base B D hd)
 rw [i.well.len] at HS
 have HD := hide hd; have HI := hide i; have HT := hide ht; have HX := hide hx; have HBA := hide hbase
 clear hd i ht hx hbase
 have g86 : decide ((m : Int) < 86) = false := decide_eq_false (by omega)
 have g86' : ¬ ((m : Int) < 86) := by omega
 go_enter Tryz.func13, Tryz.ntmps13
 go_wp2_with fail
 refine HS.out.mono ?_
 rintro e w1 ⟨rfl, hb1⟩
 have HB1 := hide hb1; have HD1 := hide (HD.out.later hb1)
 clear hb1 HD HS
 go_wp2_with fail
 refine (newest_any w1 base B D m HD1.out HI.out.up HI.out.well.len (by omega) hm).mono ?_
 rintro e w2 ⟨rfl, hb2⟩
 rw [HI.out.says.head]
 have HB2 := hide (HB1.out.trans (hb2.mono HB1.out.size)); have HD2 := hide (HD1.out.later hb2)
 have hbA := alloc_below w2 (.cells #[.int .i64 (h.pl : Int), .int .u32 h.age, .int .u32 h.first, .int .u32 h.long] 91)
 have HB3 := hide (HB2.out.trans (hbA.mono HB2.out.size)); have HD3 := hide (HD2.out.later hbA)
 obtain ⟨z0, z1, z2, z3, z4, z5, z6, z7⟩ := HdB.cells (HdB.new w2 (.int .i64 (h.pl : Int)) (.int .u32 h.age) (.int .u32 h.first) (.int .u32 h.long))
 clear hb2 hbA HB1 HD1 HB2 HD2
 rw [show hdV ((some h : Option Hd).getD hd0) = .agg #[.int .i64 (h.pl : Int), .int .u32 h.age, .int .u32 h.first, .int .u32 h.long] from rfl, show (some h : Option Hd).isSome = true from rfl]
 have hbS := alloc_below (w2.alloc (.cells #[.int .i64 (h.pl : Int), .int .u32 h.age, .int .u32 h.first, .int .u32 h.long] 91)) (.cells #[.pointer (some ⟨B, 0, none⟩), .int .i64 (h.pl : Int), .int .u32 h.age, .int .u32 h.first, .int .u32 h.long, .slice none 0 0, .pointer none] 96)
 have e3 : (w2.alloc (.cells #[.int .i64 (h.pl : Int), .int .u32 h.age, .int .u32 h.first, .int .u32 h.long] 91)).heap.size = w2.heap.size + 1 := by simp
 have xs := StoB.new (w2.alloc (.cells #[.int .i64 (h.pl : Int), .int .u32 h.age, .int .u32 h.first, .int .u32 h.long] 91)) B h (.slice none 0 0) (.pointer none)
 rw [e3] at xs
 have XS := hide xs
 have HB4 := hide (HB3.out.trans (hbS.mono HB3.out.size)); have HD4 := hide (HD3.out.later hbS)
 have HS3 : Hid (w.heap.size ≤ w2.heap.size + 1) := by show _ ≤ _; rw [← e3]; exact HB3.out.size
 clear hbS xs HB3 HD3
 go_wp2_with fail
 generalize (w2.alloc (.cells #[.int .i64 (h.pl : Int), .int .u32 h.age, .int .u32 h.first, .int .u32 h.long] 91)).alloc (.cells #[.pointer (some ⟨B, 0, none⟩), .int .i64 (h.pl : Int), .int .u32 h.age, .int .u32 h.first, .int .u32 h.long, .slice none 0 0, .pointer none] 96) = W4 at *
 refine (sread_any W4 base (w2.heap.size + 1) B D m h l en XS.out HD4.out HI.out hm h86 (HT.out.below HB4.out) (HX.out.below HB4.out)).mono ?_
 rintro e w5 ⟨L, o, n, c, qs, rfl, hL, hsx, hcn, hq, hlg, hd5, hb5⟩
 have HFIN : Hid (OpnP w base B D m h l en (.returned (.tuple #[.pointer (some ⟨w2.heap.size + 1, 0, none⟩), .nilIface])) w5) :=
  ⟨_, rfl, HS3.out, ⟨⟨L, o, n, c, qs, hsx, hcn, hq, hlg, .inl (Nat.le_trans HBA.out (Nat.le_trans HB4.out.size hL)), .inl (Nat.le_trans HBA.out HS3.out)⟩, hd5, HI.out⟩, hb5.below HB4.out HS3.out HB4.out.size⟩
 clear hL hsx hcn hq hlg hd5 hb5 XS HD4 HB4
 go_wp2
 go_ret2
 exact HFIN.out

end Go.Proofs.YtnhbfehfipafoaaGreatDoor
