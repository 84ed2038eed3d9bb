/- A named lattice is checked. -/
import Derived.Test.YtcnllfnikajddaaBiH
import Derived.Test.YtcnllfnikajddaaTl2
import Derived.Test.YtcnllfnikajddaaGKA
import Derived.Test.YtcnllfnikajddaaInsert
import Derived.Test.YtcnllfnikajddaaGcdA
import Derived.Laws.CopyOwn
import Derived.Test.YtcnllfnikajddaaMix
import Derived.Deep.AppendLies
import Derived.OwnWalk

namespace Go.Proofs.Ytcnllfnikajddaa
open Go.RowKit

def gensF (gs : List (List Int)) (n : Int) : Nat := match gs with
 | [] => 0
 | g :: t => if genF g n = 0 then gensF t n else genF g n

def nmF (x : Nmd) : Nat := if nmOk x.name = false then 3 else if sizeOk x.n = false then 1 else if 10 < x.gens.length then 2 else gensF x.gens x.n

theorem gensF_nil {gs : List (List Int)} {n : Int} (h : ∀ g ∈ gs, genF g n = 0) : gensF gs n = 0 := by
 induction gs with
 | nil => rfl
 | cons g t ih => rw [gensF, if_pos (h g (List.mem_cons_self ..))]; exact ih fun y hy => h y (List.mem_cons_of_mem _ hy)

theorem gensF_ok {gs : List (List Int)} {n : Int} (h : gensF gs n = 0) : ∀ g ∈ gs, genF g n = 0 := by
 induction gs with
 | nil => intro g hg; cases hg
 | cons g t ih =>
  rw [gensF] at h
  by_cases h0 : genF g n = 0
  ·rw [if_pos h0] at h
   intro y hy
   rcases List.mem_cons.1 hy with rfl | hy
   ·exact h0
   ·exact ih h y hy
  ·rw [if_neg h0] at h; exact absurd h h0

theorem gensF_from (gs : List (List Int)) (n : Int) (k : Nat) (hk : k < gs.length) : gensF (gs.drop k) n = if genF gs[k] n = 0 then gensF (gs.drop (k + 1)) n else genF gs[k] n := by
 rw [List.drop_eq_getElem_cons hk, gensF]

theorem nmF_ok {x : Nmd} : nmF x = 0 ↔ NmOk x := by
 unfold nmF
 constructor
 ·intro h
  cases h1 : nmOk x.name with
  | false => rw [if_pos h1] at h; cases h
  | true =>
  rw [if_neg (by rw [h1]; decide)] at h
  cases h2 : sizeOk x.n with
  | false => rw [if_pos h2] at h; cases h
  | true =>
  rw [if_neg (by rw [h2]; decide)] at h
  by_cases h3 : 10 < x.gens.length
  ·rw [if_pos h3] at h; cases h
  ·rw [if_neg h3] at h
   exact ⟨h1, of_decide_eq_true h2, by omega, gensF_ok h⟩
 ·intro h
  rw [if_neg (by rw [h.name]; decide), if_neg (by rw [show sizeOk x.n = true from decide_eq_true h.n]; decide), if_neg (by have := h.few; omega)]
  exact gensF_nil h.gens

set_option linter.unusedSimpArgs false in
set_option maxRecDepth 100000 in
set_option maxHeartbeats 1600000 in
theorem bcheck_any (w : World) (q : Nc) (hq : NcIn w q) (hl : q.x.gens.length ≤ 1000) (hg : ∀ g ∈ q.x.gens, g.length ≤ 1000000) :
  Calls Try.prog 18 #[q.val] w fun e w' => e = .returned (errV (nmF q.x)) ∧ Below w.heap.size w w' := by
 obtain ⟨⟨nm, n, gens⟩, go, gl, gc⟩ := q
 have hin : RowsS w (.slice go gl gc) gens := hq
 dsimp only at hl hg
 have hgl : gl = gens.length := by
  obtain ⟨_, _, e, -⟩ := id hin
  simp only [Value.slice.injEq] at e
  exact e.2.1
 subst hgl
 have HIN := hide hin; have HG := hide hg
 clear hq hin hg
 show Calls _ _ #[.agg #[.string nm, .int .i64 n, .slice go gens.length gc]] w _
 have X0 := hide (ThreeV.new w (.string nm) (.int .i64 n) (.slice go gens.length gc) 37)
 have HB := hide (alloc_below w (.cells #[.string nm, .int .i64 n, .slice go gens.length gc] 37))
 obtain ⟨c0, c1, c2, -⟩ := X0.out
 obtain ⟨F, hF⟩ : ∃ F, nmF ⟨nm, n, gens⟩ = F := ⟨_, rfl⟩
 rw [hF]
 unfold nmF at hF
 dsimp only at hF
 cases hn : nmOk nm with
 | false =>
  rw [if_pos hn] at hF
  subst hF
  go_enter Try.func18, Try.ntmps18
  go_wp2_with fail
  refine (name_any nm _).mono ?_
  rintro e w1 ⟨rfl, rfl⟩
  rw [hn]
  clear hn
  go_wp2
  go_ret
  exact ⟨rfl, HB.out⟩
 | true =>
 rw [if_neg (by rw [hn]; decide)] at hF
 cases hz : sizeOk n with
 | false =>
  rw [if_pos hz] at hF
  subst hF
  go_enter Try.func18, Try.ntmps18
  go_wp2_with fail
  refine (name_any nm _).mono ?_
  rintro e w1 ⟨rfl, rfl⟩
  rw [hn]
  clear hn
  go_wp2_with fail
  refine (bsize_any n _).mono ?_
  rintro e w1 ⟨rfl, rfl⟩
  rw [hz]
  clear hz
  go_wp2
  go_ret
  exact ⟨rfl, HB.out⟩
 | true =>
 rw [if_neg (by rw [hz]; decide)] at hF
 by_cases h10 : 10 < gens.length
 ·rw [if_pos h10] at hF
  subst hF
  have g0 : decide (10 < (gens.length : Int)) = true := decide_eq_true (by omega)
  go_enter Try.func18, Try.ntmps18
  go_wp2_with fail
  refine (name_any nm _).mono ?_
  rintro e w1 ⟨rfl, rfl⟩
  rw [hn]
  clear hn
  go_wp2_with fail
  refine (bsize_any n _).mono ?_
  rintro e w1 ⟨rfl, rfl⟩
  rw [hz]
  clear hz h10
  go_wp2
  go_ret
  exact ⟨rfl, HB.out⟩
 rw [if_neg h10] at hF
 have g0 : decide (10 < (gens.length : Int)) = false := decide_eq_false (by omega)
 have HF := hide hF
 clear hF h10
 go_enter Try.func18, Try.ntmps18
 go_wp2_with fail
 generalize w.alloc (.cells #[.string nm, .int .i64 n, .slice go gens.length gc] 37) = W at *
 refine (name_any nm _).mono ?_
 rintro e w1 ⟨rfl, rfl⟩
 rw [hn]
 clear hn
 go_wp2_with fail
 refine (bsize_any n _).mono ?_
 rintro e w1 ⟨rfl, rfl⟩
 rw [hz]
 clear hz
 go_wp2_with fail
 go_loopw [23] (fun i wr => ∃ k : Nat, k ≤ gens.length ∧ i = .int .i64 k ∧ Hid (gensF (gens.drop k) n = F) ∧ Hid (ThreeV wr w.heap.size (.string nm) (.int .i64 n) (.slice go gens.length gc)) ∧ Hid (Below w.heap.size w wr)) (fun i _ => gens.length - (intOf i).toNat)
 case atStart => exact ⟨0, Nat.zero_le _, rfl, HF, X0, HB⟩
 case round =>
  clear HF X0 HB c0 c1 c2
  obtain ⟨k, hk, rfl, HK, X0, HB⟩ := hrel
  obtain ⟨c0, c1, c2, -⟩ := X0.out
  by_cases hkl : k < gens.length
  ·have hf := HK.out
   rw [gensF_from gens n k hkl] at hf
   obtain ⟨go', gc', e, -, hh⟩ := HIN.out
   simp only [Value.slice.injEq, true_and] at e
   obtain ⟨rfl, rfl⟩ := e
   obtain ⟨b, off, rfl, hlt, hc⟩ := hh (by omega)
   obtain ⟨u, hu, hr⟩ := hc k gens[k] (List.getElem?_eq_getElem hkl)
   obtain ⟨uo, uc, rfl⟩ := hr.form
   have d0 := (HB.out.cell (p := ⟨b, off + k, none⟩) hlt).trans hu
   have hltw : b < wr.heap.size := Nat.lt_of_lt_of_le hlt HB.out.size
   have HR := hide (hr.below HB.out (Nat.le_refl _))
   have HL := hide (HG.out gens[k] (List.getElem_mem hkl))
   have HFF := hide hf
   clear hh hc hu hr hf HK
   generalize gens[k] = g at *
   obtain ⟨l, hl'⟩ : ∃ l, g.length = l := ⟨_, rfl⟩
   rw [hl'] at d0 HR
   have HLL := hide hl'
   clear hl'
   go_wp2_with fail
   go_region_held3 (fun w' => w'.cell? ⟨w.heap.size, 1, none⟩ = some (.int .i64 n) ∧ w'.cell? ⟨w.heap.size, 2, none⟩ = some (.slice (some ⟨b, off, none⟩) gens.length gc) ∧ w'.cell? ⟨b, off + k, none⟩ = some (.slice uo l uc)) (go_keep)
    (first
     | (go_at_call 14; refine (checkGen_any _ (.slice uo l uc) g n (HR.out.below ((Below.refl _ _).drew) (Nat.le_refl _)) HL.out).mono ?_; rintro e w3 ⟨rfl, hw3⟩; have hb3 : Below wr.heap.size wr w3 := (by rw [hw3]; exact (Below.refl _ _).drew); have X3 := hide (X0.out.later hb3); have HB3 := hide (HB.out.trans (hb3.mono HB.out.size)); obtain ⟨y0, y1, y2, -⟩ := X3.out; have cv := (hb3.cell (p := ⟨b, off + k, none⟩) hltw).trans d0; clear hw3 hb3))
   clear c0 c1 c2 d0 X0 HB HR
   by_cases h0 : genF g n = 0
   ·rw [h0]
    have e0 : errV 0 = .nilIface := rfl
    rw [e0]
    have hf := HFF.out
    rw [if_pos h0] at hf
    have HF2 := hide hf
    clear hf h0 e0 HFF
    go_wp2
    go_roundw
    case rel => exact ⟨k + 1, by omega, by go_num, HF2, X3, HB3⟩
    case measure => simp [intOf]; omega
   ·have hf := HFF.out
    rw [if_neg h0] at hf
    have e0 : errV (genF g n) = .iface 49 (.int .i64 (genF g n : Nat)) := if_neg h0
    rw [e0]
    have HF2 : Hid (errV F = .iface 49 (.int .i64 (genF g n : Nat))) := by rw [← hf]; exact e0
    clear hf h0 e0 HFF
    go_wp2
    go_ret
    exact ⟨by rw [HF2.out]; rfl, HB3.out⟩
  ·obtain rfl : k = gens.length := by omega
   have hf := HK.out
   rw [List.drop_length] at hf
   have HF2 : Hid (errV F = .nilIface) := by rw [← hf]; rfl
   clear hf HK
   go_wp2
   go_ret
   exact ⟨by rw [HF2.out]; rfl, HB.out⟩

end Go.Proofs.Ytcnllfnikajddaa

/- TopBag, the pure part: put in and taken out. -/
namespace Go.Proofs.Ytcnllfnikajddaa
open Go.RowKit

theorem placeL_set {cs : List Nmd} {s : ByteArray} {P : Nat} (hP : P < cs.length) (hp : placeL cs s = P) (y : Nmd) (hy : y.name = cs[P].name) : placeL (cs.set P y) s = P ∧ hasL (cs.set P y) s = hasL cs s := by
 have hnm : (cs.set P y).map (·.name) = cs.map (·.name) := by
  apply List.ext_getElem (by simp)
  intro i h1 h2
  simp only [List.getElem_map, List.getElem_set]
  split
  ·rename_i e; subst e; exact hy
  ·rfl
 have h1 : ∀ l : List Nmd, placeL l s = (l.map (·.name)).findIdx (fun x => !nlt x s) := fun l => by unfold placeL; rw [List.findIdx_map]; rfl
 have h2 : ∀ l : List Nmd, hasL l s = (l.map (·.name)).any (fun x => decide (x = s)) := fun l => by unfold hasL; rw [List.any_map]; rfl
 refine ⟨by rw [h1, hnm, ← h1, hp], by rw [h2, hnm, ← h2]⟩

theorem applyC_put {cs : List Nmd} (hc : CatOk cs) {s : ByteArray} (hh : hasL cs s = true) (v : List Int) (h0 : (applyC cs ⟨3, s, 0, v⟩).1 = 0) :
  ∃ (hP : placeL cs s < cs.length), (applyC cs ⟨3, s, 0, v⟩).2 = cs.set (placeL cs s) ⟨cs[placeL cs s].name, cs[placeL cs s].n, cs[placeL cs s].gens ++ [v]⟩ ∧ genF v cs[placeL cs s].n = 0 ∧ nmOk s = true ∧ cs[placeL cs s].name = s := by
 obtain ⟨hP, hn⟩ := (hasL_iff hc.rise).1 hh
 refine ⟨hP, ?_⟩
 have hnm : nmOk s = true := by rw [← hn]; exact (hc.all _ (List.getElem_mem hP)).name
 unfold applyC at h0 ⊢
 have ho : opOk ⟨3, s, 0, v⟩ = true := by rw [opOk_use]; dsimp only; rw [hnm, Bool.true_and]; simp [useOk]
 rw [if_neg (by rw [ho]; decide), if_neg (by dsimp only; decide), if_neg (by dsimp only; rw [hh]; decide), if_neg (by dsimp only; decide)] at h0 ⊢
 dsimp only at h0 ⊢
 rw [List.getElem?_eq_getElem hP] at h0 ⊢
 dsimp only at h0 ⊢
 by_cases hg : genF v cs[placeL cs s].n = 0
 ·rw [if_neg (by rw [hg]; decide), if_pos rfl] at h0 ⊢
  by_cases h10 : 10 ≤ cs[placeL cs s].gens.length
  ·rw [if_pos h10] at h0; cases h0
  ·rw [if_neg h10]; exact ⟨rfl, hg, hnm, hn⟩
 ·rw [if_pos hg] at h0; exact absurd h0 hg

theorem applyC_take {cs : List Nmd} (hc : CatOk cs) {s : ByteArray} (hh : hasL cs s = true) (v : List Int) (hP : placeL cs s < cs.length) (hg : genF v cs[placeL cs s].n = 0) (hin : cs[placeL cs s].gens.contains v = true) :
  applyC cs ⟨4, s, 0, v⟩ = (0, cs.set (placeL cs s) ⟨cs[placeL cs s].name, cs[placeL cs s].n, cs[placeL cs s].gens.erase v⟩) := by
 obtain ⟨_, hn⟩ := (hasL_iff hc.rise).1 hh
 have hnm : nmOk s = true := by rw [← hn]; exact (hc.all _ (List.getElem_mem hP)).name
 unfold applyC
 have ho : opOk ⟨4, s, 0, v⟩ = true := by rw [opOk_use]; dsimp only; rw [hnm, Bool.true_and]; simp [useOk]
 rw [if_neg (by rw [ho]; decide), if_neg (by dsimp only; decide), if_neg (by dsimp only; rw [hh]; decide), if_neg (by dsimp only; decide)]
 dsimp only
 rw [List.getElem?_eq_getElem hP]
 dsimp only
 rw [if_neg (by rw [hg]; decide), if_neg (by decide), if_pos hin]

theorem put_take {cs : List Nmd} (hc : CatOk cs) {s : ByteArray} (hh : hasL cs s = true) (v : List Int) (h0 : (applyC cs ⟨3, s, 0, v⟩).1 = 0) :
  ∃ (hP : placeL cs s < cs.length) (gs : List (List Int)), gs.Perm cs[placeL cs s].gens ∧ applyC (applyC cs ⟨3, s, 0, v⟩).2 ⟨4, s, 0, v⟩ = (0, cs.set (placeL cs s) ⟨cs[placeL cs s].name, cs[placeL cs s].n, gs⟩) := by
 obtain ⟨hP, h1, hg, -, -⟩ := applyC_put hc hh v h0
 have hok := applyC_ok hc _ h0
 rw [h1] at hok ⊢
 refine ⟨hP, (cs[placeL cs s].gens ++ [v]).erase v, erase_perm _ _, ?_⟩
 obtain ⟨p1, p2⟩ := placeL_set hP (s := s) rfl ⟨cs[placeL cs s].name, cs[placeL cs s].n, cs[placeL cs s].gens ++ [v]⟩ rfl
 generalize placeL cs s = P at *
 have hP2 : P < (cs.set P ⟨cs[P].name, cs[P].n, cs[P].gens ++ [v]⟩).length := by rw [List.length_set]; exact hP
 have e := List.getElem_set_self (l := cs) (a := ⟨cs[P].name, cs[P].n, cs[P].gens ++ [v]⟩) hP2
 have h2 := applyC_take hok (s := s) (by rw [p2]; exact hh) v (by rw [p1]; exact hP2) (by simp only [p1]; rw [e]; exact hg) (by simp only [p1]; rw [e]; simp)
 simp only [p1] at h2
 rw [e, List.set_set] at h2
 exact h2

end Go.Proofs.Ytcnllfnikajddaa

/- A lattice is found by its name. -/
namespace Go.Proofs.Ytcnllfnikajddaa
open Go.RowKit

def FindPost (w : World) (cs : List Nmd) (s : ByteArray) (e : Ending) (w' : World) : Prop :=
 ((hasL cs s = false ∧ e = .returned (.tuple #[.agg #[.string ⟨#[]⟩, .int .i64 0, .slice none 0 0], errV 7])) ∨
  (∃ (h : placeL cs s < cs.length) (q : Nc), hasL cs s = true ∧ e = .returned (.tuple #[q.val, .nilIface]) ∧ q.x = cs[placeL cs s] ∧ NcFresh w.heap.size w' q)) ∧ Below w.heap.size w w'

set_option linter.unusedSimpArgs false in
set_option maxRecDepth 100000 in
set_option maxHeartbeats 1600000 in
theorem find_any (w : World) (v : Value) (qs : List Nc) (s : ByteArray) (h : CatV w v qs) (hok : CatOk (qs.map (·.x))) :
  Calls Try.prog 7 #[v, .string s] w fun e w' => FindPost w (qs.map (·.x)) s e w' := by
 obtain ⟨u, rfl, hu⟩ := h
 obtain ⟨ao, cap, rfl, hcap, -⟩ := id hu
 have hq8 : qs.length ≤ 8 := by have := hok.few; rwa [List.length_map] at this
 have HOK := hide hok
 have hb1 := alloc_below w (.cells #[.slice ao qs.length cap] 26)
 have x2 := One.new w (.slice ao qs.length cap) 26
 have hs1 : (w.alloc (.cells #[.slice ao qs.length cap] 26)).heap.size = w.heap.size + 1 := by simp
 have hb2 := alloc_below (w.alloc (.cells #[.slice ao qs.length cap] 26)) (.cells #[.string ⟨#[]⟩, .int .i64 0, .slice none 0 0] 37)
 have x4 := BoxT.new (w.alloc (.cells #[.slice ao qs.length cap] 26)) (.string ⟨#[]⟩) (.int .i64 0) (.slice none 0 0) 37
 rw [hs1] at x4
 have X20 := hide (x2.later hb2); have X40 := hide x4; have HB0 := hide (hb1.trans (hb2.mono hb1.size)); have HC0 := hide (hu.below HB0.out)
 clear hb1 hb2 x2 x4 hs1 hu hok
 obtain ⟨p2, -, -⟩ := X20.out
 obtain ⟨⟨a0, a1, a2, -⟩, -⟩ := X40.out
 go_enter Try.func7, Try.ntmps7
 go_wp2_with fail
 generalize (w.alloc (.cells #[.slice ao qs.length cap] 26)).alloc (.cells #[.string ⟨#[]⟩, .int .i64 0, .slice none 0 0] 37) = W0 at *
 refine (place_any W0 _ qs s ⟨_, rfl, HC0.out⟩ (by omega) HOK.out.rise).mono ?_
 rintro e w1 ⟨rfl, hb1⟩
 have HC := hide (HC0.out.below hb1); have HB := hide (HB0.out.trans (hb1.mono HB0.out.size)); have X2 := hide (X20.out.later hb1); have X4 := hide (X40.out.later hb1)
 clear hb1 HC0 HB0 X20 X40 p2 a0 a1 a2
 obtain ⟨p2, -, -⟩ := X2.out
 obtain ⟨⟨a0, a1, a2, hBl⟩, hfz⟩ := X4.out
 have f0 := hfz 0; have f1 := hfz 1; have f2 := hfz 2
 clear hfz
 cases hh : hasL (qs.map (·.x)) s with
 | false =>
  have HH := hide hh
  have HBE := hide (((HB.out.setCell (p := ⟨w.heap.size + 1, 0, none⟩) (by show w.heap.size ≤ w.heap.size + 1; omega) (.string ⟨#[]⟩)).setCell (p := ⟨w.heap.size + 1, 1, none⟩) (by show w.heap.size ≤ w.heap.size + 1; omega) (.int .i64 0)).setCell (p := ⟨w.heap.size + 1, 2, none⟩) (by show w.heap.size ≤ w.heap.size + 1; omega) (.slice none 0 0))
  clear hh
  go_wp2
  exact bodyPost_ret (v := .tuple #[.agg #[.string ⟨#[]⟩, .int .i64 0, .slice none 0 0], .iface 49 (.int .i64 7)]) (by simp [results, Try.results7, go_sem, a0, a1, a2]) rfl ⟨.inl ⟨HH.out, rfl⟩, by first | exact HBE.out | exact HB.out⟩
 | true =>
  obtain ⟨hP, -⟩ := (hasL_iff HOK.out.rise).1 hh
  have hPq : placeL (qs.map (·.x)) s < qs.length := by rwa [List.length_map] at hP
  obtain ⟨b, off, cap', e⟩ := HC.out.form (by omega)
  simp only [Value.slice.injEq, true_and] at e
  obtain ⟨rfl, rfl⟩ := e
  obtain ⟨hlt, d0, d1, d2, hin⟩ := HC.out.at _ hPq
  have hx := HOK.out.all qs[placeL (qs.map (·.x)) s].x (List.mem_map.2 ⟨_, List.getElem_mem hPq, rfl⟩)
  have HCO := hide (copied_any w1 qs[placeL (qs.map (·.x)) s] hin (by have := hx.few; omega) (fun g hg => by
   have h1 := (genF_ok.1 (hx.gens g hg)).1
   have h2 := hx.n
   refine ⟨by omega, fun e => ?_⟩
   rw [e] at h1
   simp at h1
   omega))
  have HFIN : Hid (∀ (w' : World) (q : Nc), q.x = qs[placeL (qs.map (·.x)) s].x → NcFresh w.heap.size w' q → Below w.heap.size w w' → FindPost w (qs.map (·.x)) s (.returned (.tuple #[q.val, .nilIface])) w') := fun w' q e1 e2 e3 => ⟨.inr ⟨hP, q, hh, rfl, by rw [List.getElem_map]; exact e1, e2⟩, e3⟩
  clear hin hx hh hP
  generalize qs[placeL (qs.map (·.x)) s] = q at *
  generalize placeL (qs.map (·.x)) s = P at *
  obtain ⟨⟨nm, n, gens⟩, go, gl, gc⟩ := q
  go_wp2_with fail
  refine HCO.out.mono ?_
  rintro e w2 ⟨⟨⟨nm2, n2, gens2⟩, go2, gl2, gc2⟩, rfl, hx2, hfr, hb⟩
  have X4b := hide (X4.out.later hb)
  have hB1 : w.heap.size + 1 < w1.heap.size := hBl
  have HBE := hide ((((HB.out.trans (hb.mono HB.out.size)).setCell (p := ⟨w.heap.size + 1, 0, none⟩) (by show w.heap.size ≤ w.heap.size + 1; omega) (.string nm2)).setCell (p := ⟨w.heap.size + 1, 1, none⟩) (by show w.heap.size ≤ w.heap.size + 1; omega) (.int .i64 n2)).setCell (p := ⟨w.heap.size + 1, 2, none⟩) (by show w.heap.size ≤ w.heap.size + 1; omega) (.slice go2 gl2 gc2))
  have HIN := hide ((((hfr.set (p := ⟨w.heap.size + 1, 0, none⟩) hB1 (.string nm2)).set (p := ⟨w.heap.size + 1, 1, none⟩) hB1 (.int .i64 n2)).set (p := ⟨w.heap.size + 1, 2, none⟩) hB1 (.slice go2 gl2 gc2)).mono HB.out.size)
  have HX2 := hide hx2
  clear hb hfr hx2 a0 a1 a2 f0 f1 f2 d0 d1 d2 p2 HCO
  obtain ⟨⟨a0, a1, a2, hBl2⟩, hfz⟩ := X4b.out
  have f0 := hfz 0; have f1 := hfz 1; have f2 := hfz 2
  clear hfz
  simp only [Nc.val]
  go_wp2
  refine bodyPost_ret (v := .tuple #[.agg #[.string nm2, .int .i64 n2, .slice go2 gl2 gc2], .nilIface]) (by simp [results, Try.results7, go_sem, a0, a1, a2]) rfl ?_
  exact HFIN.out _ ⟨⟨nm2, n2, gens2⟩, go2, gl2, gc2⟩ HX2.out HIN.out HBE.out

end Go.Proofs.Ytcnllfnikajddaa

/- A lattice that is found, in a variable of one's own: x, err := c.Find(..) draws its order. -/
namespace Go.Proofs.Ytcnllfnikajddaa
open Go.RowKit

def NcAway (B : Nat) (W : World) (q : Nc) : Prop :=
 ∃ (ps : List Gc) (b : Nat), q.o = some ⟨b, 0, none⟩ ∧ (0 < q.l → b ≠ B) ∧ ps.map (·.2) = q.x.gens ∧ ps.length = q.l ∧ SeqV W (.slice q.o q.l q.c) q.l (ps.map (·.1)) ∧ ∀ g ∈ ps, GcIn W g ∧ ∀ a l c, 0 < g.2.length → g.1 = .slice (some a) l c → a.block ≠ B

theorem NcAway.ins {B : Nat} {W : World} {q : Nc} (h : NcAway B W q) : NcIn W q := by
 obtain ⟨ps, b, h1, h2, h3, h4, h5, h6⟩ := h
 have := rowsS_of_seq (v := .slice q.o q.l q.c) (by rw [h4]; exact h5) (fun g hg => (h6 g hg).1)
 rwa [h3] at this

theorem NcAway.later {B : Nat} {W W' : World} {q : Nc} (h : NcAway B W q) (hb : Below W.heap.size W W') : NcAway B W' q := by
 obtain ⟨ps, b, h1, h2, h3, h4, h5, h6⟩ := h
 exact ⟨ps, b, h1, h2, h3, h4, h5.below hb (Nat.le_refl _), fun g hg => ⟨(h6 g hg).1.below hb (Nat.le_refl _), (h6 g hg).2⟩⟩

theorem RowS.setAway {W : World} {v : Value} {ks : List Int} (h : RowS W v ks) {p : Addr} (hp : ∀ a l c, 0 < ks.length → v = .slice (some a) l c → a.block ≠ p.block) (x : Value) : RowS (W.setCell p x) v ks := by
 obtain ⟨ao, cap, e, hn, h6, hh⟩ := h
 refine ⟨ao, cap, e, hn, h6, fun h0 => ?_⟩
 obtain ⟨b, off, e', hlt, hcell⟩ := hh h0
 subst e'
 refine ⟨b, off, rfl, by simpa using hlt, fun i hi => (World.cell?_setCell_other _ _ _ _ fun e2 => ?_).trans (hcell i hi)⟩
 exact hp _ _ _ h0 e (by rw [e2])

theorem NcAway.set {B : Nat} {W : World} {q : Nc} (h : NcAway B W q) {p : Addr} (hp : p.block = B) (x : Value) : NcAway B (W.setCell p x) q := by
 obtain ⟨ps, b, h1, h2, h3, h4, h5, h6⟩ := h
 refine ⟨ps, b, h1, h2, h3, h4, ?_, fun g hg => ⟨RowS.setAway (h6 g hg).1 (fun a l c h0 e => by rw [hp]; exact (h6 g hg).2 a l c h0 e) x, (h6 g hg).2⟩⟩
 obtain ⟨ao, cap, e, hn, hh⟩ := h5
 refine ⟨ao, cap, e, hn, fun h0 => ?_⟩
 obtain ⟨b', off, e', hlt, hc⟩ := hh h0
 refine ⟨b', off, e', by simpa using hlt, fun j u hu => (World.cell?_setCell_other _ _ _ _ fun e2 => ?_).trans (hc j u hu)⟩
 simp only [Value.slice.injEq] at e
 rw [e', h1] at e
 simp only [Option.some.injEq, Addr.mk.injEq, and_true] at e
 have h7 : p.block = b' := by rw [e2]
 exact h2 h0 (by rw [e.1.1, ← h7, hp])

theorem NcFresh.away_lt {base B : Nat} {W : World} {q : Nc} (h : NcFresh base W q) (hB : B < base) : NcAway B W q := by
 obtain ⟨ps, b, h1, h2, h3, h4, h5, h6⟩ := h
 exact ⟨ps, b, h1, fun _ => by omega, h3, h4, h5, fun g hg => ⟨(h6 g hg).1, fun a l c _ e => by have := (h6 g hg).2 a l c e; omega⟩⟩

theorem NcFresh.away_new {base B : Nat} {W : World} {q : Nc} (h : NcFresh base W q) (hB : W.heap.size ≤ B) : NcAway B W q := by
 obtain ⟨ps, b, h1, h2, h3, h4, h5, h6⟩ := h
 refine ⟨ps, b, h1, fun h0 => ?_, h3, h4, h5, fun g hg => ⟨(h6 g hg).1, fun a l c h0 e => ?_⟩⟩
 ·obtain ⟨ao, cap, e, hn, hh⟩ := h5
  obtain ⟨b', off, e', hlt, hc⟩ := hh h0
  simp only [Value.slice.injEq] at e
  rw [e', h1] at e
  simp only [Option.some.injEq, Addr.mk.injEq, and_true] at e
  have := e.1.1
  omega
 ·obtain ⟨ao, cap, e2, hn, -, hh⟩ := (h6 g hg).1
  obtain ⟨b', off, e', hlt, hc⟩ := hh h0
  rw [e, e'] at e2
  simp only [Value.slice.injEq, Option.some.injEq] at e2
  rw [e2.1]
  show b' ≠ B
  omega

theorem BoxT.fill {W : World} {B : Nat} {x0 x1 x2 : Value} (h : BoxT W B x0 x1 x2) (u0 u1 u2 : Value) : BoxT (((W.setCell ⟨B, 0, none⟩ u0).setCell ⟨B, 1, none⟩ u1).setCell ⟨B, 2, none⟩ u2) B u0 u1 u2 := by
 obtain ⟨⟨h0, h1, h2, h3⟩, h4⟩ := h
 have n01 : (⟨B, 0, none⟩ : Addr) ≠ ⟨B, 1, none⟩ := fun e => by simp at e
 have n02 : (⟨B, 0, none⟩ : Addr) ≠ ⟨B, 2, none⟩ := fun e => by simp at e
 have n12 : (⟨B, 1, none⟩ : Addr) ≠ ⟨B, 2, none⟩ := fun e => by simp at e
 have a1 : (W.setCell ⟨B, 0, none⟩ u0).cell? ⟨B, 1, none⟩ = some x1 := (World.cell?_setCell_other _ _ _ _ n01).trans h1
 have a2 : ((W.setCell ⟨B, 0, none⟩ u0).setCell ⟨B, 1, none⟩ u1).cell? ⟨B, 2, none⟩ = some x2 := (World.cell?_setCell_other _ _ _ _ n12).trans ((World.cell?_setCell_other _ _ _ _ n02).trans h2)
 refine ⟨⟨?_, ?_, ?_, by simpa using h3⟩, fun k => by simpa using h4 k⟩
 ·exact (World.cell?_setCell_other _ _ _ _ n02.symm).trans ((World.cell?_setCell_other _ _ _ _ n01.symm).trans (World.cell?_setCell_same _ _ _ h0))
 ·exact (World.cell?_setCell_other _ _ _ _ n12.symm).trans (World.cell?_setCell_same _ _ _ a1)
 ·exact World.cell?_setCell_same _ _ _ a2

def fiD : Nat → List Nat
 | 3 => [1, 2]
 | 4 => [3]
 | 5 => [4]
 | 6 => [0, 5]
 | 7 => [6]
 | 8 => [7]
 | 9 => [7]
 | 11 => [8, 10]
 | 12 => [9]
 | _ => []

def fiS (X : Nmd) (C : Nat) (b : Bool) (i : Nat) (c : Nat → Value) (W : World) : Prop :=
 (i = 6 → ∃ q : Nc, c 6 = .tuple #[q.val, .nilIface] ∧ q.x = X ∧ (b = false → ∃ base, NcFresh base W q)) ∧
 (i = 7 → c 7 = c 6) ∧
 (i = 8 → ∃ u e, c 7 = .tuple #[u, e] ∧ c 8 = u) ∧
 (i = 9 → ∃ u e, c 7 = .tuple #[u, e] ∧ c 9 = e) ∧
 (i = 10 → ∃ B, c 10 = .pointer (some ⟨B, 0, none⟩) ∧ C ≤ B ∧ B < W.heap.size ∧ (b = false → BoxT W B (.string ⟨#[]⟩) (.int .i64 0) (.slice none 0 0))) ∧
 (i = 11 → ∃ B u0 u1 u2, c 10 = .pointer (some ⟨B, 0, none⟩) ∧ c 8 = .agg #[u0, u1, u2] ∧ C ≤ B ∧ BoxT W B u0 u1 u2) ∧
 (i = 12 → c 12 = c 9)

section
variable {X : Nmd} {C : Nat} {b : Bool} {c : Nat → Value} {W : World}
theorem fiS_p {i : Nat} (hi : i < 6) : fiS X C b i c W := ⟨fun e => absurd e (by omega), fun e => absurd e (by omega), fun e => absurd e (by omega), fun e => absurd e (by omega), fun e => absurd e (by omega), fun e => absurd e (by omega), fun e => absurd e (by omega)⟩
theorem fiS_0 (h : ∃ q : Nc, c 6 = .tuple #[q.val, .nilIface] ∧ q.x = X ∧ (b = false → ∃ base, NcFresh base W q)) : fiS X C b 6 c W := ⟨fun _ => h, fun e => absurd e (by omega), fun e => absurd e (by omega), fun e => absurd e (by omega), fun e => absurd e (by omega), fun e => absurd e (by omega), fun e => absurd e (by omega)⟩
theorem fiS_1 (h : c 7 = c 6) : fiS X C b 7 c W := ⟨fun e => absurd e (by omega), fun _ => h, fun e => absurd e (by omega), fun e => absurd e (by omega), fun e => absurd e (by omega), fun e => absurd e (by omega), fun e => absurd e (by omega)⟩
theorem fiS_2 (h : ∃ u e, c 7 = .tuple #[u, e] ∧ c 8 = u) : fiS X C b 8 c W := ⟨fun e => absurd e (by omega), fun e => absurd e (by omega), fun _ => h, fun e => absurd e (by omega), fun e => absurd e (by omega), fun e => absurd e (by omega), fun e => absurd e (by omega)⟩
theorem fiS_3 (h : ∃ u e, c 7 = .tuple #[u, e] ∧ c 9 = e) : fiS X C b 9 c W := ⟨fun e => absurd e (by omega), fun e => absurd e (by omega), fun e => absurd e (by omega), fun _ => h, fun e => absurd e (by omega), fun e => absurd e (by omega), fun e => absurd e (by omega)⟩
theorem fiS_4 (h : ∃ B, c 10 = .pointer (some ⟨B, 0, none⟩) ∧ C ≤ B ∧ B < W.heap.size ∧ (b = false → BoxT W B (.string ⟨#[]⟩) (.int .i64 0) (.slice none 0 0))) : fiS X C b 10 c W := ⟨fun e => absurd e (by omega), fun e => absurd e (by omega), fun e => absurd e (by omega), fun e => absurd e (by omega), fun _ => h, fun e => absurd e (by omega), fun e => absurd e (by omega)⟩
theorem fiS_5 (h : ∃ B u0 u1 u2, c 10 = .pointer (some ⟨B, 0, none⟩) ∧ c 8 = .agg #[u0, u1, u2] ∧ C ≤ B ∧ BoxT W B u0 u1 u2) : fiS X C b 11 c W := ⟨fun e => absurd e (by omega), fun e => absurd e (by omega), fun e => absurd e (by omega), fun e => absurd e (by omega), fun e => absurd e (by omega), fun _ => h, fun e => absurd e (by omega)⟩
theorem fiS_6 (h : c 12 = c 9) : fiS X C b 12 c W := ⟨fun e => absurd e (by omega), fun e => absurd e (by omega), fun e => absurd e (by omega), fun e => absurd e (by omega), fun e => absurd e (by omega), fun e => absurd e (by omega), fun _ => h⟩
end

theorem fiStays (X : Nmd) (C : Nat) (b : Bool) : Stays fiD (fiS X C b) where
 later := fun i c W W' hb h => by
  obtain ⟨h0, h1, h2, h3, h4, h5, h6⟩ := h
  refine ⟨fun e => ?_, h1, h2, h3, fun e => ?_, fun e => ?_, h6⟩
  ·obtain ⟨q, a1, a2, a3⟩ := h0 e
   exact ⟨q, a1, a2, fun hf => let ⟨base, h⟩ := a3 hf; ⟨base, h.later hb⟩⟩
  ·obtain ⟨B, a1, a2, a3, a4⟩ := h4 e
   exact ⟨B, a1, a2, Nat.lt_of_lt_of_le a3 hb.size, fun hf => (a4 hf).later hb⟩
  ·obtain ⟨B, u0, u1, u2, a1, a2, a3, a4⟩ := h5 e
   exact ⟨B, u0, u1, u2, a1, a2, a3, a4.later hb⟩
 other := fun i j c v W hne hm h => by
  obtain ⟨h0, h1, h2, h3, h4, h5, h6⟩ := h
  refine ⟨fun e => ?_, fun e => ?_, fun e => ?_, fun e => ?_, fun e => ?_, fun e => ?_, fun e => ?_⟩
  ·subst e
   rw [upd_ne _ _ hne]; exact h0 rfl
  ·subst e
   have h : ¬ i = 6 := by simpa [fiD] using hm
   rw [upd_ne _ _ hne, upd_ne _ _ (fun e => h e.symm)]; exact h1 rfl
  ·subst e
   have h : ¬ i = 7 := by simpa [fiD] using hm
   rw [upd_ne _ _ hne, upd_ne _ _ (fun e => h e.symm)]; exact h2 rfl
  ·subst e
   have h : ¬ i = 7 := by simpa [fiD] using hm
   rw [upd_ne _ _ hne, upd_ne _ _ (fun e => h e.symm)]; exact h3 rfl
  ·subst e
   rw [upd_ne _ _ hne]; exact h4 rfl
  ·subst e
   have h : ¬ i = 8 ∧ ¬ i = 10 := by simpa [fiD] using hm
   rw [upd_ne _ _ (fun e => h.2 e.symm), upd_ne _ _ (fun e => h.1 e.symm)]; exact h5 rfl
  ·subst e
   have h : ¬ i = 9 := by simpa [fiD] using hm
   rw [upd_ne _ _ hne, upd_ne _ _ (fun e => h e.symm)]; exact h6 rfl

def fiJ (X : Nmd) (L : Array Bool) (c : Nat → Value) (W : World) : Prop :=
 L.getD 6 false = true → L.getD 10 false = true → ∃ (q : Nc) (B : Nat), c 6 = .tuple #[q.val, .nilIface] ∧ c 10 = .pointer (some ⟨B, 0, none⟩) ∧ q.x = X ∧ NcAway B W q

theorem fiJ.other {X : Nmd} {L : Array Bool} {c : Nat → Value} {W W' : World} (h : fiJ X L c W) (hb : Below W.heap.size W W') (i : Nat) (h6 : i ≠ 6) (h10 : i ≠ 10) (v : Value) : fiJ X (L.setIfInBounds i true) (upd c i v) W' := fun l6 l10 => by
 obtain ⟨q, B, a1, a2, a3, a4⟩ := h (listed_old h6 l6) (listed_old h10 l10)
 exact ⟨q, B, by rw [upd_ne _ _ (fun e => h6 e.symm)]; exact a1, by rw [upd_ne _ _ (fun e => h10 e.symm)]; exact a2, a3, a4.later hb⟩

theorem fiJ.call {X : Nmd} {C : Nat} {b : Bool} {kv : Nat → Option Value} {w : World} {L : Array Bool} {c : Nat → Value} {W W' : World} (R : FS fiD kv (fiS X C b) w L c W) (q : Nc) (hx : q.x = X) (hq : NcFresh W.heap.size W' q) : fiJ X (L.setIfInBounds 6 true) (upd c 6 (.tuple #[q.val, .nilIface])) W' := fun _ l10 => by
 obtain ⟨B, a1, -, a3, -⟩ := (R.spec 10 (listed_old (by decide) l10)).2.2.2.2.1 rfl
 exact ⟨q, B, upd_self .., by rw [upd_ne _ _ (by decide)]; exact a1, hx, hq.away_lt a3⟩

theorem fiJ.var {X : Nmd} {C : Nat} {kv : Nat → Option Value} {w : World} {L : Array Bool} {c : Nat → Value} {W W' : World} (R : FS fiD kv (fiS X C false) w L c W) (hb : Below W.heap.size W W') : fiJ X (L.setIfInBounds 10 true) (upd c 10 (.pointer (some ⟨W.heap.size, 0, none⟩))) W' := fun l6 _ => by
 obtain ⟨q, a1, a2, a3⟩ := (R.spec 6 (listed_old (by decide) l6)).1 rfl
 obtain ⟨base, hf⟩ := a3 rfl
 exact ⟨q, W.heap.size, by rw [upd_ne _ _ (by decide)]; exact a1, upd_self .., a2, (hf.away_new (Nat.le_refl _)).later hb⟩

theorem fi_fin {X : Nmd} {C : Nat} {kv : Nat → Option Value} {w : World} {L : Array Bool} {c : Nat → Value} {W : World} (R : FS fiD kv (fiS X C true) w L c W) (J : fiJ X L c W) (hall : ∀ i, i < 13 → L.getD i false = true) :
  ∃ (B : Nat) (q : Nc), c 10 = .pointer (some ⟨B, 0, none⟩) ∧ c 12 = .nilIface ∧ C ≤ B ∧ q.x = X ∧ BoxT W B (.string q.x.name) (.int .i64 q.x.n) (.slice q.o q.l q.c) ∧ NcIn W q := by
 obtain ⟨q, B, j1, j2, j3, j4⟩ := J (hall 6 (by omega)) (hall 10 (by omega))
 have e1 := (R.spec 7 (hall 7 (by omega))).2.1 rfl
 obtain ⟨u, f, e2, e2'⟩ := (R.spec 8 (hall 8 (by omega))).2.2.1 rfl
 obtain ⟨u3, f3, e3, e3'⟩ := (R.spec 9 (hall 9 (by omega))).2.2.2.1 rfl
 obtain ⟨B', u0, u1, u2, e5, e5', hB, hO⟩ := (R.spec 11 (hall 11 (by omega))).2.2.2.2.2.1 rfl
 have e6 := (R.spec 12 (hall 12 (by omega))).2.2.2.2.2.2 rfl
 rw [e1, j1] at e2 e3
 simp only [Value.tuple.injEq, Array.mk.injEq, List.cons.injEq, and_true] at e2 e3
 obtain ⟨rfl, -⟩ := e2
 obtain ⟨-, rfl⟩ := e3
 rw [e2'] at e5'
 simp only [Nc.val, Value.agg.injEq, Array.mk.injEq, List.cons.injEq, and_true] at e5'
 obtain ⟨rfl, rfl, rfl⟩ := e5'
 rw [j2] at e5
 simp only [Value.pointer.injEq, Option.some.injEq, Addr.mk.injEq, and_true] at e5
 subst e5
 exact ⟨B, q, j2, e6.trans e3', hB, j3, hO, j4.ins⟩

end Go.Proofs.Ytcnllfnikajddaa

/- copy: numbers of a vector go over into a vector of one's own. -/
namespace Go.Proofs.Ytcnllfnikajddaa
open Go.RowKit Limbs

def pcells (p : Nm × Int) : List Value := [.bool p.1.neg, .slice p.1.o p.1.l p.1.c]

theorem NumL.laid {w W : World} {P : Nat} {zs : List Int} {n : Nat} (h : VecO w W P zs n) {k : Nat} (hk : k < zs.length) (neg : Bool) (o : Option Addr) (l c : Nat) {v : Value} {y : Int} {m : Nat} (hv : NumL W v y m) :
  NumL ((W.setCell ⟨P, k * 2, none⟩ (.bool neg)).setCell ⟨P, k * 2 + 1, none⟩ (.slice o l c)) v y m := by
 obtain ⟨neg0, o0, l0, c0, k0, k1, -⟩ := h.at k hk
 have k1' : (W.setCell ⟨P, k * 2, none⟩ (.bool neg)).cell? ⟨P, k * 2 + 1, none⟩ = some (.slice o0 l0 c0) := (World.cell?_setCell_other (h := fun e => by simp at e) ..).trans k1
 exact (hv.setCell k0 (fun z e => by cases e)).setCell k1' (fun z e => by cases e)

end Go.Proofs.Ytcnllfnikajddaa

/- How much of each row in the one form a vector is. -/
namespace Go.Proofs.Ytcnllfnikajddaa
open Go.RowKit Limbs

def leftN (H : Nat → Nat → Int) (p : Nat → Nat) (v : Nat → Int) : Nat → Nat → Int
 | 0 => v
 | i + 1 => fun b => leftN H p v i b - leftN H p v i (p i) / H i (p i) * H i b

def oftenN (H : Nat → Nat → Int) (p : Nat → Nat) (v : Nat → Int) (i : Nat) : Int := leftN H p v i (p i) / H i (p i)

end Go.Proofs.Ytcnllfnikajddaa

/- Rows of vectors. -/
namespace Go.Proofs.Ytcnllfnikajddaa
open Go.RowKit Limbs

theorem Try.infoVec : (Try.prog.info? 59).map (fun i => (i.zero, i.size, i.bytes)) = some (some (.slice none 0 0), 1, 24) := by kernel_rfl

def MatN (w : World) (v : Value) (zss : List (List Int)) (n : Nat) : Prop :=
 ∃ ao cap, v = .slice ao zss.length cap ∧ zss.length ≤ cap ∧ (0 < zss.length → ∃ b off, ao = some ⟨b, off, none⟩ ∧ b < w.heap.size ∧ ∀ i zs, zss[i]? = some zs → ∃ u, w.cell? ⟨b, off + i, none⟩ = some u ∧ VecN w u zs n)

theorem MatN.below {B : Nat} {w w' : World} {v : Value} {zss : List (List Int)} {n : Nat} (h : MatN w v zss n) (hb : Below B w w') (hB : w.heap.size ≤ B) : MatN w' v zss n := by
 obtain ⟨ao, cap, hv, h1, h2⟩ := h
 refine ⟨ao, cap, hv, h1, fun h0 => ?_⟩
 obtain ⟨b, off, e, hlt, hc⟩ := h2 h0
 refine ⟨b, off, e, Nat.lt_of_lt_of_le hlt hb.size, fun i zs hi => ?_⟩
 obtain ⟨u, h3, h4⟩ := hc i zs hi
 exact ⟨u, (hb.cell (p := ⟨b, off + i, none⟩) (Nat.lt_of_lt_of_le hlt hB)).trans h3, h4.below hb hB⟩

theorem MatN.at {W : World} {v : Value} {zss : List (List Int)} {n : Nat} (h : MatN W v zss n) (i : Nat) (hi : i < zss.length) : ∃ b off cap, v = .slice (some ⟨b, off, none⟩) zss.length cap ∧ b < W.heap.size ∧ ∃ u, W.cell? ⟨b, off + i, none⟩ = some u ∧ VecN W u zss[i] n := by
 obtain ⟨ao, cap, rfl, -, h2⟩ := h
 obtain ⟨b, off, rfl, hlt, hc⟩ := h2 (by omega)
 obtain ⟨u, h3, h4⟩ := hc i zss[i] (by simp [hi])
 exact ⟨b, off, cap, rfl, hlt, u, h3, h4⟩

theorem matN_of_owns {W : World} {base : Nat} {v : Value} {qs : List (Value × List Int)} {n : Nat} (h : W.ownsRow base 59 1 v qs.length (qs.map (·.1))) (h2 : ∀ q ∈ qs, VecN W q.1 q.2 n) : MatN W v (qs.map (·.2)) n := by
 obtain ⟨-, h1⟩ := h
 have hlen : (qs.map (·.2)).length = qs.length := List.length_map ..
 rcases h1 with ⟨rfl, hn⟩ | ⟨g, cap, cur, rfl, hb, hh, hc1, hc2, hc3, hc4⟩
 ·exact ⟨none, 0, by rw [hlen, hn], by rw [hlen]; omega, fun h0 => absurd h0 (by rw [hlen]; omega)⟩
 ·refine ⟨_, cap, by rw [hlen], by rw [hlen]; exact hc1, fun h0 => ⟨g, 0, rfl, heap_lt hh, fun i zs hi => ?_⟩⟩
  obtain ⟨hi', e⟩ := List.getElem?_eq_some_iff.1 hi
  rw [hlen] at hi'
  have e' : zs = qs[i].2 := by rw [← e, List.getElem_map]
  have := World.news_of_block hh i qs[i].1 (by
   have e : (qs.map (·.1))[i]? = some qs[i].1 := by rw [List.getElem?_map, List.getElem?_eq_getElem hi']; rfl
   rw [← hc4, List.getElem?_take, if_pos (by omega)] at e
   exact e)
  have ea : (⟨g, 0, none⟩ : Addr).add i = ⟨g, i, none⟩ := by unfold Addr.add; split <;> simp_all
  rw [ea] at this
  exact ⟨_, by rw [Nat.zero_add]; exact this, by rw [e']; exact h2 _ (List.getElem_mem hi')⟩

end Go.Proofs.Ytcnllfnikajddaa
