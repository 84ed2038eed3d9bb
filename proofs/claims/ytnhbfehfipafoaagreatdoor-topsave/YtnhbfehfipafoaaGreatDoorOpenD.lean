/- Operations that came in, as they read: all four cells. -/
import Derived.Test.YtnhbfehfipafoaaGreatDoorOpenR
import Derived.Test.YtnhbfehfipafoaaGreatDoorWaJ
import Derived.Test.YtnhbfehfipafoaaGreatDoorBgC
import Derived.Deep.SlicePairs
import Derived.Test.YtnhbfehfipafoaaGreatDoorWaV
import Derived.Test.YtnhbfehfipafoaaGreatDoorDetRg

namespace Go.Proofs.YtnhbfehfipafoaaGreatDoor
open Go.ChangeShapes Go.WideShapes Go.ChangeAt Go.RowKit Go.Joins

theorem Tryz.cellsOpF : Tryz.prog.cellsOf 43 = 4 := by kernel_rfl
theorem Tryz.cellsStrF : Tryz.prog.cellsOf 9 = 1 := by kernel_rfl

instance : Inhabited OpC := ⟨⟨⟨0, ⟨#[]⟩, 0, []⟩, none, 0⟩⟩

section
variable {H : Type} {enc : TypeId × Value → H} {W : World}

set_option maxRecDepth 100000 in
theorem open_opF {n : Nat} {cs : List Value} {y : DataW H × List MemPlace} (h : DataW.trod enc Tryz.prog W 0 (fun _ => true) true n 43 cs = some y) :
  ∃ q : OpC, cs[0]? = some (.int .i64 q.o.kind) ∧ cs[1]? = some (.string q.o.name) ∧ cs[2]? = some (.int .i64 q.o.n) ∧ cs[3]? = some q.row ∧ RowS W q.row q.o.v := by
 obtain ⟨xs, k, -, -, hl, hxl, hf⟩ := DataW.trod_struct Tryz.underlying43 h
 rw [Tryz.cellsOpF] at hl
 match cs, hl with
 | [v0, v1, v2, v3], _ =>
  match xs, hxl with
  | [x0, x1, x2, x3], _ =>
   have g0 : DataW.trod enc Tryz.prog W 0 (fun _ => true) true k 3 (([v0, v1, v2, v3].drop 0).take (Tryz.prog.cellsOf 3)) = [x0, x1, x2, x3][0]? := hf 0 _ rfl
   have g1 : DataW.trod enc Tryz.prog W 0 (fun _ => true) true k 9 (([v0, v1, v2, v3].drop 1).take (Tryz.prog.cellsOf 9)) = [x0, x1, x2, x3][1]? := hf 1 _ rfl
   have g2 : DataW.trod enc Tryz.prog W 0 (fun _ => true) true k 3 (([v0, v1, v2, v3].drop 2).take (Tryz.prog.cellsOf 3)) = [x0, x1, x2, x3][2]? := hf 2 _ rfl
   have g3 : DataW.trod enc Tryz.prog W 0 (fun _ => true) true k 41 (([v0, v1, v2, v3].drop 3).take (Tryz.prog.cellsOf 41)) = [x0, x1, x2, x3][3]? := hf 3 _ rfl
   rw [Tryz.cellsInt] at g0 g2
   rw [Tryz.cellsStrF] at g1
   rw [Tryz.cellsIntS] at g3
   obtain ⟨kd, e0, -, -⟩ := DataW.trod_int Tryz.underlying3 g0
   obtain ⟨name, e1, -, -⟩ := DataW.trod_string Tryz.underlying9 g1
   obtain ⟨nn, e2, -, -⟩ := DataW.trod_int Tryz.underlying3 g2
   obtain ⟨ks, hr⟩ := open_rowS (v := v3) g3
   have e0' : v0 = .int .i64 kd := by simpa using e0
   have e1' : v1 = .string name := by simpa using e1
   have e2' : v2 = .int .i64 nn := by simpa using e2
   obtain ⟨vo, vc, e3'⟩ := RowS.form hr
   subst e0' e1' e2' e3'
   exact ⟨⟨⟨kd, name, nn, ks⟩, vo, vc⟩, rfl, rfl, rfl, rfl, hr⟩

set_option maxRecDepth 100000 in
theorem open_opsN {n : Nat} {v : Value} {y : DataW H × List MemPlace} (h : DataW.trod enc Tryz.prog W 0 (fun _ => true) true n 44 [v] = some y) : ∃ os, OpsN W v os := by
 rcases Go.Deep.open_slice Tryz.underlying44 h with ⟨e, -⟩ | ⟨a, l, c, m, n, D, Pl, e, -, hl, hm, hmm, -, hc⟩
 ·have e' : v = .slice none 0 0 := by simpa using e
  exact ⟨[], none, 0, e', by decide, fun h => absurd h (by decide)⟩
 ·have e' : v = .slice (some a) l c := by simpa using e
  have hm' : l ≤ m := by simp at hmm; omega
  have each : ∀ i, i < l → ∃ q : OpC, W.cell? (a.add (i * 4 + 0)) = some (.int .i64 q.o.kind) ∧ W.cell? (a.add (i * 4 + 1)) = some (.string q.o.name) ∧ W.cell? (a.add (i * 4 + 2)) = some (.int .i64 q.o.n) ∧ W.cell? (a.add (i * 4 + 3)) = some q.row ∧ RowS W q.row q.o.v := fun i hi => by
   obtain ⟨cs, h1, h2⟩ := hc i (by omega)
   rw [Tryz.cellsOpF] at h1
   obtain ⟨-, hlen, hcell⟩ := World.cells?_some h1
   obtain ⟨q, e0, e1, e2, e3, hr⟩ := open_opF h2
   have c0 := hcell 0 (by omega)
   have c1 := hcell 1 (by omega)
   have c2 := hcell 2 (by omega)
   have c3 := hcell 3 (by omega)
   rw [Go.Deep.add_add, e0] at c0
   rw [Go.Deep.add_add, e1] at c1
   rw [Go.Deep.add_add, e2] at c2
   rw [Go.Deep.add_add, e3] at c3
   exact ⟨q, c0, c1, c2, c3, hr⟩
  obtain ⟨q, hq⟩ := Go.Deep.choose_lt each
  have hlen : ((List.range l).map q).length = l := by simp
  refine ⟨(List.range l).map q, some a, c, by rw [hlen]; exact e', by rw [hlen]; exact hl, fun h0 => ?_⟩
  rw [hlen] at h0
  obtain ⟨k0, -⟩ := hq 0 h0
  obtain ⟨blk, off, spot⟩ := a
  have hsp : spot = none := by simpa [Addr.add] using World.cell?_spot k0
  subst hsp
  refine ⟨blk, off, rfl, by simpa [Addr.add] using World.block_lt_of_cell? W _ k0, fun i r hi => ?_⟩
  obtain ⟨hi', e⟩ := List.getElem?_eq_some_iff.1 hi
  rw [hlen] at hi'
  have e2 : r = q i := by simpa using e.symm
  obtain ⟨c0, c1, c2, c3, hr⟩ := hq i hi'
  rw [Go.WideShapes.add_plain] at c0 c1 c2 c3
  rw [e2]
  refine ⟨by simpa using c0, ?_, ?_, ?_, hr⟩
  ·rw [Nat.add_assoc]; exact c1
  ·rw [Nat.add_assoc]; exact c2
  ·rw [Nat.add_assoc]; exact c3

end

end Go.Proofs.YtnhbfehfipafoaaGreatDoor

/- A list of truths that came in: as it reads. -/
namespace Go.Proofs.YtnhbfehfipafoaaGreatDoor
open Go.ChangeShapes Go.WideShapes Go.ChangeAt Go.RowKit Go.Joins

theorem Tryz.cellsBoo : Tryz.prog.cellsOf 4 = 1 := by kernel_rfl

def BoosN (w : World) (v : Value) (bs : List Bool) : Prop :=
 ∃ ao cap, v = .slice ao bs.length cap ∧ bs.length ≤ cap ∧ (0 < bs.length → ∃ b off, ao = some ⟨b, off, none⟩ ∧ b < w.heap.size ∧ ∀ i s, bs[i]? = some s → w.cell? ⟨b, off + i, none⟩ = some (.bool s))

variable {H : Type} {enc : TypeId × Value → H} {W : World}

set_option maxRecDepth 100000 in
theorem open_boos {r : Reach} {b0 : Nat} {v : Value} {d : DataW H} {p : List MemPlace} (hv : Value.okWide Tryz.prog W r b0 70 v) (h : DataW.Trod enc Tryz.prog W 0 (fun _ => true) true 70 v d p) : ∃ bs, BoosN W v bs := by
 obtain ⟨a0, len, cap, rfl⟩ := okWide_slice Tryz.underlying70 hv
 obtain ⟨fuel, hf⟩ := h
 rcases Go.Deep.open_slice1 Tryz.underlying70 Tryz.cellsBoo hf with ⟨hcs, _⟩ | ⟨a, l, c, m, n, V, D, Pl, hcs, _, hl, hm, hmm, _, hc⟩
 ·simp [Value.cells] at hcs
  obtain ⟨rfl, rfl, rfl⟩ := hcs
  exact ⟨[], none, 0, rfl, by simp, fun h => absurd h (by simp)⟩
 ·simp [Value.cells] at hcs
  obtain ⟨rfl, rfl, rfl⟩ := hcs
  have hm' : len ≤ m := by simp at hmm; omega
  have each : ∀ i, i < len → ∃ s : Bool, V i = .bool s := fun i hi => by
   obtain ⟨s, e, -⟩ := DataW.trod_bool Tryz.underlying4 (hc i (by omega)).2
   exact ⟨s, by simpa using e⟩
  obtain ⟨q, hq⟩ := Go.Deep.choose_lt each
  have hlen : ((List.range len).map q).length = len := by simp
  refine ⟨(List.range len).map q, some a, cap, by rw [hlen], by rw [hlen]; exact hl, fun h0 => ?_⟩
  rw [hlen] at h0
  obtain ⟨k0, -⟩ := hc 0 (by omega)
  obtain ⟨blk, off, spot⟩ := a
  have hsp : spot = none := by simpa [Addr.add] using World.cell?_spot k0
  subst hsp
  refine ⟨blk, off, rfl, by simpa [Addr.add] using World.block_lt_of_cell? W _ k0, fun i r hi => ?_⟩
  obtain ⟨hi', e⟩ := List.getElem?_eq_some_iff.1 hi
  rw [hlen] at hi'
  have e' : r = q i := by simpa using e.symm
  obtain ⟨c0, -⟩ := hc i (by omega)
  rw [Go.WideShapes.add_plain, hq i hi'] at c0
  rw [e']
  exact c0

end Go.Proofs.YtnhbfehfipafoaaGreatDoor

/- TopSave. -/
namespace Go.Proofs.YtnhbfehfipafoaaGreatDoor
open Go.RowKit

structure SavQ (S1 B1 S2 B2 : Nat) (x y : Sto) : Prop where
 s1 : x.S = S1
 b1 : x.B = B1
 m1 : x.m = 100
 s2 : y.S = S2
 b2 : y.B = B2
 m2 : y.m = 200
 l : x.l = y.l
 f1 : Free x.D
 f2 : Free y.D

theorem BoosN.at {w : World} {v : Value} {bs : List Bool} (h : BoosN w v bs) {k : Nat} (hk : k < bs.length) : ∃ b off cap, v = .slice (some ⟨b, off, none⟩) bs.length cap ∧ b < w.heap.size ∧ w.cell? ⟨b, off + k, none⟩ = some (.bool bs[k]) := by
 obtain ⟨ao, cap, rfl, -, h⟩ := h
 obtain ⟨b, off, rfl, hlt, h⟩ := h (by omega)
 exact ⟨b, off, cap, rfl, hlt, h k _ (List.getElem?_eq_getElem hk)⟩

set_option linter.unusedSimpArgs false in
set_option maxRecDepth 100000 in
set_option maxHeartbeats 6400000 in
theorem topSave_any (w : World) (v u : Value) (dss : List (Value × List OpC)) (bs : List Bool) (hds : DeedsN w v dss) (hbs : BoosN w u bs) (ht : TabP w) (hx : MaxL w) :
  Calls Tryz.prog 5 #[v, u] w fun e w' => e = .returned (.bool true) ∧ Below w.heap.size w w' := by
 have HDS := hide hds; have HBO := hide hbs; have HT := hide ht; have HX := hide hx
 obtain ⟨ao, acap, rfl, -⟩ := id hds
 obtain ⟨bo, bcap, rfl, -⟩ := id hbs
 obtain ⟨N, hN⟩ : ∃ N, dss.length = N := ⟨_, rfl⟩
 obtain ⟨M, hM⟩ : ∃ M, bs.length = M := ⟨_, rfl⟩
 have HN := hide hN; have HM := hide hM
 rw [hN, hM]
 clear hds hbs ht hx hN hM
 go_enter Tryz.func5, Tryz.ntmps5
 go_wp2_with fail
 refine (kept_any w HT.out HX.out).mono ?_
 rintro e w1 ⟨rfl, hb1⟩
 have HB1 := hide hb1
 clear hb1
 go_wp2_with fail
 refine (stored_any w1 100 (by decide) (by decide) (HT.out.below HB1.out) (HX.out.below HB1.out)).mono ?_
 rintro e w2 ⟨S1, D1, h1, rfl, -, hp1, hf1, hb2⟩
 obtain ⟨B1, hB1⟩ : ∃ B, w1.heap.size = B := ⟨_, rfl⟩
 have HK1 : Hid (w.heap.size ≤ B1) := by show _ ≤ _; rw [← hB1]; exact HB1.out.size
 rw [hB1] at hp1 ⊢
 have HP1 := hide hp1; have HF1 := hide hf1; have HB2 := hide (HB1.out.trans (hb2.mono HB1.out.size))
 clear hp1 hf1 hb2 hB1 HB1
 go_wp2_with fail
 refine (stored_any w2 200 (by decide) (by decide) (HT.out.below HB2.out) (HX.out.below HB2.out)).mono ?_
 rintro e w3 ⟨S2, D2, h2, rfl, -, hp2, hf2, hb3⟩
 obtain ⟨B2, hB2⟩ : ∃ B, w2.heap.size = B := ⟨_, rfl⟩
 have HT3 : Hid (Two w.heap.size w3 ⟨S1, B1, D1, 100, h1, [], 0⟩ ⟨S2, B2, D2, 200, h2, [], 0⟩) :=
  Two.new (x := ⟨S1, B1, D1, 100, h1, [], 0⟩) (y := ⟨S2, B2, D2, 200, h2, [], 0⟩) (h1 := B1) (h2 := w2.heap.size) HP1.out (by rw [hB2] at hp2 ⊢; exact hp2) HK1.out (Nat.le_refl _) hb3
 rw [hB2]
 have HB3 := hide (HB2.out.trans (hb3.mono HB2.out.size))
 have HQ3 : Hid (SavQ S1 B1 S2 B2 ⟨S1, B1, D1, 100, h1, [], 0⟩ ⟨S2, B2, D2, 200, h2, [], 0⟩) := ⟨rfl, rfl, rfl, rfl, rfl, rfl, rfl, HF1.out, hf2⟩
 clear hp2 hf2 hb3 hB2 HB2 HP1 HF1 HK1
 by_cases h25 : 25 < N
 ·have g25 : decide (25 < (N : Int)) = true := decide_eq_true (by omega)
  go_wp2
  go_ret
  exact ⟨rfl, HB3.out⟩
 have g25 : decide (25 < (N : Int)) = false := decide_eq_false (by omega)
 by_cases m25 : 25 < M
 ·have g26 : decide (25 < (M : Int)) = true := decide_eq_true (by omega)
  go_wp2
  go_ret
  exact ⟨rfl, HB3.out⟩
 have g26 : decide (25 < (M : Int)) = false := decide_eq_false (by omega)
 go_wp2
 clear g25 g26
 go_loopw [11] (fun ix wr => ∃ (k : Nat) (x y : Sto), k ≤ N ∧ ix = .int .i64 k ∧ Hid (Two w.heap.size wr x y) ∧ Hid (SavQ S1 B1 S2 B2 x y) ∧ Hid (Below w.heap.size w wr)) (fun ix _ => N - (intOf ix).toNat)
 case atStart => exact ⟨0, _, _, Nat.zero_le _, rfl, HT3, HQ3, HB3⟩
 case round =>
  clear HT3 HQ3 HB3
  obtain ⟨k, x, y, hk, rfl, HTW, HQ, HBW⟩ := hrel
  by_cases hkl : k < N
  ·have hkd : k < dss.length := by rw [HN.out]; exact hkl
   obtain ⟨b, off, cap', e, hlt, cd, hop⟩ := HDS.out.at hkd
   simp only [Value.slice.injEq] at e
   obtain ⟨rfl, -, rfl⟩ := e
   generalize dss[k].2 = os at *
   obtain ⟨xo, xc, hov, -⟩ := id hop
   rw [hov] at cd hop
   have HOP := hide hop
   have cz0 := (HBW.out.cell (p := ⟨b, off + k, none⟩) hlt).trans cd
   clear hov hop
   go_wp2_with fail
   refine (lightOps_any wr _ os 14 (HOP.out.below HBW.out) (by decide)).mono ?_
   rintro e w4 ⟨rfl, rfl⟩
   by_cases hll : lightL os 14 = true
   rotate_left
   ·have hll' : lightL os 14 = false := by simpa using hll
    rw [hll']
    go_wp2
    go_ret
    exact ⟨rfl, HBW.out⟩
   rw [hll]
   have hlo := lightL_ok hll
   have HLN : Hid (os.length ≤ 1000000) := by show _ ≤ _; have := hlo.1; omega
   have HV20 : Hid (∀ q ∈ os, q.o.v.length ≤ 20) := fun q hq => by have := (hlo.2 q hq).2; omega
   clear hll hlo
   go_wp2_with fail
   have hc1 := commit2_any HTW.out (.slice xo os.length xc) os HQ.out.f1 (by rw [HQ.out.m1]; decide) (by rw [HQ.out.m1]; decide) (HT.out.below HBW.out) (fun W base _ hb => HOP.out.below (HBW.out.trans hb)) HV20.out HLN.out
   rw [HQ.out.s1] at hc1
   refine hc1.mono ?_
   clear hc1
   rintro e w5 ⟨x5, rfl, hs5, hb5, hm5, hl5, hf5, ht5, hbl5, -⟩
   have HQ5 : Hid (SavQ S1 B1 S2 B2 { x5 with l := x.l } y) := ⟨hs5.trans HQ.out.s1, hb5.trans HQ.out.b1, hm5.trans HQ.out.m1, HQ.out.s2, HQ.out.b2, HQ.out.m2, HQ.out.l, hf5, HQ.out.f2⟩
   have HT5 := hide ht5; have HB5 := hide (HBW.out.trans hbl5)
   obtain ⟨F, hF⟩ : ∃ F, comF x.l (os.map (·.o)) 100 = F := ⟨_, rfl⟩
   obtain ⟨ln, hln⟩ : ∃ ln, comL x.l (os.map (·.o)) 100 = ln := ⟨_, rfl⟩
   rw [HQ.out.m1, hln] at hl5
   rw [HQ.out.m1, hF]
   have HF5 : Hid (comF y.l (os.map (·.o)) 200 = F) := by show _ = _; rw [← HQ.out.l, ← hF]; exact comF_eq (by decide) (by decide)
   have HL5 : Hid (comL y.l (os.map (·.o)) 200 = ln) := by
    show _ = _
    rw [← hln]
    unfold comL
    rw [HF5.out, hF, HQ.out.l]
   have HXL := hide hl5
   clear hs5 hb5 hm5 hl5 hf5 ht5 hbl5 hF hln HTW HQ cz0
   have cz5 := (HB5.out.cell (p := ⟨b, off + k, none⟩) hlt).trans cd
   go_wp2_with fail
   refine (number_errV F _).mono ?_
   rintro e w6 ⟨rfl, rfl⟩
   go_wp2_with fail
   have hc2 := commit2_any HT5.out.symm (.slice xo os.length xc) os HQ5.out.f2 (by rw [HQ5.out.m2]; decide) (by rw [HQ5.out.m2]; decide) (HT.out.below HB5.out) (fun W base _ hb => HOP.out.below (HB5.out.trans hb)) HV20.out HLN.out
   rw [HQ5.out.s2] at hc2
   refine hc2.mono ?_
   clear hc2
   rintro e w7 ⟨y7, rfl, hs7, hb7, hm7, hl7, hf7, ht7, hbl7, -⟩
   have HQ7 : Hid (SavQ S1 B1 S2 B2 x5 y7) := ⟨HQ5.out.s1, HQ5.out.b1, HQ5.out.m1, hs7.trans HQ5.out.s2, hb7.trans HQ5.out.b2, hm7.trans HQ5.out.m2, by rw [HXL.out, hl7, HQ5.out.m2, HL5.out], HQ5.out.f1, hf7⟩
   have HT7 := hide ht7.symm; have HB7 := hide (HB5.out.trans hbl7)
   rw [HQ5.out.m2, HF5.out]
   clear hs7 hb7 hm7 hl7 hf7 ht7 hbl7 HT5 HB5 HQ5 HXL HF5 HL5 cz5
   go_wp2_with fail
   refine (number_errV F _).mono ?_
   rintro e w8 ⟨rfl, rfl⟩
   go_upto_region 19 with fail
   go_cut [88] from 74 to 87 (fun cv wc => cv = .bool false ∧ ∃ x' y' : Sto, Two w.heap.size wc x' y' ∧ SavQ S1 B1 S2 B2 x' y' ∧ Below w.heap.size w wc)
   case first =>
    by_cases hkm : k < M
    ·have gm : decide ((k : Int) < (M : Int)) = true := decide_eq_true (by omega)
     have hkb : k < bs.length := by rw [HM.out]; exact hkm
     obtain ⟨sb, soff, scap, e, hslt, cs⟩ := HBO.out.at hkb
     simp only [Value.slice.injEq] at e
     obtain ⟨rfl, -, rfl⟩ := e
     have cs7 := (HB7.out.cell (p := ⟨sb, soff + k, none⟩) hslt).trans cs
     generalize bs[k] = sv at *
     cases sv with
     | true =>
      go_wp2_with fail
      have hck := checkpoint2_any HT7.out HQ7.out.f1 (by rw [HQ7.out.m1]; decide) (by rw [HQ7.out.m1]; decide) (HT.out.below HB7.out)
      rw [HQ7.out.s1] at hck
      refine hck.mono ?_
      clear hck
      rintro e w9 ⟨x9, rfl, hs9, hb9, hm9, hl9, hf9, ht9, hbl9⟩
      have HQ9 : Hid (SavQ S1 B1 S2 B2 x9 y7) := ⟨hs9.trans HQ7.out.s1, hb9.trans HQ7.out.b1, hm9.trans HQ7.out.m1, HQ7.out.s2, HQ7.out.b2, HQ7.out.m2, hl9.trans HQ7.out.l, hf9, HQ7.out.f2⟩
      have HT9 := hide ht9; have HB9 := hide (HB7.out.trans hbl9)
      clear hs9 hb9 hm9 hl9 hf9 ht9 hbl9 HT7 HB7 HQ7 cs7 cs
      go_wp2
      go_meet
      case rel => exact ⟨rfl, x9, y7, HT9.out, HQ9.out, HB9.out⟩
     | false =>
      clear cs
      go_wp2
      go_meet
      case rel => exact ⟨rfl, x5, y7, HT7.out, HQ7.out, HB7.out⟩
    ·have gm : decide ((k : Int) < (M : Int)) = false := decide_eq_false (by omega)
     go_wp2
     go_meet
     case rel => exact ⟨rfl, x5, y7, HT7.out, HQ7.out, HB7.out⟩
   case rest =>
    obtain ⟨rfl, x9, y9, ht9, hq9, hb9⟩ := hcut
    apply_assumption
    have HT9 := hide ht9; have HQ9 := hide hq9; have HB9 := hide hb9
    clear ht9 hq9 hb9 HT7 HQ7 HB7
    obtain ⟨ha, oa, na, ca, qa, La, xa, cna, qla, oka⟩ := HT9.out.cat
    obtain ⟨hb, ob, nb, cb, qb, Lb, xb, cnb, qlb, okb⟩ := HT9.out.symm.cat
    rw [HQ9.out.s1] at xa
    rw [HQ9.out.s2] at xb
    have XA := hide xa; have CA := hide cna; have QA := hide qla; have OA := hide oka; have XB := hide xb; have CB := hide cnb; have QB := hide qlb; have OB := hide okb
    clear xa cna qla oka xb cnb qlb okb
    go_wp2_with fail
    refine (scat_any _ S1 _ ha oa na ca _ XA.out).mono ?_
    rintro e v1 ⟨rfl, hv1⟩
    have CA1 := hide (CA.out.below hv1); have HB1 := hide (show Below wc.heap.size wc v1 from hv1)
    have hla : qa.length ≤ 100 := by have := OA.out.few; rw [← QA.out, List.length_map] at this; omega
    clear hv1 XA CA
    go_wp2_with fail
    refine (lattices_any2 v1 _ qa ⟨_, rfl, CA1.out⟩ hla (by rw [QA.out]; exact OA.out.all)).mono ?_
    rintro e v2 ⟨u2, ra, rfl, hc2, hm2, hv2⟩
    obtain ⟨o2, k2, rfl, -⟩ := id hc2
    have RA : Hid (ra.map (·.x) = x9.l) := by show _ = _; rw [hm2]; exact QA.out
    have hrl : ra.length ≤ 1000 := by have := congrArg List.length hm2; rw [List.length_map, List.length_map] at this; omega
    have HSZ : Hid (∀ p ∈ ra, p.x.gens.length ≤ 1000 ∧ ∀ g ∈ p.x.gens, g.length ≤ 1000000) := fun p hp => nm_sizes2 (OA.out.all p.x (by rw [← RA.out]; exact List.mem_map.2 ⟨p, hp, rfl⟩))
    have CR2 := hide hc2; have HB2 := hide (HB1.out.trans (hv2.mono HB1.out.size))
    clear hc2 hm2 hv2 CA1 HB1 hla
    go_wp2_with fail
    refine (scat_any _ S2 _ hb ob nb cb _ (XB.out.later HB2.out)).mono ?_
    rintro e v3 ⟨rfl, hv3⟩
    have CB3 := hide ((CB.out.below HB2.out).below hv3); have CR3 := hide (CR2.out.below hv3); have HB3 := hide (HB2.out.trans (hv3.mono HB2.out.size))
    have hlb : qb.length ≤ 100 := by have := OB.out.few; rw [← QB.out, List.length_map] at this; omega
    clear hv3 XB CB CR2 HB2
    go_wp2_with fail
    refine (lattices_any2 v3 _ qb ⟨_, rfl, CB3.out⟩ hlb (by rw [QB.out]; exact OB.out.all)).mono ?_
    rintro e v4 ⟨u4, rb, rfl, hc4, hm4, hv4⟩
    have CR4 := hide (CR3.out.below hv4); have CB4 := hide hc4; have HB4 := hide (HB3.out.trans (hv4.mono HB3.out.size))
    have RB : Hid (rb.map (·.x) = x9.l) := by show _ = _; rw [hm4, QB.out]; exact HQ9.out.l.symm
    clear hc4 hm4 hv4 CB3 CR3 HB3 hlb
    go_wp2_with fail
    refine (sameCatalog_any v4 _ _ ra rb CR4.out CB4.out hrl HSZ.out true (by rw [RA.out, RB.out]; simp)).mono ?_
    rintro e v5 ⟨rfl, hv5⟩
    have HB5 := hide (HB4.out.trans (hv5.mono HB4.out.size))
    have HTN := hide (HT9.out.later HB5.out); have HBN := hide (HB9.out.trans (HB5.out.mono HB9.out.size))
    clear hv5 CR4 CB4 HB4 HB5 HT9 HB9
    go_wp2
    go_roundw
    case rel => exact ⟨k + 1, x9, y9, by omega, by go_num, HTN, HQ9, HBN⟩
    case measure => simp [intOf]; omega
  ·obtain rfl : k = N := by omega
   obtain ⟨ha, oa, na, ca, qa, La, xa, cna, qla, oka⟩ := HTW.out.cat
   rw [HQ.out.s1] at xa
   have XA := hide xa; have CA := hide cna; have QA := hide qla; have OA := hide oka
   clear xa cna qla oka
   go_wp2_with fail
   have hop1 := open2_any HTW.out (by rw [HQ.out.m1]; decide) (by rw [HQ.out.m1]; decide) (HT.out.below HBW.out) (HX.out.below HBW.out)
   rw [HQ.out.b1] at hop1
   refine hop1.mono ?_
   clear hop1
   rintro e v1 ⟨S6, rfl, ht6, hb6⟩
   have HT6 := hide ht6; have HB6 := hide (HBW.out.trans (hb6.mono HBW.out.size)); have XA6 := hide (XA.out.later hb6); have CA6 := hide (CA.out.below hb6)
   obtain ⟨hb, ob, nb, cb, qb, Lb, xb, cnb, qlb, okb⟩ := ht6.cat
   have XB := hide xb; have CB := hide cnb; have QB := hide qlb; have OB := hide okb
   clear ht6 hb6 XA CA HTW HBW xb cnb qlb okb
   go_wp2_with fail
   have hop2 := open2_any HT6.out.symm (by rw [HQ.out.m2]; decide) (by rw [HQ.out.m2]; decide) (HT.out.below HB6.out) (HX.out.below HB6.out)
   rw [HQ.out.b2] at hop2
   refine hop2.mono ?_
   clear hop2
   rintro e v2 ⟨S7, rfl, ht7, hb7⟩
   obtain ⟨hd, od, nd, cd, qd, Ld, xd, cnd, qld, okd⟩ := ht7.cat
   have XD := hide xd; have CD := hide cnd; have QD := hide qld; have OD := hide okd
   have HB7 := hide (HB6.out.trans (hb7.mono HB6.out.size)); have XA7 := hide (XA6.out.later hb7); have CA7 := hide (CA6.out.below hb7); have XB7 := hide (XB.out.later hb7); have CB7 := hide (CB.out.below hb7)
   have HLL := hide HQ.out.l
   clear ht7 hb7 XA6 CA6 HT6 HB6 XB CB xd cnd qld okd HQ
   simp only at XB7 QB OB XD QD OD
   go_wp2_with fail
   refine (scat_any _ S6 _ hb ob nb cb _ XB7.out).mono ?_
   rintro e v3 ⟨rfl, hv3⟩
   have CB3 := hide (CB7.out.below hv3); have XA3 := hide (XA7.out.later hv3); have CA3 := hide (CA7.out.below hv3); have XD3 := hide (XD.out.later hv3); have CD3 := hide (CD.out.below hv3); have HB3 := hide (HB7.out.trans (hv3.mono HB7.out.size))
   have hlb : qb.length ≤ 100 := by have := OB.out.few; rw [← QB.out, List.length_map] at this; omega
   clear hv3 XB7 CB7 XA7 CA7 XD CD HB7
   go_wp2_with fail
   refine (lattices_any2 v3 _ qb ⟨_, rfl, CB3.out⟩ hlb (by rw [QB.out]; exact OB.out.all)).mono ?_
   rintro e v4 ⟨u4, rb, rfl, hc4, hm4, hv4⟩
   obtain ⟨o4, k4, rfl, -⟩ := id hc4
   have RB : Hid (rb.map (·.x) = x.l) := by show _ = _; rw [hm4]; exact QB.out
   have hrl : rb.length ≤ 1000 := by have := congrArg List.length hm4; rw [List.length_map, List.length_map] at this; omega
   have HSZ : Hid (∀ p ∈ rb, p.x.gens.length ≤ 1000 ∧ ∀ g ∈ p.x.gens, g.length ≤ 1000000) := fun p hp => nm_sizes2 (OB.out.all p.x (by rw [← RB.out]; exact List.mem_map.2 ⟨p, hp, rfl⟩))
   have CR4 := hide hc4; have XA4 := hide (XA3.out.later hv4); have CA4 := hide (CA3.out.below hv4); have XD4 := hide (XD3.out.later hv4); have CD4 := hide (CD3.out.below hv4); have HB4 := hide (HB3.out.trans (hv4.mono HB3.out.size))
   clear hc4 hm4 hv4 CB3 XA3 CA3 XD3 CD3 HB3 hlb
   go_wp2_with fail
   refine (scat_any _ S1 _ ha oa na ca _ XA4.out).mono ?_
   rintro e v5 ⟨rfl, hv5⟩
   have CR5 := hide (CR4.out.below hv5); have XA5 := hide (XA4.out.later hv5); have CA5 := hide (CA4.out.below hv5); have XD5 := hide (XD4.out.later hv5); have CD5 := hide (CD4.out.below hv5); have HB5 := hide (HB4.out.trans (hv5.mono HB4.out.size))
   have hla : qa.length ≤ 100 := by have := OA.out.few; rw [← QA.out, List.length_map] at this; omega
   clear hv5 CR4 XA4 CA4 XD4 CD4 HB4
   go_wp2_with fail
   refine (lattices_any2 v5 _ qa ⟨_, rfl, CA5.out⟩ hla (by rw [QA.out]; exact OA.out.all)).mono ?_
   rintro e v6 ⟨u6, ra, rfl, hc6, hm6, hv6⟩
   have RA : Hid (ra.map (·.x) = x.l) := by show _ = _; rw [hm6]; exact QA.out
   have CR6 := hide (CR5.out.below hv6); have CS6 := hide hc6; have XA6 := hide (XA5.out.later hv6); have CA6 := hide (CA5.out.below hv6); have XD6 := hide (XD5.out.later hv6); have CD6 := hide (CD5.out.below hv6); have HB6 := hide (HB5.out.trans (hv6.mono HB5.out.size))
   clear hc6 hm6 hv6 CR5 XA5 CA5 XD5 CD5 HB5
   go_wp2_with fail
   refine (sameCatalog_any v6 _ _ rb ra CR6.out CS6.out hrl HSZ.out true (by rw [RA.out, RB.out]; simp)).mono ?_
   rintro e v7 ⟨rfl, hv7⟩
   have XA7 := hide (XA6.out.later hv7); have CA7 := hide (CA6.out.below hv7); have XD7 := hide (XD6.out.later hv7); have CD7 := hide (CD6.out.below hv7); have HB7 := hide (HB6.out.trans (hv7.mono HB6.out.size))
   clear hv7 CR6 CS6 XA6 CA6 XD6 CD6 HB6 RA RB HSZ hrl
   go_wp2_with fail
   refine (scat_any _ S7 _ hd od nd cd _ XD7.out).mono ?_
   rintro e v8 ⟨rfl, hv8⟩
   have CD8 := hide (CD7.out.below hv8); have XA8 := hide (XA7.out.later hv8); have CA8 := hide (CA7.out.below hv8); have HB8 := hide (HB7.out.trans (hv8.mono HB7.out.size))
   have hld : qd.length ≤ 100 := by have := OD.out.few; rw [← QD.out, List.length_map] at this; omega
   clear hv8 XA7 CA7 XD7 CD7 HB7
   go_wp2_with fail
   refine (lattices_any2 v8 _ qd ⟨_, rfl, CD8.out⟩ hld (by rw [QD.out]; exact OD.out.all)).mono ?_
   rintro e v9 ⟨u9, rd, rfl, hc9, hm9, hv9⟩
   obtain ⟨o9, k9, rfl, -⟩ := id hc9
   have RD : Hid (rd.map (·.x) = x.l) := by show _ = _; rw [hm9, QD.out]; exact HLL.out.symm
   have hrl : rd.length ≤ 1000 := by have := congrArg List.length hm9; rw [List.length_map, List.length_map] at this; omega
   have HSZ : Hid (∀ p ∈ rd, p.x.gens.length ≤ 1000 ∧ ∀ g ∈ p.x.gens, g.length ≤ 1000000) := fun p hp => nm_sizes2 (OD.out.all p.x (by rw [← QD.out, ← hm9]; exact List.mem_map.2 ⟨p, hp, rfl⟩))
   have CR9 := hide hc9; have XA9 := hide (XA8.out.later hv9); have CA9 := hide (CA8.out.below hv9); have HB9 := hide (HB8.out.trans (hv9.mono HB8.out.size))
   clear hc9 hm9 hv9 CD8 XA8 CA8 HB8 hld
   go_wp2_with fail
   refine (scat_any _ S1 _ ha oa na ca _ XA9.out).mono ?_
   rintro e va ⟨rfl, hva⟩
   have CRa := hide (CR9.out.below hva); have CAa := hide (CA9.out.below hva); have HBa := hide (HB9.out.trans (hva.mono HB9.out.size))
   clear hva CR9 XA9 CA9 HB9
   go_wp2_with fail
   refine (lattices_any2 va _ qa ⟨_, rfl, CAa.out⟩ hla (by rw [QA.out]; exact OA.out.all)).mono ?_
   rintro e vb ⟨ub, rc, rfl, hcb, hmb, hvb⟩
   have RC : Hid (rc.map (·.x) = x.l) := by show _ = _; rw [hmb]; exact QA.out
   have CRb := hide (CRa.out.below hvb); have CSb := hide hcb; have HBb := hide (HBa.out.trans (hvb.mono HBa.out.size))
   clear hcb hmb hvb CRa CAa HBa
   go_wp2_with fail
   refine (sameCatalog_any vb _ _ rd rc CRb.out CSb.out hrl HSZ.out true (by rw [RC.out, RD.out]; simp)).mono ?_
   rintro e vc ⟨rfl, hvc⟩
   have HBc := hide (HBb.out.trans (hvc.mono HBb.out.size))
   clear hvc
   go_wp2
   go_ret
   exact ⟨rfl, HBc.out⟩

end Go.Proofs.YtnhbfehfipafoaaGreatDoor

/- Deeds that came in, as they read. -/
namespace Go.Proofs.YtnhbfehfipafoaaGreatDoor
open Go.ChangeShapes Go.WideShapes Go.ChangeAt Go.RowKit Go.Joins

theorem Tryz.cellsOpsD : Tryz.prog.cellsOf 44 = 1 := by kernel_rfl

instance : Inhabited (Value × List OpC) := ⟨(.bool false, [])⟩

set_option maxRecDepth 100000 in
theorem open_deeds {H : Type} {enc : TypeId × Value → H} {W : World} {r : Reach} {b0 : Nat} {v : Value} {d : DataW H} {p : List MemPlace}
  (hv : Value.okWide Tryz.prog W r b0 69 v) (h : DataW.Trod enc Tryz.prog W 0 (fun _ => true) true 69 v d p) :
  ∃ dss, DeedsN W v dss := by
 obtain ⟨a0, len, cap, rfl⟩ := okWide_slice Tryz.underlying69 hv
 obtain ⟨fuel, hf⟩ := h
 rcases Go.Deep.open_slice1 Tryz.underlying69 Tryz.cellsOpsD hf with ⟨hcs, _⟩ | ⟨a, l, c, m, n, V, D, Pl, hcs, _, hl, hm, hmm, _, hc⟩
 ·simp [Value.cells] at hcs
  obtain ⟨rfl, rfl, rfl⟩ := hcs
  exact ⟨[], none, 0, rfl, by simp, fun h => absurd h (by simp)⟩
 ·simp [Value.cells] at hcs
  obtain ⟨rfl, rfl, rfl⟩ := hcs
  have hm' : len ≤ m := by simp at hmm; omega
  have each : ∀ i, i < len → ∃ p : Value × List OpC, p.1 = V i ∧ OpsN W (V i) p.2 := fun i hi => by
   obtain ⟨os, ho⟩ := open_opsN (hc i (by omega)).2
   exact ⟨(V i, os), rfl, ho⟩
  obtain ⟨q, hq⟩ := Go.Deep.choose_lt each
  have hlen : ((List.range len).map q).length = len := by simp
  refine ⟨(List.range len).map q, some a, cap, by rw [hlen], by rw [hlen]; exact hl, fun h0 => ?_⟩
  rw [hlen] at h0
  obtain ⟨k0, -⟩ := hc 0 (by omega)
  obtain ⟨blk, off, spot⟩ := a
  have hsp : spot = none := by simpa [Addr.add] using World.cell?_spot k0
  subst hsp
  refine ⟨blk, off, rfl, by simpa [Addr.add] using World.block_lt_of_cell? W _ k0, fun i r hi => ?_⟩
  obtain ⟨hi', e⟩ := List.getElem?_eq_some_iff.1 hi
  rw [hlen] at hi'
  have e' : r = q i := by simpa using e.symm
  obtain ⟨c0, -⟩ := hc i (by omega)
  obtain ⟨q0, q1⟩ := hq i hi'
  rw [Go.WideShapes.add_plain] at c0
  rw [e', q0]
  exact ⟨c0, q1⟩

end Go.Proofs.YtnhbfehfipafoaaGreatDoor
