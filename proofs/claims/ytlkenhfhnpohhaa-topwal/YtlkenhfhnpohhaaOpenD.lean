/- TopWal: behind the fall. -/
import Derived.Test.YtlkenhfhnpohhaaWaW
import Derived.Test.YtlkenhfhnpohhaaRegions
import Derived.ProofKit
import Derived.Lib.SmallJoins
import Derived.ChangeOld
import Derived.Test.YtlkenhfhnpohhaaWaJ
import Derived.Test.YtlkenhfhnpohhaaWaP
import Derived.Deep.SlicePairs

namespace Go.Proofs.Ytlkenhfhnpohhaa
open Go.RowKit

theorem short_same {A B : List (Value × List OpC)} (h : opsD A = opsD B) (hb : shortD B) : shortD A := by
 have hl : A.length = B.length := by
  have := congrArg List.length h
  simpa [opsD] using this
 refine ⟨by rw [hl]; exact hb.1, fun p hp => ?_⟩
 have hm : p.2.map (·.o) ∈ opsD B := h ▸ List.mem_map.2 ⟨p, hp, rfl⟩
 obtain ⟨q, hq, e⟩ := List.mem_map.1 hm
 obtain ⟨h1, h2⟩ := hb.2 q hq
 have hl2 : q.2.length = p.2.length := by
  have := congrArg List.length e
  simpa using this
 refine ⟨by omega, fun x hx => ?_⟩
 have hmx : x.o ∈ q.2.map (·.o) := by rw [e]; exact List.mem_map.2 ⟨x, hx, rfl⟩
 obtain ⟨y, hy, ey⟩ := List.mem_map.1 hmx
 rw [← ey]
 exact h2 y hy

set_option linter.unusedSimpArgs false in
set_option maxRecDepth 100000 in
set_option maxHeartbeats 3200000 in
theorem topWal_B (w W : World) (lo : Option Addr) (lcap B L bs : Nat) (keep : Int) (E : Dsk) (dl wd ld : List (Value × List OpC)) (v1 v2 : Value) (hbs : w.heap.size ≤ bs) (hbe : Below w.heap.size w W) (hbW : bs ≤ W.heap.size) (hd : DiskO W bs B E) (hz : WalZ E (opsD wd) (opsD ld)) (h1 : WantT w W v1 wd) (h2 : WantT w W v2 ld) (hf1 : fewW 8 wd) (hf2 : fewW 8 ld) (hC : ∀ (W' : World) (b0 L2 en : Nat) (gv : Value) (gd : List (Value × List OpC)), Below w.heap.size w W' → bs ≤ W'.heap.size → DiskO W' bs B (backD E keep) → bs ≤ L2 → LogM W' L2 B (1 : Nat) (59 : Nat) 5 (en : Nat) → WalI (backD E keep) en (opsD gd) → Free (backD E keep) → DeedsT b0 W' gv gd → shortD gd → ∀ {sl1 sl2 sl3 sl4 sl5 sl6 sl8 sl9 sl10 sl11 sl12 sl13 sl14 sl18 sl19 sl20 sl21 sl22 sl23 sl24 sl25 sl26 sl27 sl28 sl29 sl30 sl31 sl32 sl33 sl34 sl35 sl36 sl37 sl38 sl39 sl40 sl41 sl42 sl43 sl44 sl45 sl46 sl47 sl48 sl49 sl50 sl51 sl52 sl53 sl54 sl55 sl56 sl57 sl58 sl59 sl60 sl61 sl62 sl63 sl64 sl65 sl66 sl67 sl68 sl69 sl70 sl71 sl72 sl73 sl74 sl75 sl76 sl77 sl78 sl79 sl80 sl81 sl82 sl83 sl84 sl85 sl86 sl87 sl88 sl89 sl90 sl91 sl92 sl93 sl94 sl95 sl96 sl97 sl98 sl99 sl100 sl101 sl102 sl103 sl104 sl105 sl106 sl107 sl108 sl109 sl110 sl111 sl112 sl113 sl114 sl115 sl116 sl117 sl118 sl119 sl120 sl121 sl122 sl123 sl124 sl125 sl126 sl127 sl128 sl129 sl130 sl131 sl132 sl133 sl134 sl135 sl136 sl137 sl138 sl139 sl140 sl141 sl142 sl143 : Value}, (Code.tail (Code.tail (Code.tail (Code.tail (Code.tail (Code.tail (Code.tail (Code.tail (Code.tail (Code.tail (Code.tail (Code.tail (Code.tail (Code.tail (Code.tail ((Try.f4.body).getD .skip)))))))))))))))).wp Try.prog (bodyPost Try.prog Try.f4 (fun e w' => e = .returned (.bool true) ∧ Below w.heap.size w w')) ⟨#[(.slice lo dl.length lcap), sl1, sl2, sl3, sl4, sl5, sl6, (.pointer (some ⟨B, 0, none⟩)), sl8, sl9, sl10, sl11, sl12, sl13, sl14, (.pointer (some ⟨L2, 0, none⟩)), gv, (.slice (some ⟨W'.heap.size, 0, none⟩) 1 1), sl18, sl19, sl20, sl21, sl22, sl23, sl24, sl25, sl26, sl27, sl28, sl29, sl30, sl31, sl32, sl33, sl34, sl35, sl36, sl37, sl38, sl39, sl40, sl41, sl42, sl43, sl44, sl45, sl46, sl47, sl48, sl49, sl50, sl51, sl52, sl53, sl54, sl55, sl56, sl57, sl58, sl59, sl60, sl61, sl62, sl63, sl64, sl65, sl66, sl67, sl68, sl69, sl70, sl71, sl72, sl73, sl74, sl75, sl76, sl77, sl78, sl79, sl80, sl81, sl82, sl83, sl84, sl85, sl86, sl87, sl88, sl89, sl90, sl91, sl92, sl93, sl94, sl95, sl96, sl97, sl98, sl99, sl100, sl101, sl102, sl103, sl104, sl105, sl106, sl107, sl108, sl109, sl110, sl111, sl112, sl113, sl114, sl115, sl116, sl117, sl118, sl119, sl120, sl121, sl122, sl123, sl124, sl125, sl126, sl127, sl128, sl129, sl130, sl131, sl132, sl133, sl134, sl135, sl136, sl137, sl138, sl139, sl140, sl141, sl142, sl143], []⟩ (W'.alloc (.cells #[.int .i64 2, .string ⟨#[122]⟩, .int .i64 0, .slice none 0 0] 46))) {sl1 sl3 sl4 sl5 sl6 sl8 sl10 sl13 sl14 sl15 sl16 sl17 sl18 sl19 sl20 sl21 sl22 sl23 sl24 sl25 sl26 sl27 sl28 sl29 sl30 sl31 sl32 sl33 sl34 sl35 sl36 sl37 sl38 sl39 sl40 sl41 sl42 sl43 sl44 sl45 sl46 sl47 sl48 sl49 sl50 sl51 sl52 sl53 sl54 sl55 sl56 sl57 sl58 sl59 sl60 sl61 sl62 sl63 sl64 sl65 sl66 sl67 sl68 sl69 sl70 sl71 sl72 sl73 sl74 sl75 sl76 sl77 sl78 sl79 sl80 sl81 sl82 sl83 sl84 sl85 sl86 sl87 sl88 sl89 sl90 sl91 sl92 sl93 sl94 sl95 sl96 sl97 sl98 sl99 sl100 sl101 sl102 sl103 sl104 sl105 sl106 sl107 sl108 sl109 sl110 sl111 sl112 sl113 sl114 sl115 sl116 sl117 sl118 sl119 sl120 sl121 sl122 sl123 sl124 sl125 sl126 sl127 sl128 sl129 sl130 sl131 sl132 sl133 sl134 sl135 sl136 sl137 sl138 sl139 sl140 sl141 sl142 sl143 : Value} :
  (Code.tail (Code.tail (Code.tail (Code.tail (Code.tail (Code.tail (Code.tail (Code.tail (Code.tail (Code.tail ((Try.f4.body).getD .skip))))))))))).wp Try.prog (bodyPost Try.prog Try.f4 (fun e w' => e = .returned (.bool true) ∧ Below w.heap.size w w')) ⟨#[(.slice lo dl.length lcap), sl1, (.int .u64 keep), sl3, sl4, sl5, sl6, (.pointer (some ⟨B, 0, none⟩)), sl8, (.pointer (some ⟨L, 0, none⟩)), sl10, v1, v2, sl13, sl14, sl15, sl16, sl17, sl18, sl19, sl20, sl21, sl22, sl23, sl24, sl25, sl26, sl27, sl28, sl29, sl30, sl31, sl32, sl33, sl34, sl35, sl36, sl37, sl38, sl39, sl40, sl41, sl42, sl43, sl44, sl45, sl46, sl47, sl48, sl49, sl50, sl51, sl52, sl53, sl54, sl55, sl56, sl57, sl58, sl59, sl60, sl61, sl62, sl63, sl64, sl65, sl66, sl67, sl68, sl69, sl70, sl71, sl72, sl73, sl74, sl75, sl76, sl77, sl78, sl79, sl80, sl81, sl82, sl83, sl84, sl85, sl86, sl87, sl88, sl89, sl90, sl91, sl92, sl93, sl94, sl95, sl96, sl97, sl98, sl99, sl100, sl101, sl102, sl103, sl104, sl105, sl106, sl107, sl108, sl109, sl110, sl111, sl112, sl113, sl114, sl115, sl116, sl117, sl118, sl119, sl120, sl121, sl122, sl123, sl124, sl125, sl126, sl127, sl128, sl129, sl130, sl131, sl132, sl133, sl134, sl135, sl136, sl137, sl138, sl139, sl140, sl141, sl142, sl143], []⟩ W := by
 simp only [Code.tail, Try.f4, Option.getD_some]
 obtain ⟨k0, hwell⟩ := hz.well
 have hlen : E.secs.length ≤ 200 := by rw [hwell.len]; decide
 obtain ⟨gs, en, hgs, hI, hfree⟩ := hz.back keep
 have HC := hide hC
 have HB := hide hbe; have HD := hide hd; have HG := hide hgs; have HI := hide hI; have HF := hide hfree; have HV1 := hide h1; have HV2 := hide h2; have HF1 := hide hf1; have HF2 := hide hf2; have HW := hide hbW
 clear hbe hd hgs hI hfree h1 h2 hf1 hf2 hz hwell hbW hC
 go_wp2_with fail
 refine (restart_any _ bs B E keep HD.out hlen).mono ?_
 rintro e W1 ⟨rfl, hd1, hk1⟩
 have hb1 : Below bs W W1 := hk1.below HW.out
 have HB1 := hide (HB.out.trans (hb1.mono hbs))
 have HW1 := hide (Nat.le_trans HW.out hb1.size)
 have HD1 : Hid (DiskO W1 bs B (backD E keep)) := hide hd1
 have HV1 := hide (HV1.out.keptW (KeptW.of hk1) hbs HW.out); have HV2 := hide (HV2.out.keptW (KeptW.of hk1) hbs HW.out)
 clear hd1 hk1 hb1 HB HD HW
 go_wp2_with fail
 refine (logOpen_any _ bs B (backD E keep) 60 1 59 5 HD1.out HI.out.well.len (by decide) (by decide) (by decide) (by decide) HI.out.up).mono ?_
 rintro e W2 ⟨L2, gv, gd, rfl, hL2, hgd, hgo, hl2, hb2⟩
 have hgo' : opsD gd = gs := hgo.trans HI.out.ds
 have hl2' : LogM W2 L2 B (1 : Nat) (59 : Nat) 5 (en : Nat) := by rw [← HI.out.e]; exact hl2
 obtain rfl := hgo'
 have HSH : Hid (shortD gd) := hide (by
  rcases HG.out with e | e
  ·exact short_same e (HF1.out.short (by decide))
  ·exact short_same e (HF2.out.short (by decide)))
 have HGD := hide hgd; have HL2 := hide hl2'; have HB2 := hide (HB1.out.trans (hb2.mono HB1.out.size)); have HD2 := hide (HD1.out.later hb2); have HW2 := hide (Nat.le_trans HW1.out hb2.size); have HLL := hide (Nat.le_trans HW1.out hL2)
 have HV1 := hide (HV1.out.later hb2); have HV2 := hide (HV2.out.later hb2)
 clear hgd hgo hl2 hl2' hb2 hL2 HB1 HD1 HW1
 go_upto_region 27 with fail
 go_cut [117] from 108 to 118 (fun v wc => v = .bool false ∧ Below W2.heap.size W2 wc)
 case first =>
  clear HC
  by_cases hw : opsD gd = opsD wd
  ·go_wp2_with fail
   refine (sameDeeds_any _ gv v1 gd wd HGD.out.read HV1.out.read HSH.out true (by simp [hw])).mono ?_
   rintro e W3 ⟨rfl, hb3⟩
   have HB3 := hide hb3
   clear hb3
   go_wp2_with fail
   go_meet
   case rel => exact ⟨rfl, HB3.out⟩
  ·have hld : opsD gd = opsD ld := HG.out.resolve_left hw
   go_wp2_with fail
   refine (sameDeeds_any _ gv v1 gd wd HGD.out.read HV1.out.read HSH.out false (by simp [hw])).mono ?_
   rintro e W3 ⟨rfl, hb3⟩
   have HB3 := hide hb3; have HG3 := hide (HGD.out.read.below hb3); have HV3 := hide (HV2.out.later hb3)
   clear hb3
   go_wp2_with fail
   refine (sameDeeds_any _ gv v2 gd ld HG3.out HV3.out.read HSH.out true (by simp [hld])).mono ?_
   rintro e W4 ⟨rfl, hb4⟩
   have HB4 := hide (HB3.out.trans (hb4.mono HB3.out.size))
   clear hb4
   go_wp2_with fail
   go_meet
   case rel => exact ⟨rfl, HB4.out⟩
 case rest =>
  obtain ⟨rfl, hb⟩ := hcut
  have h1 := HB2.out.trans (hb.mono HB2.out.size); have h2 := Nat.le_trans HW2.out hb.size; have h3 := HD2.out.later hb; have h4 := HL2.out.later hb; have h5 := HGD.out.keptW (base' := bs) (KeptW.of_below hb)
  go_upto_region 29 with fail
  go_cut [17] from 118 to 120 (fun v wx => v = .slice (some ⟨wc.heap.size, 0, none⟩) 1 1 ∧ wx = wc.alloc (.cells #[.int .i64 2, .string ⟨#[122]⟩, .int .i64 0, .slice none 0 0] 46))
  case first =>
   clear HC
   go_wp2_with fail
   go_meet
   case rel => exact ⟨rfl, rfl⟩
  obtain ⟨rfl, rfl⟩ := hcut
  apply_assumption
  exact HC.out _ _ L2 en gv gd h1 h2 h3 HLL.out h4 HI.out HF.out h5 HSH.out

end Go.Proofs.Ytlkenhfhnpohhaa

/- TopWal's one Op that drops "z", in a list of its own. -/
namespace Go.Proofs.Ytlkenhfhnpohhaa
open Go.RowKit

def dropZ : OpC := ⟨⟨2, ⟨#[122]⟩, 0, []⟩, none, 0⟩

theorem opsT_drop (W : World) : OpsT W.heap.size (W.alloc (.cells #[.int .i64 2, .string ⟨#[122]⟩, .int .i64 0, .slice none 0 0] 46)) (.slice (some ⟨W.heap.size, 0, none⟩) 1 1) [dropZ] :=
 ⟨⟨rfl, .inr ⟨W.heap.size, 1, _, rfl, Nat.le_refl _, heap_alloc_new W _, Nat.le_refl _, by unfold maxLen; omega, rfl, rfl⟩⟩, fun q hq => by
  rw [List.mem_singleton] at hq
  subst hq
  exact ⟨World.ownsRow_nil _ _ _ _, fun k hk => absurd hk (by simp [dropZ])⟩⟩

end Go.Proofs.Ytlkenhfhnpohhaa

/- TopWal: the log goes on. -/
namespace Go.Proofs.Ytlkenhfhnpohhaa
open Go.RowKit

theorem fold_few (f : Int) : ∀ (l : List (List UInt8)) (st : St), (l.foldl (stepS f) st).ds.length ≤ st.ds.length + l.length
 | [], _ => Nat.le_refl _
 | s :: t, st => by
  rw [List.foldl_cons, List.length_cons]
  refine Nat.le_trans (fold_few f t _) ?_
  rcases stepS_or f st s with ⟨h, -⟩ | ⟨-, h, -⟩
  ·rw [h]; omega
  ·rw [h]
   simp
   omega

theorem says_few (f : Int) (fr mn : Nat) (c : Nat → List UInt8) : (saysL f fr mn c).ds.length ≤ mn := by
 have h := fold_few f (seg c fr 0 mn) st0
 rw [seg_len] at h
 have h0 : st0.ds.length = 0 := rfl
 unfold saysL scanS
 omega

theorem wpList_append_wanted {P : Program} {ops : Array Oper} {rest : List Oper} {o : Oper} {a : Act} {w : World} {Q : Exit → Act → World → Prop} (hg : Region.wanted o (yielded ops a.tmps) = true) (s x : Operand) (t tn : TypeId)
  (ho : o.op = .call { callee := .builtin .append, args := #[s, x], argTypes := #[t, tn] }) (vs vx : Value) (hs : a.eval s = vs) (hx : a.eval x = vx)
  (v' : Value) (w' : World) (hr : (Builtin.append_ #[t, tn] o.type #[vs, vx]).run P w = .ok v' w') (h : wpList P ops Q rest (a.put o.dst v') w') : wpList P ops Q (o :: rest) a w :=
 wpList_step fun K hK => by
  rw [if_pos hg]
  exact Lib.wp_append_run w s x t tn ho vs vx hs hx v' w' hr (hK _ _ h)

theorem DeedsT.ones {base : Nat} {W : World} {v : Value} {dss : List (Value × List OpC)} (h : DeedsT base W v dss) : ∀ x ∈ dss.map (·.1), x.oneCell' = true := fun x hx => by
 obtain ⟨p, hp, rfl⟩ := List.mem_map.1 hx
 obtain ⟨o, c, e⟩ := (h.2 p hp).form
 rw [e]; rfl

theorem OpsT.keptW {W W' : World} {base base' : Nat} {v : Value} {os : List OpC} (h : OpsT base W v os) (hk : KeptW base' W W') : OpsT base W' v os :=
 h.keep fun b _ _ _ hx ht => hk.block b (heap_lt hx) (.inr fun cs' t' fz' hx' => by
  rw [hx] at hx'
  simp only [Option.some.injEq, Obj.cells.injEq] at hx'
  rw [← hx'.2.1]
  exact list_notLog ht)

set_option linter.unusedSimpArgs false in
set_option maxRecDepth 100000 in
set_option maxHeartbeats 3200000 in
theorem topWal_C (w W0 : World) (lo : Option Addr) (lcap B bs b0 L2 en : Nat) (E : Dsk) (gv : Value) (dl gd : List (Value × List OpC)) (hbs : w.heap.size ≤ bs) (hbe : Below w.heap.size w W0) (hbW : bs ≤ W0.heap.size) (hd : DiskO W0 bs B E) (hL2 : bs ≤ L2) (hl : LogM W0 L2 B (1 : Nat) (59 : Nat) 5 (en : Nat)) (hI : WalI E en (opsD gd)) (hF : Free E) (hg : DeedsT b0 W0 gv gd) (hs : shortD gd) {sl1 sl2 sl3 sl4 sl5 sl6 sl8 sl9 sl10 sl11 sl12 sl13 sl14 sl18 sl19 sl20 sl21 sl22 sl23 sl24 sl25 sl26 sl27 sl28 sl29 sl30 sl31 sl32 sl33 sl34 sl35 sl36 sl37 sl38 sl39 sl40 sl41 sl42 sl43 sl44 sl45 sl46 sl47 sl48 sl49 sl50 sl51 sl52 sl53 sl54 sl55 sl56 sl57 sl58 sl59 sl60 sl61 sl62 sl63 sl64 sl65 sl66 sl67 sl68 sl69 sl70 sl71 sl72 sl73 sl74 sl75 sl76 sl77 sl78 sl79 sl80 sl81 sl82 sl83 sl84 sl85 sl86 sl87 sl88 sl89 sl90 sl91 sl92 sl93 sl94 sl95 sl96 sl97 sl98 sl99 sl100 sl101 sl102 sl103 sl104 sl105 sl106 sl107 sl108 sl109 sl110 sl111 sl112 sl113 sl114 sl115 sl116 sl117 sl118 sl119 sl120 sl121 sl122 sl123 sl124 sl125 sl126 sl127 sl128 sl129 sl130 sl131 sl132 sl133 sl134 sl135 sl136 sl137 sl138 sl139 sl140 sl141 sl142 sl143 : Value} :
  (Code.tail (Code.tail (Code.tail (Code.tail (Code.tail (Code.tail (Code.tail (Code.tail (Code.tail (Code.tail (Code.tail (Code.tail (Code.tail (Code.tail (Code.tail ((Try.f4.body).getD .skip)))))))))))))))).wp Try.prog (bodyPost Try.prog Try.f4 (fun e w' => e = .returned (.bool true) ∧ Below w.heap.size w w')) ⟨#[(.slice lo dl.length lcap), sl1, sl2, sl3, sl4, sl5, sl6, (.pointer (some ⟨B, 0, none⟩)), sl8, sl9, sl10, sl11, sl12, sl13, sl14, (.pointer (some ⟨L2, 0, none⟩)), gv, (.slice (some ⟨W0.heap.size, 0, none⟩) 1 1), sl18, sl19, sl20, sl21, sl22, sl23, sl24, sl25, sl26, sl27, sl28, sl29, sl30, sl31, sl32, sl33, sl34, sl35, sl36, sl37, sl38, sl39, sl40, sl41, sl42, sl43, sl44, sl45, sl46, sl47, sl48, sl49, sl50, sl51, sl52, sl53, sl54, sl55, sl56, sl57, sl58, sl59, sl60, sl61, sl62, sl63, sl64, sl65, sl66, sl67, sl68, sl69, sl70, sl71, sl72, sl73, sl74, sl75, sl76, sl77, sl78, sl79, sl80, sl81, sl82, sl83, sl84, sl85, sl86, sl87, sl88, sl89, sl90, sl91, sl92, sl93, sl94, sl95, sl96, sl97, sl98, sl99, sl100, sl101, sl102, sl103, sl104, sl105, sl106, sl107, sl108, sl109, sl110, sl111, sl112, sl113, sl114, sl115, sl116, sl117, sl118, sl119, sl120, sl121, sl122, sl123, sl124, sl125, sl126, sl127, sl128, sl129, sl130, sl131, sl132, sl133, sl134, sl135, sl136, sl137, sl138, sl139, sl140, sl141, sl142, sl143], []⟩ (W0.alloc (.cells #[.int .i64 2, .string ⟨#[122]⟩, .int .i64 0, .slice none 0 0] 46)) := by
 simp only [Code.tail, Try.f4, Option.getD_some]
 have hb0 := alloc_below W0 (.cells #[.int .i64 2, .string ⟨#[122]⟩, .int .i64 0, .slice none 0 0] 46)
 have HO := hide (opsT_drop W0)
 have HD := hide (hd.later hb0); have HL := hide (hl.later hb0); have HG := hide (hg.keptW (base' := bs) (KeptW.of_below hb0)); have HB := hide (hbe.trans (hb0.mono hbe.size)); have HW := hide (Nat.le_trans hbW hb0.size)
 have HI := hide hI; have HF := hide hF; have HS := hide hs
 clear hb0 hd hl hg hbe hbW hI hF hs
 obtain ⟨OV, hov⟩ : ∃ v, (.slice (some ⟨W0.heap.size, 0, none⟩) 1 1 : Value) = v := ⟨_, rfl⟩
 obtain ⟨W, hWW⟩ : ∃ W, W0.alloc (.cells #[.int .i64 2, .string ⟨#[122]⟩, .int .i64 0, .slice none 0 0] 46) = W := ⟨_, rfl⟩
 rw [hov, hWW] at HO
 rw [hWW] at HD HL HG HB HW
 rw [hov, hWW]
 clear hov hWW
 go_wp2_with fail
 refine (room_any _ L2 B 1 5 59 en HL.out HI.out.en_le (by decide)).mono ?_
 rintro e W1 ⟨rfl, hb1⟩
 have HN := hide (HO.out.read.below hb1); have HO1 := hide (HO.out.later hb1)
 have HD := hide (HD.out.later hb1); have HL := hide (HL.out.later hb1); have HG := hide (HG.out.keptW (base' := bs) (KeptW.of_below hb1)); have HB := hide (HB.out.trans (hb1.mono HB.out.size)); have HW := hide (Nat.le_trans HW.out hb1.size)
 clear hb1
 by_cases h2 : 59 - en < 2
 ·have g : decide (((59 - en : Nat) : Int) < 2) = true := decide_eq_true (by omega)
  go_wp2_with fail
  go_ret
  exact ⟨rfl, HB.out⟩
 ·have g : decide (((59 - en : Nat) : Int) < 2) = false := decide_eq_false (by omega)
  go_wp2_with fail
  refine (logAdd_any _ bs B L2 E 60 0 1 en 59 5 _ [dropZ] HD.out HL.out HI.out.well (by decide) (by decide) (by decide) HI.out.en_le (by decide) HW.out hL2 HN.out).mono ?_
  rintro e W2 hA
  have hf : addF ([dropZ].map (·.o)) (59 - en) = 0 := by
   unfold addF
   rw [if_neg (by decide), if_neg (by show ¬ 59 - en ≤ 1; omega)]
   kernel_rfl
  obtain ⟨ht, hfr⟩ := addD_free (f := 5) (fr := 1) (en := en) (mn := 59) (os := [dropZ].map (·.o)) HF.out
  obtain ⟨⟨h9, -⟩ | ⟨-, he, hd2, -⟩, hk2⟩ := hA
  ·exact absurd hf h9
  rw [ht] at he
  subst he
  have HI2 := hide (HI.out.added hf ht)
  have hbk := hk2.below HW.out
  have HD2 := hide hd2; have HO2 := hide (HO1.out.keptW hk2); have HG2 := hide (HG.out.keptW hk2); have HB2 := hide (HB.out.trans (hbk.mono hbs)); have HW2 := hide (Nat.le_trans HW.out hbk.size)
  clear hd2 hk2 hbk hf ht hfr HD HG HB HW HL
  have e0 : okV true = .nilIface := rfl
  rw [e0]
  go_wp2_with fail
  refine (logOpen_any _ bs B _ 60 1 59 5 HD2.out HI2.out.well.len (by decide) (by decide) (by decide) (by decide) HI2.out.up).mono ?_
  rintro e W3 ⟨L3, gv3, gd3, rfl, hL3, hgd3, hgo3, hl3, hb3⟩
  obtain ⟨oo, oc, hov⟩ := HO2.out.form
  have e1 : [dropZ].length = 1 := rfl
  rw [e1] at hov
  clear e1
  subst hov
  obtain ⟨OV, hov⟩ : ∃ v, (.slice oo 1 oc : Value) = v := ⟨_, rfl⟩
  rw [hov] at HO2
  have hovc : OV.oneCell' = true := by rw [← hov]; rfl
  have hds : opsD gd3 = opsD (gd ++ [(OV, [dropZ])]) := by rw [opsD_snoc]; exact hgo3.trans HI2.out.ds
  have hsh : shortD (gd ++ [(OV, [dropZ])]) := by
   obtain ⟨s1, s2⟩ := HS.out
   have h61 : gd.length ≤ 59 := by
    have h1 : (opsD gd).length ≤ 59 := by rw [← HI.out.ds]; exact says_few _ _ _ _
    unfold opsD at h1
    rwa [List.length_map] at h1
   refine ⟨by rw [List.length_append, List.length_singleton]; omega, fun p hp => ?_⟩
   rcases List.mem_append.1 hp with hp | hp
   ·exact s2 p hp
   ·rw [List.mem_singleton] at hp
    subst hp
    exact ⟨by simp, fun q hq => by rw [List.mem_singleton] at hq; subst hq; simp [dropZ]⟩
  have hsh3 := hide (short_same hds hsh)
  have hn60 : gd.length ≤ 1000 := HS.out.1
  have hG3 := HG2.out.later hb3
  have hO3 := HO2.out.later hb3
  obtain ⟨o4, k4, W4, hr4, hown4, hb4⟩ := copy_want W3 gv gd.length (gd.map (·.1)) (ownsLess hG3.1 (Nat.zero_le _)) hG3.ones hn60 W3.heap.size (Nat.le_refl _)
  obtain ⟨o5, k5, W5, hr5, hown5, hb5⟩ := put_want (W4.alloc (.cells #[OV] 47)) W3.heap.size o4 gd.length k4 (gd.map (·.1)) (hown4.alloc _) (by simp; have := hb4.size; omega) W4.heap.size OV (by rw [World.cell?_alloc_new]; rfl) hovc hn60
  have hb35 : Below W3.heap.size W3 W5 := hb4.trans (((alloc_below W4 (.cells #[OV] 47)).mono hb4.size).trans hb5)
  have hA := hide (hgd3.read.below hb35)
  have hB : DeedsN W5 (.slice o5 (gd.length + 1) k5) (gd ++ [(OV, [dropZ])]) := deedsN_of_owns (base := W3.heap.size) (by simpa using hown5) fun p hp => by
   rcases List.mem_append.1 hp with hp | hp
   ·exact (hG3.2 p hp).read.below hb35
   ·rw [List.mem_singleton] at hp
    subst hp
    exact hO3.read.below hb35
  have HB3 := hide hB; have HBE := hide (HB2.out.trans ((hb3.trans (hb35.mono hb3.size)).mono HB2.out.size)); have HDS := hide hds
  rw [← hov] at hr5
  have HR1 := hide hr4; have HR2 := hide hr5
  clear hov
  clear hds hsh hG3 hO3 hr4 hr5 hown4 hown5 hb4 hb5 hb35 hB hgd3 hgo3 hl3 hb3 hovc hn60 HO HO1 HO2 HG2 HN HI HS HI2 HD2 HW2 HF
  go_wp2_with (first | (show wpList _ _ _ ({ dst := some 138, op := _, type := _, pos := _, after := _, guard := _ } :: _) _ _; refine wpList_append_wanted rfl _ _ _ _ rfl _ _ rfl rfl _ _ HR1.out ?_) | (show wpList _ _ _ ({ dst := some 141, op := _, type := _, pos := _, after := _, guard := _ } :: _) _ _; refine wpList_append_wanted rfl _ _ _ _ rfl _ _ rfl rfl _ _ HR2.out ?_))
  refine (sameDeeds_any _ gv3 _ gd3 (gd ++ [(OV, [dropZ])]) hA.out HB3.out hsh3.out true (by simp [HDS.out])).mono ?_
  rintro e W6 ⟨rfl, hb6⟩
  have HBF := hide (HBE.out.trans (hb6.mono HBE.out.size))
  clear hb6
  go_wp2_with fail
  go_ret
  exact ⟨rfl, HBF.out⟩

end Go.Proofs.Ytlkenhfhnpohhaa

/- TopWal: its head. -/
namespace Go.Proofs.Ytlkenhfhnpohhaa
open Go.RowKit

set_option linter.unusedSimpArgs false in
set_option maxRecDepth 100000 in
set_option maxHeartbeats 3200000 in
theorem topWal_any (w : World) (lv : Value) (dl : List (Value × List OpC)) (fuse keep : Int) (hdl : DeedsN w lv dl) (hf : -9223372036854775808 ≤ fuse ∧ fuse ≤ 9223372036854775807) :
  Calls Try.prog 4 #[lv, .int .i64 fuse, .int .u64 keep] w fun e w' => e = .returned (.bool true) ∧ Below w.heap.size w w' := by
 have HDL := hide hdl
 obtain ⟨lo, lcap, rfl, hlc, -⟩ := id hdl
 clear hdl
 go_enter Try.func4, Try.ntmps4
 go_wp2_with fail
 refine (new_ok w 60 (by decide) (by decide)).mono ?_
 rintro e w1 ⟨rfl, hd1, hb1⟩
 have hlt1 : w.heap.size < w1.heap.size := by obtain ⟨sv, ls, h⟩ := hd1; exact h.lt
 have HD1 := hide hd1; have HB1 := hide hb1; have HI := hide walI_new
 clear hd1 hb1
 go_wp2_with fail
 refine (logOpen_any w1 w.heap.size w.heap.size (newD 60) 60 1 59 5 HD1.out HI.out.well.len (by decide) (by decide) (by decide) (by decide) HI.out.up).mono ?_
 rintro e w2 ⟨L, dv, ds, rfl, hL, hds, hdo, hl, hb2⟩
 have hn : ds.length = 0 := by
  have h1 := congrArg List.length (hdo.trans HI.out.ds)
  simpa using h1
 obtain ⟨do_, dc, rfl⟩ := hds.form
 rw [hn]
 have hl2 : LogM w2 L w.heap.size (1 : Nat) (59 : Nat) 5 (0 : Nat) := by
  have := HI.out.e
  rw [this] at hl
  exact hl
 have HL2 := hide hl2; have HD2 := hide (HD1.out.later hb2); have HB2 := hide (HB1.out.trans (hb2.mono HB1.out.size)); have HLL := hide (Nat.le_trans HB1.out.size hL)
 clear hl hl2 hds hdo hL hb2 hn HD1 HB1
 go_wp2_with fail
 refine (room_any _ L w.heap.size 1 5 59 0 HL2.out (by decide) (by decide)).mono ?_
 rintro e w3 ⟨rfl, hb3⟩
 have HL3 := hide (HL2.out.later hb3); have HD3 := hide (HD2.out.later hb3); have HB3 := hide (HB2.out.trans (hb3.mono HB2.out.size))
 have hlt3 : w.heap.size ≤ w3.heap.size := HB3.out.size
 clear hb3 HL2 HD2 HB2
 by_cases h8 : 8 < dl.length
 ·have g : decide (8 < (dl.length : Int)) = true := decide_eq_true (by omega)
  go_wp2_with fail
  go_ret
  exact ⟨rfl, HB3.out⟩
 ·have g : decide (8 < (dl.length : Int)) = false := decide_eq_false (by omega)
  go_upto_region 9 with fail
  go_cut [] from 52 to 60 (fun wx => ∃ n : Int, DiskO wx w.heap.size w.heap.size { newD 60 with left := n } ∧ Kept w.heap.size w3 wx)
  case first =>
   rcases (by omega : fuse < -1 ∨ (¬ fuse < -1 ∧ 200 < fuse) ∨ (¬ fuse < -1 ∧ ¬ 200 < fuse)) with hc | ⟨hc, hc2⟩ | ⟨hc, hc2⟩
   ·go_wp2_with fail
    refine (arm_any w3 w.heap.size w.heap.size (newD 60) (-1) HD3.out (by omega)).mono ?_
    rintro e w4 ⟨rfl, hd4, hk4⟩
    have HD4 := hide hd4; have HK4 := hide hk4
    clear hd4 hk4
    go_wp2_with fail
    go_meet
    case rel => exact ⟨_, HD4.out, HK4.out⟩
   ·go_wp2_with fail
    refine (arm_any w3 w.heap.size w.heap.size (newD 60) 200 HD3.out (by omega)).mono ?_
    rintro e w4 ⟨rfl, hd4, hk4⟩
    have HD4 := hide hd4; have HK4 := hide hk4
    clear hd4 hk4
    go_wp2_with fail
    go_meet
    case rel => exact ⟨_, HD4.out, HK4.out⟩
   ·go_wp2_with fail
    refine (arm_any w3 w.heap.size w.heap.size (newD 60) fuse HD3.out (by omega)).mono ?_
    rintro e w4 ⟨rfl, hd4, hk4⟩
    have HD4 := hide hd4; have HK4 := hide hk4
    clear hd4 hk4
    go_wp2_with fail
    go_meet
    case rel => exact ⟨_, HD4.out, HK4.out⟩
  case rest =>
   obtain ⟨n, hd4, hk4⟩ := hcut
   have hb4 := hk4.below hlt3
   have HL4 := hide (HL3.out.kept hk4); have HD4 := hide hd4; have HB4 := hide (HB3.out.trans hb4); have HW4 := hide (Nat.le_trans hlt3 hb4.size)
   clear hd4 hk4 hb4 HL3 HD3 HB3
   go_upto_region 11 with fail
   go_cut [12] from 60 to 60 (fun v wy => v = .slice none 0 0 ∧ wy = wc)
   case first =>
    go_wp2_with fail
    go_meet
    case rel => exact ⟨rfl, rfl⟩
   case rest =>
    obtain ⟨rfl, rfl⟩ := hcut
    apply_assumption
    refine topWal_A w _ (.int .u64 keep) lo lcap w.heap.size L w.heap.size { newD 60 with left := n } dl HDL.out (by omega) HB4.out (Nat.le_refl _) HW4.out HLL.out HD4.out HL4.out (walI_arm HI.out n) ?_
    intro W' v1 v2 wd ld E a1 a2 a3 a4 a5 a6 a7 a8
    intros
    refine topWal_B w W' lo lcap w.heap.size L w.heap.size keep E dl wd ld v1 v2 (Nat.le_refl _) a1 a2 a3 a4 a5 a6 a7 a8 ?_
    intro W2 b0 L2 en gv gd c1 c2 c3 c4 c5 c6 c7 c8 c9
    intros
    exact topWal_C w W2 lo lcap w.heap.size w.heap.size b0 L2 en (backD E keep) gv dl gd (Nat.le_refl _) c1 c2 c3 c4 c5 c6 c7 c8 c9

end Go.Proofs.Ytlkenhfhnpohhaa

/- Plain arithmetic of limbs: numbers to the base 4294967296, the lowest first. No Go in it. -/
namespace Go.Proofs.Ytlkenhfhnpohhaa.Limbs

def lv : List Int → Int
 | [] => 0
 | x :: xs => x + 4294967296 * lv xs

def LB (zs : List Int) : Prop := ∀ i : Nat, 0 ≤ zs.getD i 0 ∧ zs.getD i 0 < 4294967296

def Nrm (zs : List Int) : Prop := zs.length = 0 ∨ zs.getD (zs.length - 1) 0 ≠ 0

def bp : Nat → Int
 | 0 => 1
 | n + 1 => 4294967296 * bp n

theorem LB_nil : LB [] := by intro i; simp
theorem LB_tail {x : Int} {xs : List Int} (h : LB (x :: xs)) : LB xs := fun i => by simpa using h (i + 1)
theorem LB_head {x : Int} {xs : List Int} (h : LB (x :: xs)) : 0 ≤ x ∧ x < 4294967296 := by simpa using h 0
theorem LB_cons {x : Int} {xs : List Int} (hx : 0 ≤ x ∧ x < 4294967296) (h : LB xs) : LB (x :: xs) := by
 intro i
 cases i with
 | zero => simpa using hx
 | succ i => simpa using h i

theorem getD_take (zs : List Int) (n i : Nat) (h : i < n) : (zs.take n).getD i 0 = zs.getD i 0 := by
 rw [List.getD_eq_getElem?_getD, List.getElem?_take, if_pos h, List.getD_eq_getElem?_getD]

end Go.Proofs.Ytlkenhfhnpohhaa.Limbs

/- Whole numbers that came in, in a row: as they read. -/
namespace Go.Proofs.Ytlkenhfhnpohhaa
open Go.ChangeShapes Go.WideShapes Go.ChangeAt Go.RowKit Go.Joins Limbs

theorem Try.cellsIntS : Try.prog.cellsOf 44 = 1 := by kernel_rfl
theorem Try.cellsInt : Try.prog.cellsOf 3 = 1 := by kernel_rfl

set_option maxRecDepth 100000 in
theorem open_rowS {H : Type} {enc : TypeId × Value → H} {W : World} {n : Nat} {v : Value} {y : DataW H × List MemPlace}
  (h : DataW.trod enc Try.prog W 0 (fun _ => true) true n 44 [v] = some y) : ∃ ks, RowS W v ks := by
 rcases open_ints Try.underlying44 Try.underlying3 Try.cellsInt h with ⟨hcs, _⟩ | ⟨x, l, c, zs, hcs, _, hl, hm, hz, _, hcell, hwz⟩
 ·simp only [List.cons.injEq, and_true] at hcs
  subst hcs
  exact ⟨[], none, 0, rfl, Nat.le_refl _, fun i => by simp, fun h => absurd h (by simp)⟩
 ·simp only [List.cons.injEq, and_true] at hcs
  subst hcs
  have hz' : zs.length = c := by simpa using hz
  have hlen : (zs.take l).length = l := by rw [List.length_take]; omega
  refine ⟨zs.take l, some x, c, by rw [hlen], by rw [hlen]; exact hl, fun i => ?_, fun h0 => ?_⟩
  ·by_cases hi : i < (zs.take l).length
   ·rw [List.getD_eq_getElem?_getD, List.getElem?_eq_getElem hi, Option.getD_some]
    have := hwz _ (List.mem_of_mem_take (List.getElem_mem hi))
    simp [Lit.wf, IntKind.min, IntKind.max, IntKind.signed, IntKind.bits] at this
    rw [List.getElem_take]
    omega
   ·rw [List.getD_eq_getElem?_getD, List.getElem?_eq_none (by omega)]
    simp
  ·obtain ⟨blk, off, spot⟩ := x
   rw [hlen] at h0
   have h00 := hcell 0 (by omega)
   have hspot : spot = none := by simpa [Addr.add] using World.cell?_spot h00
   subst hspot
   refine ⟨blk, off, rfl, World.block_lt_of_cell? W _ h00, fun i hi => ?_⟩
   rw [hlen] at hi
   have := hcell i (by omega)
   rw [getD_take zs l i (by omega)]
   by_cases hi0 : i = 0
   ·subst hi0; simpa [Addr.add] using this
   ·simpa [Addr.add, hi0] using this

end Go.Proofs.Ytlkenhfhnpohhaa

/- Operations that came in, as they read: all four cells. -/
namespace Go.Proofs.Ytlkenhfhnpohhaa
open Go.ChangeShapes Go.WideShapes Go.ChangeAt Go.RowKit Go.Joins

theorem Try.cellsOpF : Try.prog.cellsOf 46 = 4 := by kernel_rfl
theorem Try.cellsStrF : Try.prog.cellsOf 9 = 1 := by kernel_rfl

instance : Inhabited OpC := ⟨⟨⟨0, ⟨#[]⟩, 0, []⟩, none, 0⟩⟩

section
variable {H : Type} {enc : TypeId × Value → H} {W : World}

set_option maxRecDepth 100000 in
theorem open_opF {n : Nat} {cs : List Value} {y : DataW H × List MemPlace} (h : DataW.trod enc Try.prog W 0 (fun _ => true) true n 46 cs = some y) :
  ∃ q : OpC, cs[0]? = some (.int .i64 q.o.kind) ∧ cs[1]? = some (.string q.o.name) ∧ cs[2]? = some (.int .i64 q.o.n) ∧ cs[3]? = some q.row ∧ RowS W q.row q.o.v := by
 obtain ⟨xs, k, -, -, hl, hxl, hf⟩ := DataW.trod_struct Try.underlying46 h
 rw [Try.cellsOpF] at hl
 match cs, hl with
 | [v0, v1, v2, v3], _ =>
  match xs, hxl with
  | [x0, x1, x2, x3], _ =>
   have g0 : DataW.trod enc Try.prog W 0 (fun _ => true) true k 3 (([v0, v1, v2, v3].drop 0).take (Try.prog.cellsOf 3)) = [x0, x1, x2, x3][0]? := hf 0 _ rfl
   have g1 : DataW.trod enc Try.prog W 0 (fun _ => true) true k 9 (([v0, v1, v2, v3].drop 1).take (Try.prog.cellsOf 9)) = [x0, x1, x2, x3][1]? := hf 1 _ rfl
   have g2 : DataW.trod enc Try.prog W 0 (fun _ => true) true k 3 (([v0, v1, v2, v3].drop 2).take (Try.prog.cellsOf 3)) = [x0, x1, x2, x3][2]? := hf 2 _ rfl
   have g3 : DataW.trod enc Try.prog W 0 (fun _ => true) true k 44 (([v0, v1, v2, v3].drop 3).take (Try.prog.cellsOf 44)) = [x0, x1, x2, x3][3]? := hf 3 _ rfl
   rw [Try.cellsInt] at g0 g2
   rw [Try.cellsStrF] at g1
   rw [Try.cellsIntS] at g3
   obtain ⟨kd, e0, -, -⟩ := DataW.trod_int Try.underlying3 g0
   obtain ⟨name, e1, -, -⟩ := DataW.trod_string Try.underlying9 g1
   obtain ⟨nn, e2, -, -⟩ := DataW.trod_int Try.underlying3 g2
   obtain ⟨ks, hr⟩ := open_rowS (v := v3) g3
   have e0' : v0 = .int .i64 kd := by simpa using e0
   have e1' : v1 = .string name := by simpa using e1
   have e2' : v2 = .int .i64 nn := by simpa using e2
   obtain ⟨vo, vc, e3'⟩ := RowS.form hr
   subst e0' e1' e2' e3'
   exact ⟨⟨⟨kd, name, nn, ks⟩, vo, vc⟩, rfl, rfl, rfl, rfl, hr⟩

set_option maxRecDepth 100000 in
theorem open_opsN {n : Nat} {v : Value} {y : DataW H × List MemPlace} (h : DataW.trod enc Try.prog W 0 (fun _ => true) true n 47 [v] = some y) : ∃ os, OpsN W v os := by
 rcases Go.Deep.open_slice Try.underlying47 h with ⟨e, -⟩ | ⟨a, l, c, m, n, D, Pl, e, -, hl, hm, hmm, -, hc⟩
 ·have e' : v = .slice none 0 0 := by simpa using e
  exact ⟨[], none, 0, e', by decide, fun h => absurd h (by decide)⟩
 ·have e' : v = .slice (some a) l c := by simpa using e
  have hm' : l ≤ m := by simp at hmm; omega
  have each : ∀ i, i < l → ∃ q : OpC, W.cell? (a.add (i * 4 + 0)) = some (.int .i64 q.o.kind) ∧ W.cell? (a.add (i * 4 + 1)) = some (.string q.o.name) ∧ W.cell? (a.add (i * 4 + 2)) = some (.int .i64 q.o.n) ∧ W.cell? (a.add (i * 4 + 3)) = some q.row ∧ RowS W q.row q.o.v := fun i hi => by
   obtain ⟨cs, h1, h2⟩ := hc i (by omega)
   rw [Try.cellsOpF] at h1
   obtain ⟨-, hlen, hcell⟩ := World.cells?_some h1
   obtain ⟨q, e0, e1, e2, e3, hr⟩ := open_opF h2
   have c0 := hcell 0 (by omega)
   have c1 := hcell 1 (by omega)
   have c2 := hcell 2 (by omega)
   have c3 := hcell 3 (by omega)
   rw [Go.Deep.add_add, e0] at c0
   rw [Go.Deep.add_add, e1] at c1
   rw [Go.Deep.add_add, e2] at c2
   rw [Go.Deep.add_add, e3] at c3
   exact ⟨q, c0, c1, c2, c3, hr⟩
  obtain ⟨q, hq⟩ := Go.Deep.choose_lt each
  have hlen : ((List.range l).map q).length = l := by simp
  refine ⟨(List.range l).map q, some a, c, by rw [hlen]; exact e', by rw [hlen]; exact hl, fun h0 => ?_⟩
  rw [hlen] at h0
  obtain ⟨k0, -⟩ := hq 0 h0
  obtain ⟨blk, off, spot⟩ := a
  have hsp : spot = none := by simpa [Addr.add] using World.cell?_spot k0
  subst hsp
  refine ⟨blk, off, rfl, by simpa [Addr.add] using World.block_lt_of_cell? W _ k0, fun i r hi => ?_⟩
  obtain ⟨hi', e⟩ := List.getElem?_eq_some_iff.1 hi
  rw [hlen] at hi'
  have e2 : r = q i := by simpa using e.symm
  obtain ⟨c0, c1, c2, c3, hr⟩ := hq i hi'
  rw [Go.WideShapes.add_plain] at c0 c1 c2 c3
  rw [e2]
  refine ⟨by simpa using c0, ?_, ?_, ?_, hr⟩
  ·rw [Nat.add_assoc]; exact c1
  ·rw [Nat.add_assoc]; exact c2
  ·rw [Nat.add_assoc]; exact c3

end

end Go.Proofs.Ytlkenhfhnpohhaa

/- Deeds that came in, as they read. -/
namespace Go.Proofs.Ytlkenhfhnpohhaa
open Go.ChangeShapes Go.WideShapes Go.ChangeAt Go.RowKit Go.Joins

theorem Try.cellsOpsD : Try.prog.cellsOf 47 = 1 := by kernel_rfl

instance : Inhabited (Value × List OpC) := ⟨(.bool false, [])⟩

set_option maxRecDepth 100000 in
theorem open_deeds {H : Type} {enc : TypeId × Value → H} {W : World} {r : Reach} {b0 : Nat} {v : Value} {d : DataW H} {p : List MemPlace}
  (hv : Value.okWide Try.prog W r b0 33 v) (h : DataW.Trod enc Try.prog W 0 (fun _ => true) true 33 v d p) :
  ∃ dss, DeedsN W v dss := by
 obtain ⟨a0, len, cap, rfl⟩ := okWide_slice Try.underlying33 hv
 obtain ⟨fuel, hf⟩ := h
 rcases Go.Deep.open_slice1 Try.underlying33 Try.cellsOpsD hf with ⟨hcs, _⟩ | ⟨a, l, c, m, n, V, D, Pl, hcs, _, hl, hm, hmm, _, hc⟩
 ·simp [Value.cells] at hcs
  obtain ⟨rfl, rfl, rfl⟩ := hcs
  exact ⟨[], none, 0, rfl, by simp, fun h => absurd h (by simp)⟩
 ·simp [Value.cells] at hcs
  obtain ⟨rfl, rfl, rfl⟩ := hcs
  have hm' : len ≤ m := by simp at hmm; omega
  have each : ∀ i, i < len → ∃ p : Value × List OpC, p.1 = V i ∧ OpsN W (V i) p.2 := fun i hi => by
   obtain ⟨os, ho⟩ := open_opsN (hc i (by omega)).2
   exact ⟨(V i, os), rfl, ho⟩
  obtain ⟨q, hq⟩ := Go.Deep.choose_lt each
  have hlen : ((List.range len).map q).length = len := by simp
  refine ⟨(List.range len).map q, some a, cap, by rw [hlen], by rw [hlen]; exact hl, fun h0 => ?_⟩
  rw [hlen] at h0
  obtain ⟨k0, -⟩ := hc 0 (by omega)
  obtain ⟨blk, off, spot⟩ := a
  have hsp : spot = none := by simpa [Addr.add] using World.cell?_spot k0
  subst hsp
  refine ⟨blk, off, rfl, by simpa [Addr.add] using World.block_lt_of_cell? W _ k0, fun i r hi => ?_⟩
  obtain ⟨hi', e⟩ := List.getElem?_eq_some_iff.1 hi
  rw [hlen] at hi'
  have e' : r = q i := by simpa using e.symm
  obtain ⟨c0, -⟩ := hc i (by omega)
  obtain ⟨q0, q1⟩ := hq i hi'
  rw [Go.WideShapes.add_plain] at c0
  rw [e', q0]
  exact ⟨c0, q1⟩

end Go.Proofs.Ytlkenhfhnpohhaa
