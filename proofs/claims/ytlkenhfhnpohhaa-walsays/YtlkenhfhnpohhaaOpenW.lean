/- WalSays: the log is opened, its sectors are read. -/
import Derived.Test.YtlkenhfhnpohhaaWcH
import Derived.Test.YtlkenhfhnpohhaaRegions
import Derived.ProofKit
import Derived.Lib.SmallJoins
import Derived.ChangeOld
import Derived.Test.YtlkenhfhnpohhaaWcB
import Derived.Test.YtlkenhfhnpohhaaWaP
import Derived.Deep.SlicePairs
import Derived.Test.YtlkenhfhnpohhaaActW

namespace Go.Proofs.Ytlkenhfhnpohhaa
open Go.RowKit

theorem mayB_eq (m : Nat) (fr many first : Int) : mayB m fr many first = !(decide (fr < 0) || decide (many < 1) || decide ((m : Int) < many) || decide ((m : Int) - many < fr) || decide (first < 1)) := by
 unfold mayB
 by_cases a0 : fr < 0
 ·rw [decide_eq_true a0, decide_eq_false (show ¬ 0 ≤ fr by omega)]; simp
 by_cases a1 : many < 1
 ·rw [decide_eq_true a1, decide_eq_false (show ¬ 1 ≤ many by omega)]; simp
 by_cases a4 : first < 1
 ·rw [decide_eq_true a4, decide_eq_false (show ¬ 1 ≤ first by omega)]; simp
 rw [decide_eq_false a0, decide_eq_false a1, decide_eq_false a4, decide_eq_true (show 0 ≤ fr by omega), decide_eq_true (show 1 ≤ many by omega), decide_eq_true (show 1 ≤ first by omega)]
 by_cases a3 : (m : Int) - many < fr
 ·rw [decide_eq_true a3, decide_eq_false (show ¬ many ≤ (m : Int) - fr by omega)]; simp
 ·rw [decide_eq_false a3, decide_eq_true (show many ≤ (m : Int) - fr by omega), decide_eq_false (show ¬ (m : Int) < many by omega)]; rfl

theorem mayB_ok {m : Nat} {fr many first : Int} (h : mayB m fr many first = true) : 0 ≤ fr ∧ 1 ≤ many ∧ 1 ≤ first ∧ many ≤ m - fr := by
 unfold mayB at h
 simp only [Bool.and_eq_true, decide_eq_true_eq] at h
 exact ⟨h.1.1.1, h.1.1.2, h.1.2, h.2⟩

theorem Try.infoStrM : (Try.prog.info? 9).map (fun i => (i.zero, i.size, i.bytes)) = some (some (.string ⟨#[]⟩), 1, 16) := by kernel_rfl

set_option linter.unusedSimpArgs false in
set_option maxRecDepth 100000 in
set_option maxHeartbeats 3200000 in
theorem walSays_C (w W : World) (ao : Option Addr) (acap B bs m kw : Nat) (fr0 mn0 first : Int) (E : Dsk) (al : List ActW) (hal : ActsW w (.slice ao al.length acap) al) (hla : ∀ p ∈ al, lightP p) (hll : al.length ≤ 20) (hbe : Below w.heap.size w W) (hbs : w.heap.size ≤ bs) (hbW : bs ≤ W.heap.size) (hm : m ≤ 200) (hfr : -9223372036854775808 ≤ fr0 ∧ fr0 ≤ 9223372036854775807) (hmn : -9223372036854775808 ≤ mn0 ∧ mn0 ≤ 9223372036854775807) (hf : first ≤ 1000000) (hd : DiskO W bs B E) (hwell : Well E m kw) (hkw : kw ≤ 300) (hfree : Free E) {sl0 sl5 sl6 sl7 sl8 sl9 sl10 sl11 sl12 sl14 sl15 sl16 sl17 sl18 sl19 sl20 sl21 sl22 sl23 sl24 sl25 sl26 sl27 sl28 sl29 sl30 sl31 sl32 sl33 sl34 sl35 sl36 sl37 sl38 sl39 sl40 sl41 sl42 sl43 sl44 sl45 sl46 sl47 sl48 sl49 sl50 sl51 sl52 sl53 sl54 sl55 sl56 sl57 sl58 sl59 sl60 sl61 sl62 sl63 sl64 sl65 sl66 sl67 sl68 sl69 sl70 sl71 sl72 sl73 sl74 sl75 sl76 sl77 sl78 sl79 sl80 sl81 sl82 sl83 sl84 sl85 sl86 sl87 sl88 sl89 sl90 sl91 sl92 sl93 sl94 sl95 sl96 sl97 sl98 sl99 sl100 sl101 sl102 sl103 sl104 sl105 sl106 sl107 sl108 sl109 sl110 sl111 sl112 sl113 sl114 sl115 sl116 sl117 sl118 sl119 sl120 sl121 sl122 sl123 sl124 sl125 sl126 sl127 sl128 sl129 sl130 sl131 sl132 sl133 sl134 sl135 sl136 sl137 sl138 sl139 sl140 sl141 sl142 sl143 sl144 sl145 sl146 sl147 sl148 sl149 sl150 sl151 sl152 sl153 sl154 sl155 sl156 sl157 sl158 sl159 sl160 sl161 sl162 sl163 sl164 sl165 sl166 sl167 sl168 sl169 sl170 sl171 sl172 sl173 sl174 sl175 sl176 sl177 sl178 sl179 sl180 sl181 sl182 sl183 sl184 sl185 sl186 sl187 sl188 sl189 sl190 sl191 sl192 sl193 sl194 sl195 sl196 sl197 sl198 sl199 sl200 sl201 sl202 sl203 sl204 sl205 sl206 sl207 sl208 sl209 sl210 sl211 sl212 sl213 sl214 sl215 sl216 sl217 sl218 sl219 sl220 sl221 sl222 sl223 sl224 sl225 sl226 sl227 sl228 sl229 sl230 sl231 sl232 sl233 sl234 sl235 sl236 : Value} :
  (Code.tail (Code.tail (Code.tail (Code.tail (Code.tail (Code.tail (Code.tail ((Try.f3.body).getD .skip)))))))).wp Try.prog (bodyPost Try.prog Try.f3 (fun e w' => e = .returned (.bool true) ∧ Below w.heap.size w w')) ⟨#[sl0, (.int .i64 (fr0 : Int)), (.int .i64 (mn0 : Int)), (.int .i64 (first : Int)), (.slice ao al.length acap), sl5, sl6, sl7, sl8, sl9, sl10, sl11, sl12, (.pointer (some ⟨B, 0, none⟩)), sl14, sl15, sl16, sl17, sl18, sl19, sl20, sl21, sl22, sl23, sl24, sl25, sl26, sl27, sl28, sl29, sl30, sl31, sl32, sl33, sl34, sl35, sl36, sl37, sl38, sl39, sl40, sl41, sl42, sl43, sl44, sl45, sl46, sl47, sl48, sl49, sl50, sl51, sl52, sl53, sl54, sl55, sl56, sl57, sl58, sl59, sl60, sl61, sl62, sl63, sl64, sl65, sl66, sl67, sl68, sl69, sl70, sl71, sl72, sl73, sl74, sl75, sl76, sl77, sl78, sl79, sl80, sl81, sl82, sl83, sl84, sl85, sl86, sl87, sl88, sl89, sl90, sl91, sl92, sl93, sl94, sl95, sl96, sl97, sl98, sl99, sl100, sl101, sl102, sl103, sl104, sl105, sl106, sl107, sl108, sl109, sl110, sl111, sl112, sl113, sl114, sl115, sl116, sl117, sl118, sl119, sl120, sl121, sl122, sl123, sl124, sl125, sl126, sl127, sl128, sl129, sl130, sl131, sl132, sl133, sl134, sl135, sl136, sl137, sl138, sl139, sl140, sl141, sl142, sl143, sl144, sl145, sl146, sl147, sl148, sl149, sl150, sl151, sl152, sl153, sl154, sl155, sl156, sl157, sl158, sl159, sl160, sl161, sl162, sl163, sl164, sl165, sl166, sl167, sl168, sl169, sl170, sl171, sl172, sl173, sl174, sl175, sl176, sl177, sl178, sl179, sl180, sl181, sl182, sl183, sl184, sl185, sl186, sl187, sl188, sl189, sl190, sl191, sl192, sl193, sl194, sl195, sl196, sl197, sl198, sl199, sl200, sl201, sl202, sl203, sl204, sl205, sl206, sl207, sl208, sl209, sl210, sl211, sl212, sl213, sl214, sl215, sl216, sl217, sl218, sl219, sl220, sl221, sl222, sl223, sl224, sl225, sl226, sl227, sl228, sl229, sl230, sl231, sl232, sl233, sl234, sl235, sl236], []⟩ W := by
 simp only [Code.tail, Try.f3, Option.getD_some]
 obtain ⟨N, hN⟩ : ∃ n, al.length = n := ⟨_, rfl⟩
 have HAL := hide hal; have HLA := hide hla; have HD := hide hd; have HB := hide hbe; have HW := hide hbW; have HN := hide hN; have HLN := hide hll; have HFREE := hide hfree
 rw [hN]
 clear hal hla hd hbe hbW hN hll hfree
 cases hmay : mayB m fr0 mn0 first with
 | false =>
  go_wp2_with fail
  refine (logOpen_bad W bs B E m fr0 mn0 first HD.out hwell.len hm hfr.2 hmay).mono ?_
  rintro e w2 ⟨rfl, hb2⟩
  have HD2 := hide (HD.out.later hb2); have HB2 := hide (HB.out.trans (hb2.mono HB.out.size))
  clear hb2 HD HB
  go_upto_region 18 with fail
  go_cut [116] from 93 to 117 (fun v wx => v = .bool true ∧ Below w2.heap.size w2 wx)
  case first =>
   have HS := hide (sectors_any w2 bs B E HD2.out)
   rw [hwell.len] at HS
   by_cases a0 : fr0 < 0
   ·have g0 : decide (fr0 < 0) = true := decide_eq_true a0
    have hr := mayB_eq m fr0 mn0 first
    rw [hmay, g0] at hr
    clear hmay
    clear hr
    go_wp2_with fail
    go_meet
    case rel => exact ⟨rfl, Below.refl _ _⟩
   have g0 : decide (fr0 < 0) = false := decide_eq_false a0
   by_cases a1 : mn0 < 1
   ·have g1 : decide (mn0 < 1) = true := decide_eq_true a1
    have hr := mayB_eq m fr0 mn0 first
    rw [hmay, g0, g1] at hr
    clear hmay
    clear hr
    go_wp2_with fail
    go_meet
    case rel => exact ⟨rfl, Below.refl _ _⟩
   have g1 : decide (mn0 < 1) = false := decide_eq_false a1
   by_cases a2 : (m : Int) < mn0
   ·have g2 : decide ((m : Int) < mn0) = true := decide_eq_true a2
    have hr := mayB_eq m fr0 mn0 first
    rw [hmay, g0, g1, g2] at hr
    clear hmay
    clear hr
    go_wp2_with fail
    refine HS.out.mono ?_
    rintro e w3 ⟨rfl, hb3⟩
    have HB3 := hide hb3
    have HS3 := hide (sectors_any w3 bs B E (HD2.out.later hb3))
    rw [hwell.len] at HS3
    clear hb3 HS
    go_wp2_with fail
    go_meet
    case rel => exact ⟨rfl, HB3.out⟩
   have g2 : decide ((m : Int) < mn0) = false := decide_eq_false a2
   by_cases a3 : (m : Int) - mn0 < fr0
   ·have g3 : decide ((m : Int) - mn0 < fr0) = true := decide_eq_true a3
    have hr := mayB_eq m fr0 mn0 first
    rw [hmay, g0, g1, g2, g3] at hr
    clear hmay
    clear hr
    go_wp2_with fail
    refine HS.out.mono ?_
    rintro e w3 ⟨rfl, hb3⟩
    have HB3 := hide hb3
    have HS3 := hide (sectors_any w3 bs B E (HD2.out.later hb3))
    rw [hwell.len] at HS3
    clear hb3 HS
    go_wp2_with fail
    refine HS3.out.mono ?_
    rintro e w4 ⟨rfl, hb4⟩
    have HB4 := hide (HB3.out.trans (hb4.mono HB3.out.size))
    clear hb4 HS3
    go_wp2_with fail
    go_meet
    case rel => exact ⟨rfl, HB4.out⟩
   have g3 : decide ((m : Int) - mn0 < fr0) = false := decide_eq_false a3
   by_cases a4 : first < 1
   ·have g4 : decide (first < 1) = true := decide_eq_true a4
    have hr := mayB_eq m fr0 mn0 first
    rw [hmay, g0, g1, g2, g3, g4] at hr
    clear hmay
    clear hr
    go_wp2_with fail
    refine HS.out.mono ?_
    rintro e w3 ⟨rfl, hb3⟩
    have HB3 := hide hb3
    have HS3 := hide (sectors_any w3 bs B E (HD2.out.later hb3))
    rw [hwell.len] at HS3
    clear hb3 HS
    go_wp2_with fail
    refine HS3.out.mono ?_
    rintro e w4 ⟨rfl, hb4⟩
    have HB4 := hide (HB3.out.trans (hb4.mono HB3.out.size))
    clear hb4 HS3
    go_wp2_with fail
    go_meet
    case rel => exact ⟨rfl, HB4.out⟩
   have g4 : decide (first < 1) = false := decide_eq_false a4
   have hr := mayB_eq m fr0 mn0 first
   rw [hmay, g0, g1, g2, g3, g4] at hr
   clear hmay
   exact Bool.noConfusion hr

  case rest =>
   obtain ⟨rfl, hb⟩ := hcut
   have HB3 := hide (HB2.out.trans (hb.mono HB2.out.size))
   clear hb
   go_wp2_with fail
   refine (sameV_any 1 wc).mono ?_
   rintro e w5 ⟨rfl, rfl⟩
   go_wp2
   go_ret
   exact ⟨rfl, HB3.out⟩
 | true =>
  obtain ⟨h0, h1, h2, h3⟩ := mayB_ok hmay
  obtain ⟨fr, rfl⟩ := Int.eq_ofNat_of_zero_le h0
  obtain ⟨mn, rfl⟩ := Int.eq_ofNat_of_zero_le (show 0 ≤ mn0 by omega)
  have hin : fr + mn ≤ m := by omega
  have h1' : 1 ≤ mn := by omega
  have HIN := hide hin
  go_wp2_with fail
  refine (logOpen_any W bs B E m fr mn first HD.out hwell.len hm hin h1' ⟨h2, by omega⟩ HFREE.out.1).mono ?_
  rintro e w2 ⟨L, gv, gd, rfl, hL, hgd, hgo, hl, hb2⟩
  have HD2 := hide (HD.out.later hb2); have HB2 := hide (HB.out.trans (hb2.mono HB.out.size)); have HW2 := hide (Nat.le_trans HW.out hb2.size); have HLL := hide (Nat.le_trans HW.out hL); have HL := hide hl
  have HG := hide (ListU.of hgd HB2.out); have HGO := hide hgo
  clear hb2 HD HB HW hL hgd hgo hl
  go_upto_region 18 with fail
  go_cut [116] from 93 to 117 (fun v wx => v = .bool false ∧ Below w2.heap.size w2 wx)
  case first =>
   have HS := hide (sectors_any w2 bs B E HD2.out)
   rw [hwell.len] at HS
   by_cases a0 : ((fr : Nat) : Int) < 0
   ·have g0 : decide (((fr : Nat) : Int) < 0) = true := decide_eq_true a0
    have hr := mayB_eq m ((fr : Nat) : Int) ((mn : Nat) : Int) first
    rw [hmay, g0] at hr
    clear hmay
    exact Bool.noConfusion hr
   have g0 : decide (((fr : Nat) : Int) < 0) = false := decide_eq_false a0
   by_cases a1 : ((mn : Nat) : Int) < 1
   ·have g1 : decide (((mn : Nat) : Int) < 1) = true := decide_eq_true a1
    have hr := mayB_eq m ((fr : Nat) : Int) ((mn : Nat) : Int) first
    rw [hmay, g0, g1] at hr
    clear hmay
    exact Bool.noConfusion hr
   have g1 : decide (((mn : Nat) : Int) < 1) = false := decide_eq_false a1
   by_cases a2 : (m : Int) < ((mn : Nat) : Int)
   ·have g2 : decide ((m : Int) < ((mn : Nat) : Int)) = true := decide_eq_true a2
    have hr := mayB_eq m ((fr : Nat) : Int) ((mn : Nat) : Int) first
    rw [hmay, g0, g1, g2] at hr
    clear hmay
    exact Bool.noConfusion hr
   have g2 : decide ((m : Int) < ((mn : Nat) : Int)) = false := decide_eq_false a2
   by_cases a3 : (m : Int) - ((mn : Nat) : Int) < ((fr : Nat) : Int)
   ·have g3 : decide ((m : Int) - ((mn : Nat) : Int) < ((fr : Nat) : Int)) = true := decide_eq_true a3
    have hr := mayB_eq m ((fr : Nat) : Int) ((mn : Nat) : Int) first
    rw [hmay, g0, g1, g2, g3] at hr
    clear hmay
    exact Bool.noConfusion hr
   have g3 : decide ((m : Int) - ((mn : Nat) : Int) < ((fr : Nat) : Int)) = false := decide_eq_false a3
   by_cases a4 : first < 1
   ·have g4 : decide (first < 1) = true := decide_eq_true a4
    have hr := mayB_eq m ((fr : Nat) : Int) ((mn : Nat) : Int) first
    rw [hmay, g0, g1, g2, g3, g4] at hr
    clear hmay
    exact Bool.noConfusion hr
   have g4 : decide (first < 1) = false := decide_eq_false a4
   have hr := mayB_eq m ((fr : Nat) : Int) ((mn : Nat) : Int) first
   rw [hmay, g0, g1, g2, g3, g4] at hr
   clear hmay
   have a2n : decide (m < mn) = false := decide_eq_false (by omega)
   clear hr
   go_wp2_with fail
   refine HS.out.mono ?_
   rintro e w3 ⟨rfl, hb3⟩
   have HB3 := hide hb3
   have HS3 := hide (sectors_any w3 bs B E (HD2.out.later hb3))
   rw [hwell.len] at HS3
   clear hb3 HS
   go_wp2_with fail
   refine HS3.out.mono ?_
   rintro e w4 ⟨rfl, hb4⟩
   have HB4 := hide (HB3.out.trans (hb4.mono HB3.out.size))
   clear hb4 HS3
   go_wp2_with fail
   go_meet
   case rel => exact ⟨rfl, HB4.out⟩

  case rest =>
   obtain ⟨rfl, hb⟩ := hcut
   have HD3 := hide (HD2.out.later hb); have HB3 := hide (HB2.out.trans (hb.mono HB2.out.size)); have HW3 := hide (Nat.le_trans HW2.out hb.size); have HL3 := hide (HL.out.later hb); have HG3 := hide (HG.out.later hb)
   clear hb HD2 HB2 HW2 HL HG
   go_wp2_with fail
   go_loopw [18, 19] (fun nv ix wr => ∃ (k : Nat) (no : Option Addr) (nc : Nat), k ≤ mn ∧ ix = .int .i64 k ∧ nv = .slice no k nc ∧ Hid (Below wc.heap.size wc wr) ∧ Hid (wr.ownsRow wc.heap.size 9 1 (.slice no k nc) k ((List.range k).map fun i => .string (secB (cont E (fr + i)))))) (fun _ ix _ => mn - (intOf ix).toNat)
   case atStart => exact ⟨0, none, 0, Nat.zero_le _, rfl, rfl, hide (Below.refl _ _), hide (World.ownsRow_nil _ _ _ _)⟩
   case round =>
    obtain ⟨k, no, nc, hk, rfl, rfl, HBR, HNL⟩ := hrel
    by_cases hkl : k < mn
    ·obtain ⟨at_, hat⟩ : ∃ a : Nat, a = fr + k := ⟨_, rfl⟩
     have gA : (fr : Int) + (k : Int) = (at_ : Int) := by omega
     have hrd := read_any wr bs B E (at_ : Int) (HD3.out.later HBR.out) (by rw [hwell.len]; exact hm)
     have hrs : readS E (at_ : Int) = cont E (fr + k) := by
      unfold readS cont
      rw [if_pos ⟨HFREE.out.1, by omega, by rw [hwell.len]; omega⟩, Int.toNat_natCast, hat]
     rw [hrs] at hrd
     generalize E.readErr (at_ : Int) = RE at hrd
     have HRD := hide hrd
     clear hrd hrs hat
     go_wp2_with fail
     refine HRD.out.mono ?_
     rintro e w6 ⟨rfl, hb6⟩
     obtain ⟨j0, hj, hy0, hy1, hy2⟩ := info_got Try.infoStrM
     have hown6 : w6.ownsRow wc.heap.size 9 1 (.slice no k nc) k ((List.range k).map fun i => .string (secB (cont E (fr + i)))) := ownsKeep HNL.out (fun b _ _ hx => hb6.block b (heap_lt hx))
     obtain ⟨no', nc', W7, hr, hown, hb7⟩ := own_snoc (P := Try.prog) w6 wc.heap.size (Nat.le_trans HBR.out.size hb6.size) 22 22 9 j0 _ 1 16 (by kernel_rfl) hj hy0 hy1 hy2 rfl (by decide) _ k _ hown6 #[.string (secB (cont E (fr + k)))] 9 rfl (fun y hy => by
      rw [List.mem_singleton] at hy
      rw [hy]; rfl) (by unfold maxLen; omega) (by omega)
     have HR := hide hr
     have HBR2 := hide ((HBR.out.trans (hb6.mono HBR.out.size)).trans hb7)
     have HNL2 : Hid (W7.ownsRow wc.heap.size 9 1 (.slice no' (k + 1) nc') (k + 1) ((List.range (k + 1)).map fun i => .string (secB (cont E (fr + i))))) := by
      show W7.ownsRow _ _ _ _ _ _
      rw [List.range_succ, List.map_append]
      exact hown
     clear hr hown hb7 hown6 hb6 HBR HNL hj hy0 hy1 hy2
     go_wp2_with (show wpList _ _ _ ({ dst := some 150, op := _, type := _, pos := _, after := _, guard := _ } :: _) _ _; refine Lib.wpList_append_run _ rfl _ _ _ _ rfl _ _ rfl rfl _ _ HR.out ?_)
     go_roundw
     case rel => exact ⟨k + 1, _, _, by omega, by go_num, rfl, HBR2, HNL2⟩
     case measure => simp [intOf]; omega
    ·obtain rfl : k = mn := by omega
     have hTX : TxtS wr (.slice no k nc) k fr (cont E) := by
      obtain ⟨o2, c2, e, hle⟩ := owns_form HNL.out
      simp only [Value.slice.injEq, true_and] at e
      obtain ⟨rfl, rfl⟩ := e
      refine ⟨no, nc, rfl, hle, fun h0 => ?_⟩
      obtain ⟨b, rfl, hlt, -, hc⟩ := owns_at HNL.out h0
      refine ⟨b, 0, rfl, hlt, fun i hi => hc i _ ?_⟩
      rw [List.getElem?_map, List.getElem?_range hi]
      rfl
     have HTX := hide hTX
     have HD4 := hide (HD3.out.later HBR.out); have HB4 := hide (HB3.out.trans (HBR.out.mono HB3.out.size)); have HW4 := hide (Nat.le_trans HW3.out HBR.out.size); have HL4 := hide (HL3.out.later HBR.out); have HG4 := hide (HG3.out.later HBR.out)
     clear hTX HNL HBR HD3 HB3 HW3 HL3 HG3
     go_upto_region 28 with fail
     go_cut [22, 23] from 151 to 157 (fun v u wx => ∃ wd : List (Value × List OpC), Below wr.heap.size wr wx ∧ ListU w wx v wd ∧ opsD wd = (saysL first fr k (cont E)).ds ∧ u = .int .i64 ((saysL first fr k (cont E)).e : Int))
     case first =>
      go_wp2_with fail
      refine (closed_any wr _ fr k first (cont E) HTX.out (by omega) ⟨by omega, by omega⟩ (fun i hi => cont_len HD4.out (by rw [hwell.len]; omega))).mono ?_
      rintro e w8 ⟨dv, dss, rfl, hdt, hdo, hb8⟩
      have HX := hide (show ∃ wd : List (Value × List OpC), Below wr.heap.size wr w8 ∧ ListU w w8 dv wd ∧ opsD wd = (saysL first fr k (cont E)).ds from ⟨dss, hb8, ListU.of hdt (HB4.out.trans (hb8.mono HB4.out.size)), hdo⟩)
      clear hdt hdo hb8
      go_wp2_with fail
      go_meet
      case rel =>
       obtain ⟨wd, x1, x2, x3⟩ := HX.out
       exact ⟨wd, x1, x2, x3, rfl⟩
     case rest =>
      obtain ⟨wd, hb9, hwl, hwo, rfl⟩ := hcut
      apply_assumption
      rw [← HN.out]
      exact walSays_D w _ ao acap B L bs fr k m _ first E al gd wd gv _ HAL.out HLA.out HLN.out hbs (Nat.le_trans HW4.out hb9.size) HLL.out hm HIN.out h1' ⟨h2, hf⟩ (HD4.out.later hb9) (HL4.out.later hb9) ⟨⟨kw, hwell, hkw⟩, HFREE.out, hwo.symm, rfl⟩ (HG4.out.later hb9) hwl (HGO.out.trans hwo.symm)

end Go.Proofs.Ytlkenhfhnpohhaa

/- Plain arithmetic of limbs: numbers to the base 4294967296, the lowest first. No Go in it. -/
namespace Go.Proofs.Ytlkenhfhnpohhaa.Limbs

def lv : List Int → Int
 | [] => 0
 | x :: xs => x + 4294967296 * lv xs

def LB (zs : List Int) : Prop := ∀ i : Nat, 0 ≤ zs.getD i 0 ∧ zs.getD i 0 < 4294967296

def Nrm (zs : List Int) : Prop := zs.length = 0 ∨ zs.getD (zs.length - 1) 0 ≠ 0

def bp : Nat → Int
 | 0 => 1
 | n + 1 => 4294967296 * bp n

theorem LB_nil : LB [] := by intro i; simp
theorem LB_tail {x : Int} {xs : List Int} (h : LB (x :: xs)) : LB xs := fun i => by simpa using h (i + 1)
theorem LB_head {x : Int} {xs : List Int} (h : LB (x :: xs)) : 0 ≤ x ∧ x < 4294967296 := by simpa using h 0
theorem LB_cons {x : Int} {xs : List Int} (hx : 0 ≤ x ∧ x < 4294967296) (h : LB xs) : LB (x :: xs) := by
 intro i
 cases i with
 | zero => simpa using hx
 | succ i => simpa using h i

theorem getD_take (zs : List Int) (n i : Nat) (h : i < n) : (zs.take n).getD i 0 = zs.getD i 0 := by
 rw [List.getD_eq_getElem?_getD, List.getElem?_take, if_pos h, List.getD_eq_getElem?_getD]

end Go.Proofs.Ytlkenhfhnpohhaa.Limbs

/- Whole numbers that came in, in a row: as they read. -/
namespace Go.Proofs.Ytlkenhfhnpohhaa
open Go.ChangeShapes Go.WideShapes Go.ChangeAt Go.RowKit Go.Joins Limbs

theorem Try.cellsIntS : Try.prog.cellsOf 44 = 1 := by kernel_rfl
theorem Try.cellsInt : Try.prog.cellsOf 3 = 1 := by kernel_rfl

set_option maxRecDepth 100000 in
theorem open_rowS {H : Type} {enc : TypeId × Value → H} {W : World} {n : Nat} {v : Value} {y : DataW H × List MemPlace}
  (h : DataW.trod enc Try.prog W 0 (fun _ => true) true n 44 [v] = some y) : ∃ ks, RowS W v ks := by
 rcases open_ints Try.underlying44 Try.underlying3 Try.cellsInt h with ⟨hcs, _⟩ | ⟨x, l, c, zs, hcs, _, hl, hm, hz, _, hcell, hwz⟩
 ·simp only [List.cons.injEq, and_true] at hcs
  subst hcs
  exact ⟨[], none, 0, rfl, Nat.le_refl _, fun i => by simp, fun h => absurd h (by simp)⟩
 ·simp only [List.cons.injEq, and_true] at hcs
  subst hcs
  have hz' : zs.length = c := by simpa using hz
  have hlen : (zs.take l).length = l := by rw [List.length_take]; omega
  refine ⟨zs.take l, some x, c, by rw [hlen], by rw [hlen]; exact hl, fun i => ?_, fun h0 => ?_⟩
  ·by_cases hi : i < (zs.take l).length
   ·rw [List.getD_eq_getElem?_getD, List.getElem?_eq_getElem hi, Option.getD_some]
    have := hwz _ (List.mem_of_mem_take (List.getElem_mem hi))
    simp [Lit.wf, IntKind.min, IntKind.max, IntKind.signed, IntKind.bits] at this
    rw [List.getElem_take]
    omega
   ·rw [List.getD_eq_getElem?_getD, List.getElem?_eq_none (by omega)]
    simp
  ·obtain ⟨blk, off, spot⟩ := x
   rw [hlen] at h0
   have h00 := hcell 0 (by omega)
   have hspot : spot = none := by simpa [Addr.add] using World.cell?_spot h00
   subst hspot
   refine ⟨blk, off, rfl, World.block_lt_of_cell? W _ h00, fun i hi => ?_⟩
   rw [hlen] at hi
   have := hcell i (by omega)
   rw [getD_take zs l i (by omega)]
   by_cases hi0 : i = 0
   ·subst hi0; simpa [Addr.add] using this
   ·simpa [Addr.add, hi0] using this

end Go.Proofs.Ytlkenhfhnpohhaa

/- Operations that came in, as they read: all four cells. -/
namespace Go.Proofs.Ytlkenhfhnpohhaa
open Go.ChangeShapes Go.WideShapes Go.ChangeAt Go.RowKit Go.Joins

theorem Try.cellsOpF : Try.prog.cellsOf 46 = 4 := by kernel_rfl
theorem Try.cellsStrF : Try.prog.cellsOf 9 = 1 := by kernel_rfl

instance : Inhabited OpC := ⟨⟨⟨0, ⟨#[]⟩, 0, []⟩, none, 0⟩⟩

section
variable {H : Type} {enc : TypeId × Value → H} {W : World}

set_option maxRecDepth 100000 in
theorem open_opF {n : Nat} {cs : List Value} {y : DataW H × List MemPlace} (h : DataW.trod enc Try.prog W 0 (fun _ => true) true n 46 cs = some y) :
  ∃ q : OpC, cs[0]? = some (.int .i64 q.o.kind) ∧ cs[1]? = some (.string q.o.name) ∧ cs[2]? = some (.int .i64 q.o.n) ∧ cs[3]? = some q.row ∧ RowS W q.row q.o.v := by
 obtain ⟨xs, k, -, -, hl, hxl, hf⟩ := DataW.trod_struct Try.underlying46 h
 rw [Try.cellsOpF] at hl
 match cs, hl with
 | [v0, v1, v2, v3], _ =>
  match xs, hxl with
  | [x0, x1, x2, x3], _ =>
   have g0 : DataW.trod enc Try.prog W 0 (fun _ => true) true k 3 (([v0, v1, v2, v3].drop 0).take (Try.prog.cellsOf 3)) = [x0, x1, x2, x3][0]? := hf 0 _ rfl
   have g1 : DataW.trod enc Try.prog W 0 (fun _ => true) true k 9 (([v0, v1, v2, v3].drop 1).take (Try.prog.cellsOf 9)) = [x0, x1, x2, x3][1]? := hf 1 _ rfl
   have g2 : DataW.trod enc Try.prog W 0 (fun _ => true) true k 3 (([v0, v1, v2, v3].drop 2).take (Try.prog.cellsOf 3)) = [x0, x1, x2, x3][2]? := hf 2 _ rfl
   have g3 : DataW.trod enc Try.prog W 0 (fun _ => true) true k 44 (([v0, v1, v2, v3].drop 3).take (Try.prog.cellsOf 44)) = [x0, x1, x2, x3][3]? := hf 3 _ rfl
   rw [Try.cellsInt] at g0 g2
   rw [Try.cellsStrF] at g1
   rw [Try.cellsIntS] at g3
   obtain ⟨kd, e0, -, -⟩ := DataW.trod_int Try.underlying3 g0
   obtain ⟨name, e1, -, -⟩ := DataW.trod_string Try.underlying9 g1
   obtain ⟨nn, e2, -, -⟩ := DataW.trod_int Try.underlying3 g2
   obtain ⟨ks, hr⟩ := open_rowS (v := v3) g3
   have e0' : v0 = .int .i64 kd := by simpa using e0
   have e1' : v1 = .string name := by simpa using e1
   have e2' : v2 = .int .i64 nn := by simpa using e2
   obtain ⟨vo, vc, e3'⟩ := RowS.form hr
   subst e0' e1' e2' e3'
   exact ⟨⟨⟨kd, name, nn, ks⟩, vo, vc⟩, rfl, rfl, rfl, rfl, hr⟩

set_option maxRecDepth 100000 in
theorem open_opsN {n : Nat} {v : Value} {y : DataW H × List MemPlace} (h : DataW.trod enc Try.prog W 0 (fun _ => true) true n 47 [v] = some y) : ∃ os, OpsN W v os := by
 rcases Go.Deep.open_slice Try.underlying47 h with ⟨e, -⟩ | ⟨a, l, c, m, n, D, Pl, e, -, hl, hm, hmm, -, hc⟩
 ·have e' : v = .slice none 0 0 := by simpa using e
  exact ⟨[], none, 0, e', by decide, fun h => absurd h (by decide)⟩
 ·have e' : v = .slice (some a) l c := by simpa using e
  have hm' : l ≤ m := by simp at hmm; omega
  have each : ∀ i, i < l → ∃ q : OpC, W.cell? (a.add (i * 4 + 0)) = some (.int .i64 q.o.kind) ∧ W.cell? (a.add (i * 4 + 1)) = some (.string q.o.name) ∧ W.cell? (a.add (i * 4 + 2)) = some (.int .i64 q.o.n) ∧ W.cell? (a.add (i * 4 + 3)) = some q.row ∧ RowS W q.row q.o.v := fun i hi => by
   obtain ⟨cs, h1, h2⟩ := hc i (by omega)
   rw [Try.cellsOpF] at h1
   obtain ⟨-, hlen, hcell⟩ := World.cells?_some h1
   obtain ⟨q, e0, e1, e2, e3, hr⟩ := open_opF h2
   have c0 := hcell 0 (by omega)
   have c1 := hcell 1 (by omega)
   have c2 := hcell 2 (by omega)
   have c3 := hcell 3 (by omega)
   rw [Go.Deep.add_add, e0] at c0
   rw [Go.Deep.add_add, e1] at c1
   rw [Go.Deep.add_add, e2] at c2
   rw [Go.Deep.add_add, e3] at c3
   exact ⟨q, c0, c1, c2, c3, hr⟩
  obtain ⟨q, hq⟩ := Go.Deep.choose_lt each
  have hlen : ((List.range l).map q).length = l := by simp
  refine ⟨(List.range l).map q, some a, c, by rw [hlen]; exact e', by rw [hlen]; exact hl, fun h0 => ?_⟩
  rw [hlen] at h0
  obtain ⟨k0, -⟩ := hq 0 h0
  obtain ⟨blk, off, spot⟩ := a
  have hsp : spot = none := by simpa [Addr.add] using World.cell?_spot k0
  subst hsp
  refine ⟨blk, off, rfl, by simpa [Addr.add] using World.block_lt_of_cell? W _ k0, fun i r hi => ?_⟩
  obtain ⟨hi', e⟩ := List.getElem?_eq_some_iff.1 hi
  rw [hlen] at hi'
  have e2 : r = q i := by simpa using e.symm
  obtain ⟨c0, c1, c2, c3, hr⟩ := hq i hi'
  rw [Go.WideShapes.add_plain] at c0 c1 c2 c3
  rw [e2]
  refine ⟨by simpa using c0, ?_, ?_, ?_, hr⟩
  ·rw [Nat.add_assoc]; exact c1
  ·rw [Nat.add_assoc]; exact c2
  ·rw [Nat.add_assoc]; exact c3

end

end Go.Proofs.Ytlkenhfhnpohhaa

/- Acts with all their parts, and texts, that came in: as they read. -/
namespace Go.Proofs.Ytlkenhfhnpohhaa
open Go.ChangeShapes Go.WideShapes Go.ChangeAt Go.RowKit Go.Joins

theorem Try.cellsActW : Try.prog.cellsOf 49 = 9 := by kernel_rfl
theorem Try.cellsU64 : Try.prog.cellsOf 43 = 1 := by kernel_rfl
theorem Try.cellsOpsW : Try.prog.cellsOf 47 = 1 := by kernel_rfl

def TxtsN (w : World) (v : Value) (ss : List ByteArray) : Prop :=
 ∃ ao cap, v = .slice ao ss.length cap ∧ ss.length ≤ cap ∧ (0 < ss.length → ∃ b off, ao = some ⟨b, off, none⟩ ∧ b < w.heap.size ∧ ∀ i s, ss[i]? = some s → w.cell? ⟨b, off + i, none⟩ = some (.string s))

theorem TxtsN.below {w w' : World} {v : Value} {ss : List ByteArray} (h : TxtsN w v ss) (hb : Below w.heap.size w w') : TxtsN w' v ss := by
 obtain ⟨ao, cap, e, hn, h⟩ := h
 refine ⟨ao, cap, e, hn, fun h0 => ?_⟩
 obtain ⟨b, off, e, hlt, h⟩ := h h0
 exact ⟨b, off, e, Nat.lt_of_lt_of_le hlt hb.size, fun i p hp => (hb.cell (p := ⟨b, off + i, none⟩) hlt).trans (h i p hp)⟩

instance : Inhabited ActW := ⟨⟨⟨#[]⟩, 0, ⟨#[]⟩, 0, default, .bool false, []⟩⟩

section
variable {H : Type} {enc : TypeId × Value → H} {W : World}

set_option maxRecDepth 100000 in
theorem open_actW {n : Nat} {cs : List Value} {y : DataW H × List MemPlace} (h : DataW.trod enc Try.prog W 0 (fun _ => true) true n 49 cs = some y) : ∃ p : ActW, p.ok W ∧ cs = p.cells := by
 obtain ⟨xs, k, -, -, hl, hxl, hf⟩ := DataW.trod_struct Try.underlying49 h
 rw [Try.cellsActW] at hl
 match cs, hl with
 | [v0, v1, v2, v3, v4, v5, v6, v7, v8], _ =>
  match xs, hxl with
  | [x0, x1, x2, x3, x4, x5], _ =>
   have g0 : DataW.trod enc Try.prog W 0 (fun _ => true) true k 9 (([v0, v1, v2, v3, v4, v5, v6, v7, v8].drop 0).take (Try.prog.cellsOf 9)) = [x0, x1, x2, x3, x4, x5][0]? := hf 0 _ rfl
   have g1 : DataW.trod enc Try.prog W 0 (fun _ => true) true k 3 (([v0, v1, v2, v3, v4, v5, v6, v7, v8].drop 1).take (Try.prog.cellsOf 3)) = [x0, x1, x2, x3, x4, x5][1]? := hf 1 _ rfl
   have g2 : DataW.trod enc Try.prog W 0 (fun _ => true) true k 9 (([v0, v1, v2, v3, v4, v5, v6, v7, v8].drop 2).take (Try.prog.cellsOf 9)) = [x0, x1, x2, x3, x4, x5][2]? := hf 2 _ rfl
   have g3 : DataW.trod enc Try.prog W 0 (fun _ => true) true k 43 (([v0, v1, v2, v3, v4, v5, v6, v7, v8].drop 3).take (Try.prog.cellsOf 43)) = [x0, x1, x2, x3, x4, x5][3]? := hf 3 _ rfl
   have g4 : DataW.trod enc Try.prog W 0 (fun _ => true) true k 46 (([v0, v1, v2, v3, v4, v5, v6, v7, v8].drop 4).take (Try.prog.cellsOf 46)) = [x0, x1, x2, x3, x4, x5][4]? := hf 4 _ rfl
   have g5 : DataW.trod enc Try.prog W 0 (fun _ => true) true k 47 (([v0, v1, v2, v3, v4, v5, v6, v7, v8].drop 8).take (Try.prog.cellsOf 47)) = [x0, x1, x2, x3, x4, x5][5]? := hf 5 _ rfl
   rw [Try.cellsStrF] at g0 g2
   rw [Try.cellsInt] at g1
   rw [Try.cellsU64] at g3
   rw [Try.cellsOpF] at g4
   rw [Try.cellsOpsW] at g5
   obtain ⟨s0, e0, -, -⟩ := DataW.trod_string Try.underlying9 g0
   obtain ⟨z1, e1, -, hw1⟩ := DataW.trod_int Try.underlying3 g1
   obtain ⟨s2, e2, -, -⟩ := DataW.trod_string Try.underlying9 g2
   obtain ⟨z3, e3, -, hw3⟩ := DataW.trod_int Try.underlying43 g3
   obtain ⟨q, q0, q1, q2, q3, hq⟩ := open_opF (cs := [v4, v5, v6, v7]) g4
   obtain ⟨os, hos⟩ := open_opsN (v := v8) g5
   have e0' : v0 = .string s0 := by simpa using e0
   have e1' : v1 = .int .i64 z1 := by simpa using e1
   have e2' : v2 = .string s2 := by simpa using e2
   have e3' : v3 = .int .u64 z3 := by simpa using e3
   have e4' : v4 = .int .i64 q.o.kind := by simpa using q0
   have e5' : v5 = .string q.o.name := by simpa using q1
   have e6' : v6 = .int .i64 q.o.n := by simpa using q2
   have e7' : v7 = q.row := by simpa using q3
   refine ⟨⟨s0, z1, s2, z3, q, v8, os⟩, ⟨?_, ?_, hq, hos⟩, by rw [e0', e1', e2', e3', e4', e5', e6', e7']; rfl⟩
   ·simp [Lit.wf] at hw1
    exact ⟨hw1.1, hw1.2⟩
   ·simp [Lit.wf] at hw3
    exact ⟨hw3.1, Int.lt_of_le_of_lt hw3.2 (by decide)⟩

theorem spot_noneW {a : Addr} {v : Value} (h : W.cell? (a.add 0) = some v) : ∃ b off, a = ⟨b, off, none⟩ ∧ b < W.heap.size := by
 obtain ⟨b, off, spot⟩ := a
 have hs : spot = none := by simpa [Addr.add] using World.cell?_spot h
 subst hs
 exact ⟨b, off, rfl, by simpa [Addr.add] using World.block_lt_of_cell? W _ h⟩

set_option maxRecDepth 100000 in
theorem open_actsW {r : Reach} {b0 : Nat} {v : Value} {d : DataW H} {p : List MemPlace} (hv : Value.okWide Try.prog W r b0 23 v) (h : DataW.Trod enc Try.prog W 0 (fun _ => true) true 23 v d p) : ∃ al, ActsW W v al := by
 obtain ⟨a0, len, cap, rfl⟩ := okWide_slice Try.underlying23 hv
 obtain ⟨fuel, hf⟩ := h
 rcases Go.Deep.open_slice Try.underlying23 hf with ⟨e, -⟩ | ⟨a, l, c, m, n, D, Pl, e, -, hl, hm, hmm, -, hc⟩
 ·have e' : Value.slice a0 len cap = .slice none 0 0 := by simpa [Value.cells] using e
  rw [e']
  exact ⟨[], none, 0, rfl, Nat.le_refl _, fun h => absurd h (by decide)⟩
 ·have e' : Value.slice a0 len cap = .slice (some a) l c := by simpa [Value.cells] using e
  rw [e']
  have hm' : l ≤ m := by simp at hmm; omega
  have each : ∀ i, i < l → ∃ q : ActW, q.ok W ∧ ∀ j u, q.cells[j]? = some u → W.cell? (a.add (i * 9 + j)) = some u := fun i hi => by
   obtain ⟨cs, h1, h2⟩ := hc i (by omega)
   rw [Try.cellsActW] at h1
   obtain ⟨-, hlen, hcell⟩ := World.cells?_some h1
   obtain ⟨q, hq, rfl⟩ := open_actW h2
   refine ⟨q, hq, fun j u hu => ?_⟩
   have hj := (List.getElem?_eq_some_iff.1 hu).1
   have := hcell j (by omega)
   rw [Go.Deep.add_add, hu] at this
   exact this
  obtain ⟨q, hq⟩ := Go.Deep.choose_lt each
  have hlen : ((List.range l).map q).length = l := by simp
  refine ⟨(List.range l).map q, some a, c, by rw [hlen], by rw [hlen]; omega, fun h0 => ?_⟩
  rw [hlen] at h0
  have c0 := (hq 0 h0).2 0 _ rfl
  obtain ⟨b, off, rfl, hlt⟩ := spot_noneW (by simpa using c0)
  refine ⟨b, off, rfl, hlt, fun i p hp => ?_⟩
  obtain ⟨hi, e⟩ := List.getElem?_eq_some_iff.1 hp
  rw [hlen] at hi
  have ep : p = q i := by simpa using e.symm
  subst ep
  refine ⟨(hq i hi).1, fun j u hu => ?_⟩
  have := (hq i hi).2 j u hu
  rw [Go.WideShapes.add_plain] at this
  rw [Nat.add_assoc]
  exact this

set_option maxRecDepth 100000 in
theorem open_textsW {r : Reach} {b0 : Nat} {v : Value} {d : DataW H} {p : List MemPlace} (hv : Value.okWide Try.prog W r b0 22 v) (h : DataW.Trod enc Try.prog W 0 (fun _ => true) true 22 v d p) : ∃ ss, TxtsN W v ss := by
 obtain ⟨a0, len, cap, rfl⟩ := okWide_slice Try.underlying22 hv
 obtain ⟨fuel, hf⟩ := h
 rcases Go.Deep.open_slice1 Try.underlying22 Try.cellsStrF hf with ⟨hcs, _⟩ | ⟨a, l, c, m, n, V, D, Pl, hcs, _, hl, hm, hmm, _, hc⟩
 ·simp [Value.cells] at hcs
  obtain ⟨rfl, rfl, rfl⟩ := hcs
  exact ⟨[], none, 0, rfl, by simp, fun h => absurd h (by simp)⟩
 ·simp [Value.cells] at hcs
  obtain ⟨rfl, rfl, rfl⟩ := hcs
  have hm' : len ≤ m := by simp at hmm; omega
  have each : ∀ i, i < len → ∃ s : ByteArray, V i = .string s := fun i hi => by
   obtain ⟨s, e, -, -⟩ := DataW.trod_string Try.underlying9 (hc i (by omega)).2
   exact ⟨s, by simpa using e⟩
  obtain ⟨q, hq⟩ := Go.Deep.choose_lt each
  have hlen : ((List.range len).map q).length = len := by simp
  refine ⟨(List.range len).map q, some a, cap, by rw [hlen], by rw [hlen]; exact hl, fun h0 => ?_⟩
  rw [hlen] at h0
  obtain ⟨k0, -⟩ := hc 0 (by omega)
  obtain ⟨blk, off, spot⟩ := a
  have hsp : spot = none := by simpa [Addr.add] using World.cell?_spot k0
  subst hsp
  refine ⟨blk, off, rfl, by simpa [Addr.add] using World.block_lt_of_cell? W _ k0, fun i r hi => ?_⟩
  obtain ⟨hi', e⟩ := List.getElem?_eq_some_iff.1 hi
  rw [hlen] at hi'
  have e' : r = q i := by simpa using e.symm
  obtain ⟨c0, -⟩ := hc i (by omega)
  rw [Go.WideShapes.add_plain, hq i hi'] at c0
  rw [e']
  exact c0

end

end Go.Proofs.Ytlkenhfhnpohhaa
