import Derived.Test.YtnhbfehfipafoaaGreatDoorBgX
import Derived.Test.YtnhbfehfipafoaaGreatDoorTl2
import Derived.Deep.Cut
import Derived.Deep.CutRange
import Derived.Deep.CutBlock
import Derived.Test.YtnhbfehfipafoaaGreatDoorBgZ
import Derived.Test.YtnhbfehfipafoaaGreatDoorBgO
namespace Go.Proofs.YtnhbfehfipafoaaGreatDoor
open Go.RowKit
def insL (qs:List Nc)(P:Nat)(q:Nc)(k:Nat):List Nc:=if P < k then qs.take P ++(q :: (qs.take k).drop P) else qs.take k
theorem zeo (qs:List Nc)(P:Nat)(q:Nc)(k:Nat)(hk:k < qs.length)(h:k < P):insL qs P q (k+1)=insL qs P q k ++ [qs[k]]:=by
 unfold insL
 rw [if_neg (by omega),if_neg (by omega),List.take_succ_eq_append_getElem hk]
theorem zel (qs:List Nc)(P:Nat)(q:Nc)(hk:P < qs.length):insL qs P q (P+1)=insL qs P q P ++ [q] ++ [qs[P]]:=by
 unfold insL
 rw [if_pos (by omega),if_neg (by omega),List.take_succ_eq_append_getElem hk,List.drop_left' (by rw [List.length_take];omega)]
 simp
theorem zem (qs:List Nc)(P:Nat)(q:Nc)(k:Nat)(hk:k < qs.length)(h:P < k):insL qs P q (k+1)=insL qs P q k ++ [qs[k]]:=by
 unfold insL
 rw [if_pos (by omega),if_pos h,List.take_succ_eq_append_getElem hk,List.drop_append_of_le_length (by rw [List.length_take];omega)]
 simp
theorem zen (qs:List Nc)(P:Nat)(q:Nc)(k:Nat)(hk:k≤qs.length):(insL qs P q k).length≤qs.length+1:=by
 unfold insL
 split
 ·simp;omega
 ·simp;omega
theorem zhd (qs:List Nc)(P:Nat)(q:Nc)(h:P < qs.length):insL qs P q qs.length=qs.take P ++ q :: qs.drop P:=by
 unfold insL
 rw [if_pos h,List.take_length]
set_option linter.unusedSimpArgs false in
set_option maxRecDepth 100000 in
set_option maxHeartbeats 3200000 in
theorem zgg (w W:World)(ao vo:Option Addr)(cap vc B:Nat)(qs:List Nc)(o:OpV)(r:Nat × List Nmd)(hbe:Below w.heap.size w W)(hcat:CatN W (.slice ao qs.length cap) qs)(hok:CatOk (qs.map (·.x)))(hx:FourV W B (.int .i64 o.kind) (.string o.name) (.int .i64 o.n) (.slice vo o.v.length vc))(hsh:opOk o=true)(HAP:applyC (qs.map (·.x)) o=r)(hk1:o.kind=1){sl1 sl2 sl4 sl5 sl6 sl8 sl9 sl10 sl11 sl12 sl13 sl14 sl15 sl16 sl17 sl18 sl19 sl20 sl21 sl22 sl23 sl24 sl25 sl26 sl27 sl28 sl29 sl30 sl31 sl32 sl33 sl34 sl35 sl36 sl37 sl38 sl39 sl40 sl41 sl42 sl43 sl44 sl45 sl46 sl47 sl48 sl49 sl50 sl51 sl52 sl53 sl54 sl55 sl56 sl57 sl58 sl59 sl60 sl61 sl62 sl63 sl64 sl65 sl66 sl67 sl68 sl69 sl70 sl71 sl72 sl73 sl74 sl75 sl76 sl77 sl78 sl79 sl80 sl81 sl82 sl83 sl84 sl85 sl86 sl87 sl88 sl89 sl90 sl91 sl92 sl93 sl94 sl95 sl96 sl97 sl98 sl99 sl100 sl101 sl102 sl103 sl104 sl105 sl106 sl107 sl108 sl109 sl110 sl111 sl112 sl113 sl114 sl115 sl116 sl117 sl118 sl119 sl120 sl121 sl122 sl123 sl124 sl125 sl126 sl127 sl128 sl129 sl130 sl131 sl132 sl133 sl134 sl135 sl136 sl137 sl138 sl139 sl140 sl141 sl142 sl143 sl144 sl145 sl146 sl147 sl148 sl149 sl150 sl151 sl152 sl153 sl154 sl155 sl156 sl157 sl158 sl159 sl160 sl161 sl162 sl163 sl164 sl165 sl166 sl167 sl168 sl169 sl170 sl171 sl172 sl173 sl174 sl175 sl176 sl177 sl178 sl179 sl180 sl181 sl182 sl183 sl184 sl185 sl186 sl187 sl188 sl189 sl190 sl191 sl192 sl193 sl194 sl195 sl196 sl197 sl198 sl199 sl200 sl201 sl202 sl203 sl204 sl205 sl206 sl207:Value}:
  (Code.tail (Code.tail (Code.tail (Code.tail ((Tryz.f58.body).getD .skip))))).wp Tryz.prog (bodyPost Tryz.prog Tryz.f58 (fun e w'=>RefRes w r e w')) ⟨#[(.slice ao qs.length cap),sl1,sl2,(.pointer (some ⟨B,0,none⟩)),sl4,sl5,sl6,(.int .i64 (atL (qs.map (·.x)) o.name)),sl8,sl9,sl10,sl11,sl12,sl13,sl14,sl15,sl16,sl17,sl18,sl19,sl20,sl21,sl22,sl23,sl24,sl25,sl26,sl27,sl28,sl29,sl30,sl31,sl32,sl33,sl34,sl35,sl36,sl37,sl38,sl39,sl40,sl41,sl42,sl43,sl44,sl45,sl46,sl47,sl48,sl49,sl50,sl51,sl52,sl53,sl54,sl55,sl56,sl57,sl58,sl59,sl60,sl61,sl62,sl63,sl64,sl65,sl66,sl67,sl68,sl69,sl70,sl71,sl72,sl73,sl74,sl75,sl76,sl77,sl78,sl79,sl80,sl81,sl82,sl83,sl84,sl85,sl86,sl87,sl88,sl89,sl90,sl91,sl92,sl93,sl94,sl95,sl96,sl97,sl98,sl99,sl100,sl101,sl102,sl103,sl104,sl105,sl106,sl107,sl108,sl109,sl110,sl111,sl112,sl113,sl114,sl115,sl116,sl117,sl118,sl119,sl120,sl121,sl122,sl123,sl124,sl125,sl126,sl127,sl128,sl129,sl130,sl131,sl132,sl133,sl134,sl135,sl136,sl137,sl138,sl139,sl140,sl141,sl142,sl143,sl144,sl145,sl146,sl147,sl148,sl149,sl150,sl151,sl152,sl153,sl154,sl155,sl156,sl157,sl158,sl159,sl160,sl161,sl162,sl163,sl164,sl165,sl166,sl167,sl168,sl169,sl170,sl171,sl172,sl173,sl174,sl175,sl176,sl177,sl178,sl179,sl180,sl181,sl182,sl183,sl184,sl185,sl186,sl187,sl188,sl189,sl190,sl191,sl192,sl193,sl194,sl195,sl196,sl197,sl198,sl199,sl200,sl201,sl202,sl203,sl204,sl205,sl206,sl207],[]⟩ W:=by
 simp only [Code.tail,Tryz.f58,Option.getD_some]
 have HC:=hide hcat;have HBE:=hide hbe;have HX:=hide hx
 have hq8:qs.length≤8:=by have:=hok.few;rwa [List.length_map] at this
 have HRI:=hide hok.rise
 obtain⟨o0,o1,o2,o3,hBl⟩:=hx
 clear hcat hbe hok
 have hA:=HAP
 unfold applyC at hA
 rw [if_neg (by rw [hsh];decide),if_pos hk1] at hA
 have g1:(o.kind == 1)=true:=by rw [beq_iff_eq];exact hk1
 rw [List.length_map] at hA
 clear hsh HAP hk1
 by_cases h14:¬(1≤o.n∧o.n≤4)
 ·rw [if_pos h14] at hA
  have HR:=hide hA.symm
  clear hA
  by_cases hn1:o.n < 1
  ·have g2:decide (o.n < 1)=true:=decide_eq_true hn1
   clear hn1 h14
   go_wp2
   go_ret2
   exact zt 1 [] HR.out (by decide) HBE.out
  ·have g2:decide (o.n < 1)=false:=decide_eq_false hn1
   have g3:decide (4 < o.n)=true:=decide_eq_true (by omega)
   clear hn1 h14
   go_wp2
   go_ret2
   exact zt 1 [] HR.out (by decide) HBE.out
 rw [if_neg h14] at hA
 have g2:decide (o.n < 1)=false:=decide_eq_false (by omega)
 have g3:decide (4 < o.n)=false:=decide_eq_false (by omega)
 clear h14
 cases hh:hasL (qs.map (·.x)) o.name with
 | true=>
  rw [if_pos hh] at hA
  have HR:=hide hA.symm
  rw [zdy HRI.out hh]
  clear hA hh
  go_wp2
  go_ret2
  exact zt 8 [] HR.out (by decide) HBE.out
 | false=>
 rw [if_neg (by rw [hh];decide)] at hA
 rw [zdx hh]
 by_cases h8:8≤qs.length
 ·rw [if_pos h8] at hA
  have HR:=hide hA.symm
  have g4:((qs.length:Int) == 8)=true:=by rw [beq_iff_eq];omega
  clear hA hh
  go_wp2
  go_ret2
  exact zt 2 [] HR.out (by decide) HBE.out
 rw [if_neg h8] at hA
 have HR:=hide hA.symm
 have g4:((qs.length:Int) == 8)=false:=beq_eq_false_iff_ne.2 (by omega)
 have hP:=zaz (qs.map (·.x)) o.name
 rw [List.length_map] at hP
 have HLOW:Hid (∀ k (h:k < qs.length),k < placeL (qs.map (·.x)) o.name→nlt o.name qs[k].x.name=false):=fun k h hk=>by
  obtain⟨h1,h2⟩:=zaV hk
  rw [List.getElem_map] at h2
  exact zhH h2
 have HAT:Hid (∀ k (h:k < qs.length),k=placeL (qs.map (·.x)) o.name→nlt o.name qs[k].x.name=true):=fun k h hk=>by
  have h1:=zcL HRI.out (s:=o.name) (i:=k) (by omega) (by rw [List.length_map];exact h)
  rw [List.getElem_map] at h1
  cases h2:nlt o.name qs[k].x.name with
  | true=>rfl
  | false=>
   have e:=zdY h1 h2
   have:hasL (qs.map (·.x)) o.name=true:=by
    unfold hasL
    rw [List.any_eq_true]
    exact⟨qs[k].x,List.mem_map.2 ⟨_,List.getElem_mem h,rfl⟩,by simpa using e⟩
   rw [hh] at this;cases this
 clear hA hh HRI h8
 generalize hPP:placeL (qs.map (·.x)) o.name=P at *
 clear hPP
 go_wp2_with fail
 go_loopw [8,9,10] (fun out laid i wr=>∃(k:Nat) (l:Bool),k≤qs.length∧i=.int .i64 k∧laid=.bool l∧Hid (l=decide (P < k))∧Hid (wr.ownsRow W.heap.size 107 3 out (insL qs P (⟨⟨o.name,o.n,[]⟩,none,0,0⟩:Nc) k).length ((insL qs P (⟨⟨o.name,o.n,[]⟩,none,0,0⟩:Nc) k).flatMap Nc.cells))∧Hid (Below W.heap.size W wr)) (fun _ _ i _=>qs.length - (intOf i).toNat)
 case atStart=>exact⟨0,false,Nat.zero_le _,rfl,rfl,hide (by simp),hide (by unfold insL;simp;exact World.ownsRow_nil _ _ _ _),hide (Below.refl _ _)⟩
 case round=>
  clear o0 o1 o2 o3
  obtain⟨k,l,hk,rfl,rfl,HL,HOW,HB⟩:=hrel
  obtain⟨o0,o1,o2,o3,-⟩:=HX.out.later HB.out
  by_cases hkl:k < qs.length
  ·obtain⟨b,off,cap',e⟩:=HC.out.form (by omega)
   simp only [Value.slice.injEq,true_and] at e
   obtain⟨rfl,rfl⟩:=e
   obtain⟨hlt,c0,c1,c2,-⟩:=(HC.out.below HB.out).at k hkl
   obtain⟨hlt0,-⟩:=HC.out.at k hkl
   have hIL:=zen qs P (⟨⟨o.name,o.n,[]⟩,none,0,0⟩:Nc) k hk
   have hbsz:=HB.out.size
   have hbd:Below wr.heap.size wr wr.drew:=(Below.refl _ _).drew
   have HBd:=hide (HB.out.trans (hbd.mono hbsz));have HOWd:=hide (zO HOW.out hbd);have hdsz:W.heap.size≤wr.drew.heap.size:=by simpa using hbsz
   have HXd:=hide (HX.out.later HBd.out)
   by_cases h1:k < P
   ·have hl:l=false:=by rw [HL.out];exact decide_eq_false (by omega)
    subst hl
    have hn:=HLOW.out k hkl h1
    unfold nlt at hn
    obtain⟨out1,cp1,w1,hr1,hw1,hb1⟩:=zaK wr.drew W.heap.size hdsz u8 _ _ HOWd.out qs[k] (by omega)
    have e1:(insL qs P (⟨⟨o.name,o.n,[]⟩,none,0,0⟩:Nc) k).flatMap Nc.cells ++ qs[k].cells=(insL qs P (⟨⟨o.name,o.n,[]⟩,none,0,0⟩:Nc) (k+1)).flatMap Nc.cells:=by rw [zeo qs P _ k hkl h1,List.flatMap_append];simp
    have e2:(insL qs P (⟨⟨o.name,o.n,[]⟩,none,0,0⟩:Nc) k).length+1=(insL qs P (⟨⟨o.name,o.n,[]⟩,none,0,0⟩:Nc) (k+1)).length:=by rw [zeo qs P _ k hkl h1,List.length_append];rfl
    have HLN:Hid (false=decide (P < k+1)):=(decide_eq_false (by omega)).symm
    rw [e1,e2] at hw1
    rw [e2] at hr1
    have d0:=(HBd.out.cell (p:=⟨b,off+k * 3,none⟩) hlt0);have d1:=(HBd.out.cell (p:=⟨b,off+k * 3+1,none⟩) hlt0);have d2:=(HBd.out.cell (p:=⟨b,off+k * 3+2,none⟩) hlt0)
    obtain⟨-,z0,z1,z2,-⟩:=HC.out.at k hkl
    rw [z0] at d0
    rw [z1] at d1
    rw [z2] at d2
    obtain⟨-,x1,x2,-,-⟩:=HXd.out
    have HB1:=hide (HBd.out.trans (hb1.mono (Nat.le_refl _)))
    have HR1:=hide hr1;have HW1:=hide hw1
    clear hr1 hw1 hb1 e1 e2 HOW HOWd hIL HL z0 z1 z2 hbd HBd HXd hdsz
    generalize hmm:(insL qs P (⟨⟨o.name,o.n,[]⟩,none,0,0⟩:Nc) (k+1)).length=m at *
    have HMM:=hide hmm
    clear hmm
    generalize (insL qs P (⟨⟨o.name,o.n,[]⟩,none,0,0⟩:Nc) k).length=m0 at *
    generalize qs[k]=q at *
    obtain⟨⟨qn,qm,qg⟩,qo,ql,qc⟩:=q
    dsimp only at c0 c1 c2 d0 d1 d2 HR1 hn
    go_wp2_with fail
    go_region_held3 (fun w'=>w'.cell? ⟨B,1,none⟩=some (.string o.name)∧w'.cell? ⟨b,off+k * 3,none⟩=some (.string qn)) (go_keep) (fail)
    generalize wr.drew=wd at *
    clear c0 c1 c2 o0 o1 o2 o3
    go_wp2_with (at_builtin;refine Lib.wpList_append_run _ rfl _ _ _ _ rfl _ _ rfl rfl _ _ HR1.out ?_)
    go_wp2
    go_roundw
    case rel=>exact⟨k+1,_,by omega,by go_num,rfl,HLN,(by rw [HMM.out];exact HW1),HB1⟩
    case measure=>simp [intOf];omega
   ·by_cases h2:k=P
    ·have hl:l=false:=by rw [HL.out];exact decide_eq_false (by omega)
     subst hl
     have hn:=HAT.out k hkl h2
     unfold nlt at hn
     subst h2
     obtain⟨out0,cp0,w0,hr0,hw0,hb0⟩:=zaK wr.drew W.heap.size hdsz u8 _ _ HOWd.out (⟨⟨o.name,o.n,[]⟩,none,0,0⟩:Nc) (by omega)
     have hb0s:=hb0.size
     obtain⟨out1,cp1,w1,hr1,hw1,hb1⟩:=zaK w0 W.heap.size (by omega) _ _ _ hw0 qs[k] (by omega)
     have e1:(insL qs k (⟨⟨o.name,o.n,[]⟩,none,0,0⟩:Nc) k).flatMap Nc.cells ++((⟨⟨o.name,o.n,[]⟩,none,0,0⟩:Nc):Nc).cells ++ qs[k].cells=(insL qs k (⟨⟨o.name,o.n,[]⟩,none,0,0⟩:Nc) (k+1)).flatMap Nc.cells:=by rw [zel qs k _ hkl,List.flatMap_append,List.flatMap_append];simp
     have e2:(insL qs k (⟨⟨o.name,o.n,[]⟩,none,0,0⟩:Nc) k).length+1+1=(insL qs k (⟨⟨o.name,o.n,[]⟩,none,0,0⟩:Nc) (k+1)).length:=by rw [zel qs k _ hkl,List.length_append,List.length_append];rfl
     have HLN:Hid (true=decide (k < k+1)):=(decide_eq_true (by omega)).symm
     rw [e1,e2] at hw1
     rw [e2] at hr1
     have d0:=(HBd.out.cell (p:=⟨b,off+k * 3,none⟩) hlt0);have d1:=(HBd.out.cell (p:=⟨b,off+k * 3+1,none⟩) hlt0);have d2:=(HBd.out.cell (p:=⟨b,off+k * 3+2,none⟩) hlt0)
     obtain⟨-,z0,z1,z2,-⟩:=HC.out.at k hkl
     rw [z0] at d0
     rw [z1] at d1
     rw [z2] at d2
     obtain⟨-,x1,x2,-,-⟩:=HXd.out
     have hb0W:=HBd.out.trans (hb0.mono (Nat.le_refl _))
     have f0:=(hb0W.cell (p:=⟨b,off+k * 3,none⟩) hlt0).trans z0;have f1:=(hb0W.cell (p:=⟨b,off+k * 3+1,none⟩) hlt0).trans z1;have f2:=(hb0W.cell (p:=⟨b,off+k * 3+2,none⟩) hlt0).trans z2
     have HR0:=hide hr0
     have HB1:=hide (hb0W.trans (hb1.mono (Nat.le_refl _)))
     clear hr0 hw0 hb0 hb0W hb0s
     have HR1:=hide hr1;have HW1:=hide hw1
     clear hr1 hw1 hb1 e1 e2 HOW HOWd hIL HL z0 z1 z2 hbd HBd HXd hdsz
     generalize hmm:(insL qs k (⟨⟨o.name,o.n,[]⟩,none,0,0⟩:Nc) (k+1)).length=m at *
     have HMM:=hide hmm
     clear hmm
     generalize (insL qs k (⟨⟨o.name,o.n,[]⟩,none,0,0⟩:Nc) k).length=m0 at *
     generalize qs[k]=q at *
     obtain⟨⟨qn,qm,qg⟩,qo,ql,qc⟩:=q
     dsimp only at c0 c1 c2 d0 d1 d2 HR1 hn f0 f1 f2
     go_wp2_with fail
     go_region_held3 (fun w'=>w'.cell? ⟨B,1,none⟩=some (.string o.name)∧w'.cell? ⟨b,off+k * 3,none⟩=some (.string qn)) (go_keep) (fail)
     generalize wr.drew=wd at *
     clear c0 c1 c2 o0 o1 o2 o3
     go_wp2_with (at_builtin;first | refine Lib.wpList_append_run _ rfl _ _ _ _ rfl _ _ rfl rfl _ _ HR0.out ?_ | refine Lib.wpList_append_run _ rfl _ _ _ _ rfl _ _ rfl rfl _ _ HR1.out ?_)
     go_wp2
     go_roundw
     case rel=>exact⟨k+1,_,by omega,by go_num,rfl,HLN,(by rw [HMM.out];exact HW1),HB1⟩
     case measure=>simp [intOf];omega
    ·have hl:l=true:=by rw [HL.out];exact decide_eq_true (by omega)
     subst hl
     obtain⟨out1,cp1,w1,hr1,hw1,hb1⟩:=zaK wr.drew W.heap.size hdsz u8 _ _ HOWd.out qs[k] (by omega)
     have e1:(insL qs P (⟨⟨o.name,o.n,[]⟩,none,0,0⟩:Nc) k).flatMap Nc.cells ++ qs[k].cells=(insL qs P (⟨⟨o.name,o.n,[]⟩,none,0,0⟩:Nc) (k+1)).flatMap Nc.cells:=by rw [zem qs P _ k hkl (by omega),List.flatMap_append];simp
     have e2:(insL qs P (⟨⟨o.name,o.n,[]⟩,none,0,0⟩:Nc) k).length+1=(insL qs P (⟨⟨o.name,o.n,[]⟩,none,0,0⟩:Nc) (k+1)).length:=by rw [zem qs P _ k hkl (by omega),List.length_append];rfl
     have HLN:Hid (true=decide (P < k+1)):=(decide_eq_true (by omega)).symm
     rw [e1,e2] at hw1
     rw [e2] at hr1
     have d0:=(HBd.out.cell (p:=⟨b,off+k * 3,none⟩) hlt0);have d1:=(HBd.out.cell (p:=⟨b,off+k * 3+1,none⟩) hlt0);have d2:=(HBd.out.cell (p:=⟨b,off+k * 3+2,none⟩) hlt0)
     obtain⟨-,z0,z1,z2,-⟩:=HC.out.at k hkl
     rw [z0] at d0
     rw [z1] at d1
     rw [z2] at d2
     obtain⟨-,x1,x2,-,-⟩:=HXd.out
     have HB1:=hide (HBd.out.trans (hb1.mono (Nat.le_refl _)))
     have HR1:=hide hr1;have HW1:=hide hw1
     clear hr1 hw1 hb1 e1 e2 HOW HOWd hIL HL z0 z1 z2 hbd HBd HXd hdsz
     generalize hmm:(insL qs P (⟨⟨o.name,o.n,[]⟩,none,0,0⟩:Nc) (k+1)).length=m at *
     have HMM:=hide hmm
     clear hmm
     generalize (insL qs P (⟨⟨o.name,o.n,[]⟩,none,0,0⟩:Nc) k).length=m0 at *
     generalize qs[k]=q at *
     obtain⟨⟨qn,qm,qg⟩,qo,ql,qc⟩:=q
     dsimp only at c0 c1 c2 d0 d1 d2 HR1
     go_wp2_with fail
     refine wp_region_held_drew (S:=(fun _=>True)) (by kernel_rfl) trivial (fun hHeld=>?_)
     refine za (v:=?_) 0 80 rfl rfl (by kernel_rfl) (by kernel_rfl) (by kernel_rfl) (fun _ _ _ h=>h) (by rfl) ?_ (by assumption) ?_
     rotate_left
     ·(intro w hSw;(try dsimp only at hSw);go_simp;with_reducible rfl)
     simp only [Act.put,List.setIfInBounds_toArray,List.set_cons_zero,List.set_cons_succ]
     refine za (v:=?_) 1 81 rfl rfl (by kernel_rfl) (by kernel_rfl) (by kernel_rfl) (fun _ _ _ h=>h) (by rfl) ?_ (by assumption) ?_
     rotate_left
     ·(intro w hSw;(try dsimp only at hSw);go_simp;with_reducible rfl)
     simp only [Act.put,List.setIfInBounds_toArray,List.set_cons_zero,List.set_cons_succ]
     refine za (v:=?_) 2 82 rfl rfl (by kernel_rfl) (by kernel_rfl) (by kernel_rfl) (fun _ _ _ h=>h) (by rfl) ?_ (by assumption) ?_
     rotate_left
     ·(intro w hSw;(try dsimp only at hSw);go_simp;with_reducible rfl)
     simp only [Act.put,List.setIfInBounds_toArray,List.set_cons_zero,List.set_cons_succ]
     refine zh 3 83 rfl rfl (by kernel_rfl) (by kernel_rfl) (by kernel_rfl) (fun _ _ _ h=>h) (by rfl) (by assumption) ?_
     simp only [Act.put,List.setIfInBounds_toArray,List.set_cons_zero,List.set_cons_succ]
     refine zh 4 84 rfl rfl (by kernel_rfl) (by kernel_rfl) (by kernel_rfl) (fun _ _ _ h=>h) (by rfl) (by assumption) ?_
     simp only [Act.put,List.setIfInBounds_toArray,List.set_cons_zero,List.set_cons_succ]
     refine zh 5 85 rfl rfl (by kernel_rfl) (by kernel_rfl) (by kernel_rfl) (fun _ _ _ h=>h) (by rfl) (by assumption) ?_
     simp only [Act.put,List.setIfInBounds_toArray,List.set_cons_zero,List.set_cons_succ]
     refine zh 6 86 rfl rfl (by kernel_rfl) (by kernel_rfl) (by kernel_rfl) (fun _ _ _ h=>h) (by rfl) (by assumption) ?_
     simp only [Act.put,List.setIfInBounds_toArray,List.set_cons_zero,List.set_cons_succ]
     refine zh 7 87 rfl rfl (by kernel_rfl) (by kernel_rfl) (by kernel_rfl) (fun _ _ _ h=>h) (by rfl) (by assumption) ?_
     simp only [Act.put,List.setIfInBounds_toArray,List.set_cons_zero,List.set_cons_succ]
     refine zh 8 88 rfl rfl (by kernel_rfl) (by kernel_rfl) (by kernel_rfl) (fun _ _ _ h=>h) (by rfl) (by assumption) ?_
     simp only [Act.put,List.setIfInBounds_toArray,List.set_cons_zero,List.set_cons_succ]
     refine zh 9 89 rfl rfl (by kernel_rfl) (by kernel_rfl) (by kernel_rfl) (fun _ _ _ h=>h) (by rfl) (by assumption) ?_
     simp only [Act.put,List.setIfInBounds_toArray,List.set_cons_zero,List.set_cons_succ]
     refine zh 10 90 rfl rfl (by kernel_rfl) (by kernel_rfl) (by kernel_rfl) (fun _ _ _ h=>h) (by rfl) (by assumption) ?_
     simp only [Act.put,List.setIfInBounds_toArray,List.set_cons_zero,List.set_cons_succ]
     refine za (v:=?_) 11 91 rfl rfl (by kernel_rfl) (by kernel_rfl) (by kernel_rfl) (fun _ _ _ h=>h) (by rfl) ?_ (by assumption) ?_
     rotate_left
     ·(intro w hSw;(try dsimp only at hSw);go_simp;with_reducible rfl)
     simp only [Act.put,List.setIfInBounds_toArray,List.set_cons_zero,List.set_cons_succ]
     refine wpAnyH_done (by kernel_rfl) ?_ _
     generalize wr.drew=wd at *
     clear c0 c1 c2 o0 o1 o2 o3
     go_wp2_with (at_builtin;refine Lib.wpList_append_run _ rfl _ _ _ _ rfl _ _ rfl rfl _ _ HR1.out ?_)
     go_wp2
     go_roundw
     case rel=>exact⟨k+1,_,by omega,by go_num,rfl,HLN,(by rw [HMM.out];exact HW1),HB1⟩
     case measure=>simp [intOf];omega
  ·obtain rfl:k=qs.length:=by omega
   by_cases hPl:P < qs.length
   ·have hl:l=true:=by rw [HL.out];exact decide_eq_true hPl
    subst hl
    have hw:=HOW.out
    rw [zhd qs P _ hPl] at hw
    have HCA:=hide (zan hw (fun q hq=>by
     rcases List.mem_append.1 hq with h | h
     ·exact(HC.out.ins q (List.mem_of_mem_take h)).below HB.out
     ·rcases List.mem_cons.1 h with rfl | h
      ·exact⟨⟨none,0,rfl,Nat.le_refl _,fun h=>absurd h (by simp)⟩,zco _ _ _⟩
      ·exact(HC.out.ins q (List.mem_of_mem_drop h)).below HB.out))
    have HBw:=hide (HBE.out.trans (HB.out.mono HBE.out.size))
    clear hw HOW HL
    go_wp2
    go_ret2
    exact⟨.inr ⟨by rw [HR.out],_,_,rfl,by rw [HR.out,List.map_append,List.map_cons,List.map_take,List.map_drop],HCA.out⟩,HBw.out⟩
   ·obtain rfl:P=qs.length:=by omega
    have hl:l=false:=by rw [HL.out];exact decide_eq_false hPl
    subst hl
    obtain⟨out1,cp1,w1,hr1,hw1,hb1⟩:=zaK wr W.heap.size HB.out.size u8 _ _ HOW.out (⟨⟨o.name,o.n,[]⟩,none,0,0⟩:Nc) (by have:=zen qs qs.length (⟨⟨o.name,o.n,[]⟩,none,0,0⟩:Nc) qs.length (Nat.le_refl _);omega)
    have e0:insL qs qs.length (⟨⟨o.name,o.n,[]⟩,none,0,0⟩:Nc) qs.length=qs:=by unfold insL;rw [if_neg (by omega),List.take_length]
    rw [e0] at hw1 hr1
    have e1:qs.flatMap Nc.cells ++((⟨⟨o.name,o.n,[]⟩,none,0,0⟩:Nc):Nc).cells=(qs ++ [(⟨⟨o.name,o.n,[]⟩,none,0,0⟩:Nc)]).flatMap Nc.cells:=by rw [List.flatMap_append];simp
    have e2:qs.length+1=(qs ++ [(⟨⟨o.name,o.n,[]⟩,none,0,0⟩:Nc)]).length:=by simp
    rw [e1,e2] at hw1
    have hbw:=HB.out.trans (hb1.mono (Nat.le_refl _))
    have HCA:=hide (zan hw1 (fun q hq=>by
     rcases List.mem_append.1 hq with h | h
     ·exact(HC.out.ins q h).below hbw
     ·rw [List.mem_singleton] at h;subst h
      exact⟨⟨none,0,rfl,Nat.le_refl _,fun h=>absurd h (by simp)⟩,zco _ _ _⟩))
    rw [← e2] at HCA
    have HBw:=hide (HBE.out.trans (hbw.mono HBE.out.size));have HR1:=hide hr1
    clear hw1 hr1 hb1 hbw e0 e1 e2 HOW HL
    go_wp2_with (at_builtin;refine Lib.wpList_append_run _ rfl _ _ _ _ rfl _ _ rfl rfl _ _ HR1.out ?_)
    go_wp2
    go_ret2
    exact⟨.inr ⟨by rw [HR.out],_,_,rfl,by rw [HR.out,List.map_append,List.take_of_length_le (by simp),List.drop_of_length_le (by simp)];rfl,HCA.out⟩,HBw.out⟩
end Go.Proofs.YtnhbfehfipafoaaGreatDoor
/- The reference's Apply, whole. -/
namespace Go.Proofs.YtnhbfehfipafoaaGreatDoor
open Go.RowKit
set_option linter.unusedSimpArgs false in
set_option maxRecDepth 100000 in
set_option maxHeartbeats 3200000 in
theorem zdw (w:World)(v:Value)(qs:List Nc)(o:OpV)(vo:Option Addr)(vc:Nat)(hcat:CatN w v qs)(hok:CatOk (qs.map (·.x)))(hv:RowS w (.slice vo o.v.length vc) o.v)(hv1:o.v.length≤100000):
  Calls Tryz.prog 58 #[v,.agg #[.int .i64 o.kind,.string o.name,.int .i64 o.n,.slice vo o.v.length vc]] w fun e w'=>RefRes w (applyC (qs.map (·.x)) o) e w':=by
 obtain⟨ao,cap,rfl,-⟩:=id hcat
 have hx:=FourV.new w (.int .i64 o.kind) (.string o.name) (.int .i64 o.n) (.slice vo o.v.length vc) 43
 have HBE:=hide (zc w (.cells #[.int .i64 o.kind,.string o.name,.int .i64 o.n,.slice vo o.v.length vc] 43))
 have HX:=hide hx;have HC:=hide hcat;have HOK:=hide hok;have HV:=hide hv
 obtain⟨o0,o1,o2,o3,hBl⟩:=hx
 generalize hr:applyC (qs.map (·.x)) o=r
 have HAP:=hide hr
 have hq8:qs.length≤8:=by have:=hok.few;rwa [List.length_map] at this
 clear hcat hok hv hr
 go_enter Tryz.func58,Tryz.ntmps58
 go_wp2_with fail
 generalize w.alloc (.cells #[.int .i64 o.kind,.string o.name,.int .i64 o.n,.slice vo o.v.length vc] 43)=W at *
 refine(zhB o.name _).mono ?_
 rintro e w1 ⟨rfl,rfl⟩
 cases hsh:opOk o with
 | false=>
  have HR:Hid (r=(3,[])):=HAP.out.symm.trans (zdu hsh)
  rw [zbx] at hsh
  clear HAP
  cases hn:nmOk o.name with
  | false=>
   clear hsh hn
   go_wp2
   go_ret2
   exact zt 3 [] HR.out (by decide) HBE.out
  | true=>
   rw [hn,Bool.true_and] at hsh
   have hu:=(not_congr (zc8 o.kind o.n o.v.length)).1 (by rw [hsh];decide)
   clear hsh hn
   generalize o.kind=k at *
   generalize o.n=n at *
   generalize o.v.length=l at *
   by_cases h1:k < 1
   ·have g1:decide (k < 1)=true:=decide_eq_true h1
    clear hu h1
    go_wp2
    go_ret2
    exact zt 3 [] HR.out (by decide) HBE.out
   ·have g1:decide (k < 1)=false:=decide_eq_false h1
    by_cases h4:4 < k
    ·have g2:decide (4 < k)=true:=decide_eq_true h4
     clear hu h1 h4
     go_wp2
     go_ret2
     exact zt 3 [] HR.out (by decide) HBE.out
    ·have g2:decide (4 < k)=false:=decide_eq_false h4
     by_cases h0:k≠1∧n≠0
     ·have g3:(k != 1)=true:=by rw [bne_iff_ne];exact h0.1
      have g4:(n != 0)=true:=by rw [bne_iff_ne];exact h0.2
      clear hu h1 h4 h0
      go_wp2
      go_ret2
      exact zt 3 [] HR.out (by decide) HBE.out
     ·have h3:k < 3∧0 < l:=by omega
      have g5:decide (k < 3)=true:=decide_eq_true h3.1
      have g6:decide (0 < (l:Int))=true:=decide_eq_true (by omega)
      have g7:decide (0 < l)=true:=decide_eq_true h3.2
      have g8:0 < l:=h3.2
      by_cases hk:k=1
      ·have g3:(k != 1)=false:=by rw [bne_eq_false_iff_eq];exact hk
       clear hu h1 h4 h0 h3 hk
       go_wp2
       go_ret2
       exact zt 3 [] HR.out (by decide) HBE.out
      ·have g3:(k != 1)=true:=by rw [bne_iff_ne];exact hk
       have g4:(n != 0)=false:=by rw [bne_eq_false_iff_eq];omega
       clear hu h1 h4 h0 h3 hk
       go_wp2
       go_ret2
       exact zt 3 [] HR.out (by decide) HBE.out
 | true=>
  have HSH:=hide hsh
  rw [zbx,Bool.and_eq_true] at hsh
  have hn:=hsh.1
  have hu:=(zc8 o.kind o.n o.v.length).1 hsh.2
  clear hsh
  rw [hn]
  clear hn
  go_upto_region 2 with fail
  go_cut [53] from 18 to 53 (fun v wx=>v=.bool false∧wx=w1)
  case first=>
   clear HX HC HOK HV HAP HSH
   obtain⟨a1,a2,a3,a4⟩:=hu
   generalize o.kind=k at *
   generalize o.n=n at *
   generalize o.v.length=l at *
   have g1:decide (k < 1)=false:=decide_eq_false (by omega)
   have g2:decide (4 < k)=false:=decide_eq_false (by omega)
   by_cases hk:k=1
   ·have g3:(k != 1)=false:=by rw [bne_eq_false_iff_eq];exact hk
    have g5:decide (k < 3)=true:=decide_eq_true (by omega)
    have g6:decide (0 < (l:Int))=false:=decide_eq_false (by omega);have g7:decide (0 < l)=false:=decide_eq_false (by omega);have g8:l=0:=by omega
    clear a1 a2 a3 a4 hk
    go_wp2
    go_meet
    case rel=>exact⟨rfl,rfl⟩
   ·have g3:(k != 1)=true:=by rw [bne_iff_ne];exact hk
    have g4:(n != 0)=false:=by rw [bne_eq_false_iff_eq];omega
    by_cases h3:k < 3
    ·have g5:decide (k < 3)=true:=decide_eq_true h3
     have g6:decide (0 < (l:Int))=false:=decide_eq_false (by omega);have g7:decide (0 < l)=false:=decide_eq_false (by omega);have g8:l=0:=by omega
     clear a1 a2 a3 a4 hk h3
     go_wp2
     go_meet
     case rel=>exact⟨rfl,rfl⟩
    ·have g5:decide (k < 3)=false:=decide_eq_false h3
     clear a1 a2 a3 a4 hk h3
     go_wp2
     go_meet
     case rel=>exact⟨rfl,rfl⟩
  case rest=>
   obtain⟨rfl,rfl⟩:=hcut
   apply_assumption
   go_upto_region 4 with fail
   go_cut [7] from 18 (fun v wx=>v=.int .i64 (atL (qs.map (·.x)) o.name)∧wx=wc)
   case first=>
    go_wp2_with fail
    refine(zgh _ _ qs o.name (HC.out.below HBE.out) (by omega)).mono ?_
    rintro e w2 ⟨rfl,rfl⟩
    go_wp2
    go_meet
    case rel=>exact⟨rfl,rfl⟩
   case rest=>
    obtain⟨rfl,rfl⟩:=hcut
    apply_assumption
    by_cases hk1:o.kind=1
    ·exact zgg w _ ao vo cap vc w.heap.size qs o r HBE.out (HC.out.below HBE.out) HOK.out HX.out HSH.out HAP.out hk1
    ·have g1:(o.kind == 1)=false:=beq_eq_false_iff_ne.2 hk1
     have HK:=hide hk1
     clear hk1 hu
     go_upto_if 60 with fail
     go_cut [] from 18 (fun wx=>wx=wc)
     case first=>
      go_wp2
      go_meet
      case rel=>rfl
     case rest=>
      subst hcut
      apply_assumption
      exact zgf w _ ao vo cap vc w.heap.size qs o r HBE.out HC.out HOK.out HX.out HV.out hv1 HSH.out HAP.out HK.out
end Go.Proofs.YtnhbfehfipafoaaGreatDoor
