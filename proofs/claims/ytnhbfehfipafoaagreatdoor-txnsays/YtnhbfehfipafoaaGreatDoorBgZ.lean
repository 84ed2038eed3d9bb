import Derived.Test.YtnhbfehfipafoaaGreatDoorBgX
import Derived.Deep.Cut
import Derived.Deep.CutRange
import Derived.Deep.CutBlock
namespace Go.Proofs.YtnhbfehfipafoaaGreatDoor
open Go.RowKit
def outL (ps:List Gc)(I k:Nat):List Gc:=if k≤I then ps.take k else ps.take I ++(ps.take k).drop (I+1)
theorem zbB (ps:List Gc)(I k:Nat)(hk:k < ps.length)(h:k < I):outL ps I (k+1)=outL ps I k ++ [ps[k]]:=by
 unfold outL
 rw [if_pos (by omega),if_pos (by omega),List.take_succ_eq_append_getElem hk]
theorem zh0 (ps:List Gc)(I:Nat)(hk:I < ps.length):outL ps I (I+1)=outL ps I I:=by
 unfold outL
 rw [if_neg (by omega),if_pos (Nat.le_refl _),List.drop_of_length_le (by rw [List.length_take];omega),List.append_nil]
theorem zbA (ps:List Gc)(I k:Nat)(hk:k < ps.length)(h:I < k):outL ps I (k+1)=outL ps I k ++ [ps[k]]:=by
 unfold outL
 rw [if_neg (by omega),if_neg (by omega),List.take_succ_eq_append_getElem hk,List.drop_append_of_le_length (by rw [List.length_take];omega),List.append_assoc]
theorem zh1 {ps:List Gc}{I k:Nat}{g:Gc}(h:g∈outL ps I k):g∈ps:=by
 unfold outL at h
 split at h
 ·exact List.mem_of_mem_take h
 ·rcases List.mem_append.1 h with h | h
  ·exact List.mem_of_mem_take h
  ·exact List.mem_of_mem_take (List.mem_of_mem_drop h)
theorem zaU (ps:List Gc)(I k:Nat)(hk:k≤ps.length):(outL ps I k).length≤ps.length:=by
 unfold outL
 split
 ·simp;omega
 ·simp;omega
set_option linter.unusedSimpArgs false in
set_option maxRecDepth 100000 in
set_option maxHeartbeats 3200000 in
theorem zge (w W:World)(ao vo:Option Addr)(cap vc B:Nat)(qs:List Nc)(o:OpV)(r:Nat × List Nmd)(hbe:Below w.heap.size w W)(hcat:CatN w (.slice ao qs.length cap) qs)(hx:FourV W B (.int .i64 o.kind) (.string o.name) (.int .i64 o.n) (.slice vo o.v.length vc))(hv:RowS w (.slice vo o.v.length vc) o.v)(hv1:o.v.length≤100000)(P:Nat)(hP:P < qs.length)(hq8:qs.length≤100)(hxo:NmOk qs[P].x)(hk34:o.kind=3∨o.kind=4)(hr:r=if genF o.v qs[P].x.n≠0 then (genF o.v qs[P].x.n,[]) else if o.kind=3 then (if 10≤qs[P].x.gens.length then (2,[]) else (0,(qs.map (·.x)).set P ⟨qs[P].x.name,qs[P].x.n,qs[P].x.gens ++ [o.v]⟩)) else (if qs[P].x.gens.contains o.v then (0,(qs.map (·.x)).set P ⟨qs[P].x.name,qs[P].x.n,qs[P].x.gens.erase o.v⟩) else (7,[]))){sl1 sl2 sl4 sl5 sl6 sl8 sl9 sl10 sl12 sl13 sl14 sl15 sl16 sl17 sl18 sl19 sl20 sl21 sl22 sl23 sl24 sl25 sl26 sl27 sl28 sl29 sl30 sl31 sl32 sl33 sl34 sl35 sl36 sl37 sl38 sl39 sl40 sl41 sl42 sl43 sl44 sl45 sl46 sl47 sl48 sl49 sl50 sl51 sl52 sl53 sl54 sl55 sl56 sl57 sl58 sl59 sl60 sl61 sl62 sl63 sl64 sl65 sl66 sl67 sl68 sl69 sl70 sl71 sl72 sl73 sl74 sl75 sl76 sl77 sl78 sl79 sl80 sl81 sl82 sl83 sl84 sl85 sl86 sl87 sl88 sl89 sl90 sl91 sl92 sl93 sl94 sl95 sl96 sl97 sl98 sl99 sl100 sl101 sl102 sl103 sl104 sl105 sl106 sl107 sl108 sl109 sl110 sl111 sl112 sl113 sl114 sl115 sl116 sl117 sl118 sl119 sl120 sl121 sl122 sl123 sl124 sl125 sl126 sl127 sl128 sl129 sl130 sl131 sl132 sl133 sl134 sl135 sl136 sl137 sl138 sl139 sl140 sl141 sl142 sl143 sl144 sl145 sl146 sl147 sl148 sl149 sl150 sl151 sl152 sl153 sl154 sl155 sl156 sl157 sl158 sl159 sl160 sl161 sl162 sl163 sl164 sl165 sl166 sl167 sl168 sl169 sl170 sl171 sl172 sl173 sl174 sl175 sl176 sl177 sl178 sl179 sl180 sl181 sl182 sl183 sl184 sl185 sl186 sl187 sl188 sl189 sl190 sl191 sl192 sl193 sl194 sl195 sl196 sl197 sl198 sl199 sl200 sl201 sl202 sl203 sl204 sl205 sl206 sl207:Value}:
  (Code.tail (Code.tail (Code.tail (Code.tail (Code.tail (Code.tail (Code.tail (Code.tail ((Tryz.f58.body).getD .skip))))))))).wp Tryz.prog (bodyPost Tryz.prog Tryz.f58 (fun e w'=>RefRes w r e w')) ⟨#[(.slice ao qs.length cap),sl1,sl2,(.pointer (some ⟨B,0,none⟩)),sl4,sl5,sl6,(.int .i64 (P:Int)),sl8,sl9,sl10,(.slice none 0 0),sl12,sl13,sl14,sl15,sl16,sl17,sl18,sl19,sl20,sl21,sl22,sl23,sl24,sl25,sl26,sl27,sl28,sl29,sl30,sl31,sl32,sl33,sl34,sl35,sl36,sl37,sl38,sl39,sl40,sl41,sl42,sl43,sl44,sl45,sl46,sl47,sl48,sl49,sl50,sl51,sl52,sl53,sl54,sl55,sl56,sl57,sl58,sl59,sl60,sl61,sl62,sl63,sl64,sl65,sl66,sl67,sl68,sl69,sl70,sl71,sl72,sl73,sl74,sl75,sl76,sl77,sl78,sl79,sl80,sl81,sl82,sl83,sl84,sl85,sl86,sl87,sl88,sl89,sl90,sl91,sl92,sl93,sl94,sl95,sl96,sl97,sl98,sl99,sl100,sl101,sl102,sl103,sl104,sl105,sl106,sl107,sl108,sl109,sl110,sl111,sl112,sl113,sl114,sl115,sl116,sl117,sl118,sl119,sl120,sl121,sl122,sl123,sl124,sl125,sl126,sl127,sl128,sl129,sl130,sl131,sl132,sl133,sl134,sl135,sl136,sl137,sl138,sl139,sl140,sl141,sl142,sl143,sl144,sl145,sl146,sl147,sl148,sl149,sl150,sl151,sl152,sl153,sl154,sl155,sl156,sl157,sl158,sl159,sl160,sl161,sl162,sl163,sl164,sl165,sl166,sl167,sl168,sl169,sl170,sl171,sl172,sl173,sl174,sl175,sl176,sl177,sl178,sl179,sl180,sl181,sl182,sl183,sl184,sl185,sl186,sl187,sl188,sl189,sl190,sl191,sl192,sl193,sl194,sl195,sl196,sl197,sl198,sl199,sl200,sl201,sl202,sl203,sl204,sl205,sl206,sl207],[]⟩ W:=by
 simp only [Code.tail,Tryz.f58,Option.getD_some]
 have HC:=hide hcat;have HBE:=hide hbe;have HV:=hide hv;have HXO:=hide hxo
 have hcW:=hcat.below hbe
 obtain⟨b,off,cap',e⟩:=hcW.form (by omega)
 simp only [Value.slice.injEq,true_and] at e
 obtain⟨rfl,rfl⟩:=e
 obtain⟨hbl,c0,c1,c2,-⟩:=hcW.at P hP
 have hin:=hcat.ins qs[P] (List.getElem_mem hP)
 obtain⟨ps,hps,hsq,hgi⟩:=zcT hin
 have hgl:qs[P].l=qs[P].x.gens.length:=by
  obtain⟨_,_,e,-⟩:=id hin.1
  simp only [Value.slice.injEq] at e
  exact e.2.1
 have hpl:ps.length=qs[P].l:=by rw [hgl,← hps,List.length_map]
 rw [hpl] at hsq
 have hg10:qs[P].l≤10:=by rw [hgl];exact hxo.few
 obtain⟨nm,hnm⟩:∃ nm,qs[P].x.name=nm:=⟨_,rfl⟩
 obtain⟨nn,hnn⟩:∃ nn,qs[P].x.n=nn:=⟨_,rfl⟩
 have HG10:=hide hg10
 have HNM:=hide hnm;have HNN:=hide hnn
 rw [hnm] at c0
 rw [hnn] at c1
 rw [hnm,hnn] at hr
 have HSQ:=hide hsq;have HGI:=hide hgi;have HPS:=hide hps;have HPL:=hide hpl;have HRW:Hid (RowsS w (.slice qs[P].o qs[P].l qs[P].c) qs[P].x.gens):=hin.1
 have HG6:Hid (∀ g∈qs[P].x.gens,g.length≤1000000):=fun g hg=>by have h:=(zE.1 (hxo.gens g hg)).1;have h2:=hxo.n;omega
 clear hcW hcat hbe hv hin hps hsq hgi hpl hnm hnn hgl hxo
 generalize qs[P].x.gens=gens at *
 generalize qs[P].o=xo at *
 generalize qs[P].l=gl0 at *
 generalize qs[P].c=xc at *
 have hbN:=zc W (.cells #[.string nm,.int .i64 nn,.slice xo gl0 xc] 107)
 have XX:=hide (BoxT.new W (.string nm) (.int .i64 nn) (.slice xo gl0 xc) 107);have HXX:=hide (hx.later hbN);have HB1:=hide (HBE.out.trans (hbN.mono HBE.out.size));have hWs:(W.alloc (.cells #[.string nm,.int .i64 nn,.slice xo gl0 xc] 107)).heap.size=W.heap.size+1:=by simp
 obtain⟨o0,o1,o2,o3,-⟩:=hx
 go_upto_region 31 with fail
 generalize W.alloc (.cells #[.string nm,.int .i64 nn,.slice xo gl0 xc] 107)=W1 at *
 generalize hXe:W.heap.size=X at *
 have HXe:Hid (w.heap.size≤X):=by have:=HBE.out.size;show _≤_;omega
 have HRR:=hide hr
 clear c0 c1 c2 hbl o0 o1 o2 o3 hbN HBE hr
 obtain⟨o0,o1,o2,o3,-⟩:=HXX.out
 obtain⟨⟨x0,x1,x2,-⟩,-⟩:=XX.out
 go_wp2_with fail
 refine(zgZ W1 _ o.v nn (HV.out.below HB1.out (Nat.le_refl _)) (by omega)).mono ?_
 rintro e W1 ⟨rfl,rfl⟩
 by_cases hg:genF o.v nn≠0
 ·have hr:=HRR.out
  rw [if_pos hg] at hr
  have HR:=hide hr
  have g0:decide (0 < ((genF o.v nn:Nat):Int))=true:=decide_eq_true (by omega)
  have HGG:=hide hg
  clear hr HRR hg
  generalize genF o.v nn=c at *
  have hc0:0 < c:=by have:=HGG.out;omega
  go_wp2
  go_ret2
  exact zt c [] HR.out HGG.out HB1.out
 have hr:=HRR.out
 rw [if_neg hg] at hr
 have hg0:genF o.v nn=0:=by simpa using hg
 have g0:decide (0 < ((genF o.v nn:Nat):Int))=false:=by rw [hg0];rfl
 rw [hg0]
 have HR:=hide hr
 clear hr HRR hg hg0 g0
 obtain⟨I,hI⟩:∃ I,I=if o.kind=4 then gens.idxOf o.v else gens.length:=⟨_,rfl⟩
 have HLO:Hid (o.kind=4→∀ k (h:k < gens.length),k < I→gens[k]≠o.v):=fun h4 k h hk=>by
  rw [hI,if_pos h4] at hk
  have:=List.not_of_lt_findIdx hk
  simpa using this
 have HAT:Hid (∀ k (h:k < gens.length),k=I→o.kind=4∧gens[k]=o.v):=fun k h hk=>by
  by_cases h4:o.kind=4
  ·rw [if_pos h4] at hI
   subst hI
   subst hk
   exact⟨h4,List.getElem_idxOf h⟩
  ·rw [if_neg h4] at hI
   omega
 have HI4:Hid (¬ o.kind=4→I=gens.length):=fun h4=>by rw [hI,if_neg h4]
 have HIc:Hid (o.kind=4→gens.contains o.v=decide (I < gens.length)∧I=gens.idxOf o.v):=fun h4=>by
  rw [if_pos h4] at hI
  refine⟨?_,hI⟩
  rw [hI]
  by_cases hm:o.v∈gens
  ·rw [decide_eq_true (List.idxOf_lt_length_of_mem hm)];simpa using hm
  ·rw [decide_eq_false (by intro h;exact hm (List.idxOf_lt_length_iff.1 h))];simpa using hm
 clear hI
 go_upto_block 2 with fail
 go_cut [14,15,16,17] from 146 to 178 (fun out fv _ _ wc=>∃ go gl gc,out=.slice go gl gc∧fv=.bool (decide (I < gens.length))∧wc.ownsRow W1.heap.size 41 1 (.slice go gl gc) gl ((outL ps I gens.length).map (·.1))∧Below W1.heap.size W1 wc)
 case first=>
  have HN0:=hide (World.ownsRow_nil W1 W1.heap.size 41 1)
  have hgg:gl0=gens.length:=by have h1:=HPL.out;have h2:=congrArg List.length HPS.out;rw [List.length_map] at h2;omega
  have HGE:=hide hgg
  clear HC HXO HNM HNN HR hgg
  go_wp2_with fail
  go_loopw [14,15,16] (fun out fv i wr=>∃(k:Nat) (f:Bool),k≤gens.length∧i=.int .i64 k∧fv=.bool f∧Hid (f=decide (I < k))∧Hid (wr.ownsRow W1.heap.size 41 1 out (outL ps I k).length ((outL ps I k).map (·.1)))∧Hid (Below W1.heap.size W1 wr)) (fun _ _ i _=>gens.length - (intOf i).toNat)
  case atStart=>exact⟨0,false,Nat.zero_le _,rfl,rfl,hide (by simp),hide (by unfold outL;simp;exact HN0.out),hide (Below.refl _ _)⟩
  case round=>
   clear HN0 o0 o1 o2 o3 x0 x1 x2
   obtain⟨k,f,hk,rfl,rfl,HF,HOW,HB⟩:=hrel
   obtain⟨o0,o1,o2,o3,hBl⟩:=HXX.out.later HB.out
   obtain⟨⟨x0,x1,x2,hXl⟩,-⟩:=XX.out.later HB.out
   by_cases hkl:k < gens.length
   ·have hkg:k < gl0:=by have:=HGE.out;omega
    have HPG:Hid (ps.length=gens.length):=by have h1:=HPL.out;have h2:=HGE.out;show _=_;omega
    have HPK:Hid (k < ps.length):=by have:=HPG.out;show _ < _;omega
    have hbw:=HB1.out.trans (HB.out.mono HB1.out.size)
    obtain⟨xo',xc',e,-,hh⟩:=HSQ.out
    simp only [Value.slice.injEq,true_and] at e
    obtain⟨rfl,rfl⟩:=e
    obtain⟨gb,goff,rfl,hlt,hc⟩:=hh (by omega)
    have hgr:GcIn w ps[k]:=HGI.out _ (List.getElem_mem HPK.out)
    have hpk2:ps[k].2=gens[k]:=by
     have h:=HPS.out
     subst h
     rw [List.getElem_map]
     rfl
    have cu0:=hc k ps[k].1 (by rw [List.getElem?_map,List.getElem?_eq_getElem HPK.out];rfl)
    have hgr':RowS w ps[k].1 gens[k]:=by rw [← hpk2];exact hgr.1
    obtain⟨uo,uc,hpe⟩:=hgr'.form
    rw [hpe] at cu0 hgr'
    have HPE:=hide hpe;have HU:=hide hgr'
    have cu:=(hbw.cell (p:=⟨gb,goff+k,none⟩) hlt).trans cu0
    have hltw:gb < wr.heap.size:=Nat.lt_of_lt_of_le hlt hbw.size
    have HBW:=hide hbw
    have HG1:=hide (HG6.out gens[k] (List.getElem_mem hkl))
    have hlo:=HLO.out;have hat:=HAT.out k hkl
    have HLOk:Hid (o.kind=4→k < I→gens[k]≠o.v):=fun h4 h=>hlo h4 k hkl h
    have HATk:Hid (k=I→o.kind=4∧gens[k]=o.v):=hat
    clear hh hc hgr hgr' hpk2 hpe hbw hlo hat
    generalize gens[k]=gk at *
    obtain⟨l,hl⟩:∃ l,gk.length=l:=⟨_,rfl⟩
    have HL:=hide hl
    rw [hl] at cu0 cu HU HPE
    clear hl
    go_wp2_with fail
    go_region_held3 (fun w'=>w'.cell? ⟨X,2,none⟩=some (.slice (some ⟨gb,goff,none⟩) gl0 xc)∧w'.cell? ⟨B,3,none⟩=some (.slice vo o.v.length vc)∧w'.cell? ⟨gb,goff+k,none⟩=some (.slice uo l uc)) (go_keep)
     (first
      |(go_at_call 74;refine(zfm _ _ _ gk o.v (HU.out.below (HBW.out.drew) (Nat.le_refl _)) (HV.out.below (HBW.out.drew) (Nat.le_refl _)) HG1.out).mono ?_;rintro e w3 ⟨rfl,hb3'⟩;have hb3:Below wr.heap.size wr w3:=(Below.refl _ _).drew.trans (hb3'.mono (by simp));have OX:=hide (HXX.out.later (HB.out.trans (hb3.mono HB.out.size)));have XX3:=hide (XX.out.later (HB.out.trans (hb3.mono HB.out.size)));have HB3:=hide (HB.out.trans (hb3.mono HB.out.size));have HB3w:=hide (HBW.out.trans (hb3.mono HBW.out.size));have HOW3:=hide (zO HOW.out hb3);obtain⟨y0,y1,y2,y3,-⟩:=OX.out;obtain⟨⟨-,-,j2,-⟩,-⟩:=XX3.out;have cv:=(hb3.cell (p:=⟨gb,goff+k,none⟩) hltw).trans cu;clear hb3 hb3'))
    clear o0 o1 o2 o3 x0 x1 x2 cu HOW HB HU
    by_cases h1:k < I
    ·have hf:f=false:=by rw [HF.out];exact decide_eq_false (by omega)
     subst hf
     have HFN:Hid (false=decide (I < k+1)):=(decide_eq_false (by omega)).symm
     by_cases h4:o.kind=4
     ·have g1:(o.kind == 4)=true:=by rw [beq_iff_eq];exact h4
      have hne:decide (gk=o.v)=false:=decide_eq_false (HLOk.out h4 h1)
      rw [hne]
      clear h4 hne HLOk HATk HF
      obtain⟨go2,gc2,w4,hr4,hw4,hb4⟩:=zbm w3 W1.heap.size (by have:=HB3.out.size;omega) u14 _ _ HOW3.out uo l uc (by have h1:=zaU ps I k (by rw [HPG.out];omega);have h2:=HPG.out;have h3:=HGE.out;omega)
      have e1:(outL ps I k).map (·.1) ++ [Value.slice uo l uc]=(outL ps I (k+1)).map (·.1):=by rw [zbB ps I k HPK.out h1,List.map_append];simp;exact HPE.out.symm
      have e2:(outL ps I k).length+1=(outL ps I (k+1)).length:=by rw [zbB ps I k HPK.out h1,List.length_append];rfl
      rw [e1,e2] at hw4
      rw [e2] at hr4
      have HR4:=hide hr4;have HW4:=hide hw4;have HB4:=hide (HB3.out.trans (hb4.mono (Nat.le_refl _)))
      clear hr4 hw4 hb4 e1 e2 HOW3
      have cu3:=(HB3w.out.cell (p:=⟨gb,goff+k,none⟩) hlt).trans cu0
      obtain⟨m,hmm⟩:∃ m,(outL ps I (k+1)).length=m:=⟨_,rfl⟩
      rw [hmm] at HR4 HW4
      have HMM:=hide hmm
      clear hmm
      go_wp2_with (at_builtin;refine Lib.wpList_append_run _ rfl _ _ _ _ rfl _ _ rfl rfl _ _ HR4.out ?_)
      go_wp2
      go_roundw
      case rel=>exact⟨k+1,_,by omega,by go_num,rfl,HFN,(by rw [HMM.out];exact HW4),HB4⟩
      case measure=>simp [intOf];omega
     ·have g1:(o.kind == 4)=false:=beq_eq_false_iff_ne.2 h4
      generalize decide (gk=o.v)=s at *
      clear h4 HLOk HATk HF
      obtain⟨go2,gc2,w4,hr4,hw4,hb4⟩:=zbm w3 W1.heap.size (by have:=HB3.out.size;omega) u14 _ _ HOW3.out uo l uc (by have h1:=zaU ps I k (by rw [HPG.out];omega);have h2:=HPG.out;have h3:=HGE.out;omega)
      have e1:(outL ps I k).map (·.1) ++ [Value.slice uo l uc]=(outL ps I (k+1)).map (·.1):=by rw [zbB ps I k HPK.out h1,List.map_append];simp;exact HPE.out.symm
      have e2:(outL ps I k).length+1=(outL ps I (k+1)).length:=by rw [zbB ps I k HPK.out h1,List.length_append];rfl
      rw [e1,e2] at hw4
      rw [e2] at hr4
      have HR4:=hide hr4;have HW4:=hide hw4;have HB4:=hide (HB3.out.trans (hb4.mono (Nat.le_refl _)))
      clear hr4 hw4 hb4 e1 e2 HOW3
      have cu3:=(HB3w.out.cell (p:=⟨gb,goff+k,none⟩) hlt).trans cu0
      obtain⟨m,hmm⟩:∃ m,(outL ps I (k+1)).length=m:=⟨_,rfl⟩
      rw [hmm] at HR4 HW4
      have HMM:=hide hmm
      clear hmm
      go_wp2_with (at_builtin;refine Lib.wpList_append_run _ rfl _ _ _ _ rfl _ _ rfl rfl _ _ HR4.out ?_)
      go_wp2
      go_roundw
      case rel=>exact⟨k+1,_,by omega,by go_num,rfl,HFN,(by rw [HMM.out];exact HW4),HB4⟩
      case measure=>simp [intOf];omega
    ·by_cases h2:I < k
     ·have hf:f=true:=by rw [HF.out];exact decide_eq_true h2
      subst hf
      have HFN:Hid (true=decide (I < k+1)):=(decide_eq_true (by omega)).symm
      have h4:o.kind=4:=by
       by_cases h:o.kind=4
       ·exact h
       ·have:=HI4.out h;omega
      have g1:(o.kind == 4)=true:=by rw [beq_iff_eq];exact h4
      generalize decide (gk=o.v)=s at *
      clear h4 HLOk HATk HF
      cases s with
      | true=>
       obtain⟨go2,gc2,w4,hr4,hw4,hb4⟩:=zbm w3 W1.heap.size (by have:=HB3.out.size;omega) u14 _ _ HOW3.out uo l uc (by have h1:=zaU ps I k (by rw [HPG.out];omega);have h2:=HPG.out;have h3:=HGE.out;omega)
       have e1:(outL ps I k).map (·.1) ++ [Value.slice uo l uc]=(outL ps I (k+1)).map (·.1):=by rw [zbA ps I k HPK.out h2,List.map_append];simp;exact HPE.out.symm
       have e2:(outL ps I k).length+1=(outL ps I (k+1)).length:=by rw [zbA ps I k HPK.out h2,List.length_append];rfl
       rw [e1,e2] at hw4
       rw [e2] at hr4
       have HR4:=hide hr4;have HW4:=hide hw4;have HB4:=hide (HB3.out.trans (hb4.mono (Nat.le_refl _)))
       clear hr4 hw4 hb4 e1 e2 HOW3
       have cu3:=(HB3w.out.cell (p:=⟨gb,goff+k,none⟩) hlt).trans cu0
       obtain⟨m,hmm⟩:∃ m,(outL ps I (k+1)).length=m:=⟨_,rfl⟩
       rw [hmm] at HR4 HW4
       have HMM:=hide hmm
       clear hmm
       go_wp2_with (at_builtin;refine Lib.wpList_append_run _ rfl _ _ _ _ rfl _ _ rfl rfl _ _ HR4.out ?_)
       go_wp2
       go_roundw
       case rel=>exact⟨k+1,_,by omega,by go_num,rfl,HFN,(by rw [HMM.out];exact HW4),HB4⟩
       case measure=>simp [intOf];omega
      | false=>
       obtain⟨go2,gc2,w4,hr4,hw4,hb4⟩:=zbm w3 W1.heap.size (by have:=HB3.out.size;omega) u14 _ _ HOW3.out uo l uc (by have h1:=zaU ps I k (by rw [HPG.out];omega);have h2:=HPG.out;have h3:=HGE.out;omega)
       have e1:(outL ps I k).map (·.1) ++ [Value.slice uo l uc]=(outL ps I (k+1)).map (·.1):=by rw [zbA ps I k HPK.out h2,List.map_append];simp;exact HPE.out.symm
       have e2:(outL ps I k).length+1=(outL ps I (k+1)).length:=by rw [zbA ps I k HPK.out h2,List.length_append];rfl
       rw [e1,e2] at hw4
       rw [e2] at hr4
       have HR4:=hide hr4;have HW4:=hide hw4;have HB4:=hide (HB3.out.trans (hb4.mono (Nat.le_refl _)))
       clear hr4 hw4 hb4 e1 e2 HOW3
       have cu3:=(HB3w.out.cell (p:=⟨gb,goff+k,none⟩) hlt).trans cu0
       obtain⟨m,hmm⟩:∃ m,(outL ps I (k+1)).length=m:=⟨_,rfl⟩
       rw [hmm] at HR4 HW4
       have HMM:=hide hmm
       clear hmm
       go_wp2_with (at_builtin;refine Lib.wpList_append_run _ rfl _ _ _ _ rfl _ _ rfl rfl _ _ HR4.out ?_)
       go_wp2
       go_roundw
       case rel=>exact⟨k+1,_,by omega,by go_num,rfl,HFN,(by rw [HMM.out];exact HW4),HB4⟩
       case measure=>simp [intOf];omega
     ·have hkI:k=I:=by omega
      obtain⟨h4,hgv⟩:=HATk.out hkI
      have hf:f=false:=by rw [HF.out];exact decide_eq_false h2
      subst hf
      have g1:(o.kind == 4)=true:=by rw [beq_iff_eq];exact h4
      have hy:decide (gk=o.v)=true:=decide_eq_true hgv
      rw [hy]
      have HFN:Hid (true=decide (I < k+1)):=(decide_eq_true (by omega)).symm
      have hoe:outL ps I (k+1)=outL ps I k:=by rw [hkI];exact zh0 ps I (by rw [← hkI];exact HPK.out)
      have HW4:=HOW3.out
      rw [← hoe] at HW4
      have HW5:=hide HW4
      clear h4 hgv hy HLOk HATk HF hoe HW4 hkI h1 h2
      go_wp2
      go_roundw
      case rel=>exact⟨k+1,_,by omega,by go_num,rfl,HFN,HW5,HB3⟩
      case measure=>simp [intOf];omega
   ·obtain rfl:k=gens.length:=by omega
    have hkg:gl0=gens.length:=HGE.out
    rw [hkg] at x2
    obtain⟨go',gc',e',-⟩:=zj HOW.out
    subst e'
    have HF2:=HF.out
    subst HF2
    clear hkg
    go_wp2_with fail
    go_meet
    case rel=>exact⟨_,_,_,rfl,rfl,HOW.out,HB.out⟩
 case rest=>
  obtain⟨go,gl,gc,rfl,rfl,hown,hb⟩:=hcut
  apply_assumption
  have hgg:gl0=gens.length:=by have h1:=HPL.out;have h2:=congrArg List.length HPS.out;rw [List.length_map] at h2;omega
  have hl:=hown.1
  rw [List.length_map,Nat.mul_one] at hl
  have hol:=zaU ps I gens.length (by have:=HPL.out;omega)
  have hrE:r=if o.kind=4∧decide (I < gens.length)=false then (7,[]) else if o.kind=3∧gl=10 then (2,[]) else (0,(qs.map (·.x)).set P ⟨nm,nn,if o.kind=3 then (outL ps I gens.length).map (·.2) ++ [o.v] else (outL ps I gens.length).map (·.2)⟩):=by
   rw [HR.out]
   have hpn:=HPL.out
   have h10:=HG10.out
   by_cases h3:o.kind=3
   ·have hI:=HI4.out (by omega)
    have ho:outL ps I gens.length=ps:=by unfold outL;rw [if_pos (by omega),List.take_of_length_le (by omega)]
    rw [ho] at hl
    have n4:¬(o.kind=4∧decide (I < gens.length)=false):=by rintro ⟨h,-⟩;omega
    simp only [if_pos h3,if_neg n4,ho,HPS.out]
    by_cases h:10≤gens.length
    ·rw [if_pos h,if_pos ⟨h3,by omega⟩]
    ·rw [if_neg h,if_neg (by rintro ⟨-,h'⟩;omega)]
   ·have h4:o.kind=4:=by rcases hk34 with h | h;exact absurd h h3;exact h
    obtain⟨hc,hI⟩:=HIc.out h4
    have n3:¬(o.kind=3∧gl=10):=by rintro ⟨h,-⟩;exact h3 h
    simp only [if_neg h3,hc,if_neg n3]
    by_cases h:I < gens.length
    ·have ho:(outL ps I gens.length).map (·.2)=gens.erase o.v:=by
      unfold outL
      rw [if_neg (by omega),zdZ gens o.v (by have:=hc.trans (decide_eq_true h);simpa using this),← hI,List.map_append,List.map_take,List.map_drop,List.map_take,HPS.out,List.take_length]
     rw [if_pos (decide_eq_true h),if_neg (by rw [decide_eq_true h];rintro ⟨-,h'⟩;exact absurd h' (by decide)),ho]
    ·rw [if_neg (by rw [decide_eq_false h];decide),if_pos ⟨h4,decide_eq_false h⟩]
  exact zgd w _ (some ⟨b,off,none⟩) vo cap vc B qs o r (HB1.out.trans (hb.mono HB1.out.size)) HC.out (HXX.out.later hb) HV.out hv1 P X W1.heap.size go gl gc _ ((outL ps I gens.length).map (·.2)) (outL ps I gens.length) nm nn xo gl0 xc hP hq8 HNM.out HNN.out HXe.out (by omega) hb.size (XX.out.later hb) hown rfl (fun g hg=>HGI.out g (zh1 hg)) (by have:=HPL.out;have:=HG10.out;omega) hk34 hrE
end Go.Proofs.YtnhbfehfipafoaaGreatDoor
/- The reference's Apply: a lattice that is there, or isn't. -/
namespace Go.Proofs.YtnhbfehfipafoaaGreatDoor
open Go.RowKit
set_option linter.unusedSimpArgs false in
set_option maxRecDepth 100000 in
set_option maxHeartbeats 3200000 in
theorem zgf (w W:World)(ao vo:Option Addr)(cap vc B:Nat)(qs:List Nc)(o:OpV)(r:Nat × List Nmd)(hbe:Below w.heap.size w W)(hcat:CatN w (.slice ao qs.length cap) qs)(hok:CatOk (qs.map (·.x)))(hx:FourV W B (.int .i64 o.kind) (.string o.name) (.int .i64 o.n) (.slice vo o.v.length vc))(hv:RowS w (.slice vo o.v.length vc) o.v)(hv1:o.v.length≤100000)(hsh:opOk o=true)(HAP:applyC (qs.map (·.x)) o=r)(hk1:¬ o.kind=1){sl1 sl2 sl4 sl5 sl6 sl8 sl9 sl10 sl11 sl12 sl13 sl14 sl15 sl16 sl17 sl18 sl19 sl20 sl21 sl22 sl23 sl24 sl25 sl26 sl27 sl28 sl29 sl30 sl31 sl32 sl33 sl34 sl35 sl36 sl37 sl38 sl39 sl40 sl41 sl42 sl43 sl44 sl45 sl46 sl47 sl48 sl49 sl50 sl51 sl52 sl53 sl54 sl55 sl56 sl57 sl58 sl59 sl60 sl61 sl62 sl63 sl64 sl65 sl66 sl67 sl68 sl69 sl70 sl71 sl72 sl73 sl74 sl75 sl76 sl77 sl78 sl79 sl80 sl81 sl82 sl83 sl84 sl85 sl86 sl87 sl88 sl89 sl90 sl91 sl92 sl93 sl94 sl95 sl96 sl97 sl98 sl99 sl100 sl101 sl102 sl103 sl104 sl105 sl106 sl107 sl108 sl109 sl110 sl111 sl112 sl113 sl114 sl115 sl116 sl117 sl118 sl119 sl120 sl121 sl122 sl123 sl124 sl125 sl126 sl127 sl128 sl129 sl130 sl131 sl132 sl133 sl134 sl135 sl136 sl137 sl138 sl139 sl140 sl141 sl142 sl143 sl144 sl145 sl146 sl147 sl148 sl149 sl150 sl151 sl152 sl153 sl154 sl155 sl156 sl157 sl158 sl159 sl160 sl161 sl162 sl163 sl164 sl165 sl166 sl167 sl168 sl169 sl170 sl171 sl172 sl173 sl174 sl175 sl176 sl177 sl178 sl179 sl180 sl181 sl182 sl183 sl184 sl185 sl186 sl187 sl188 sl189 sl190 sl191 sl192 sl193 sl194 sl195 sl196 sl197 sl198 sl199 sl200 sl201 sl202 sl203 sl204 sl205 sl206 sl207:Value}:
  (Code.tail (Code.tail (Code.tail (Code.tail (Code.tail ((Tryz.f58.body).getD .skip)))))).wp Tryz.prog (bodyPost Tryz.prog Tryz.f58 (fun e w'=>RefRes w r e w')) ⟨#[(.slice ao qs.length cap),sl1,sl2,(.pointer (some ⟨B,0,none⟩)),sl4,sl5,sl6,(.int .i64 (atL (qs.map (·.x)) o.name)),sl8,sl9,sl10,sl11,sl12,sl13,sl14,sl15,sl16,sl17,sl18,sl19,sl20,sl21,sl22,sl23,sl24,sl25,sl26,sl27,sl28,sl29,sl30,sl31,sl32,sl33,sl34,sl35,sl36,sl37,sl38,sl39,sl40,sl41,sl42,sl43,sl44,sl45,sl46,sl47,sl48,sl49,sl50,sl51,sl52,sl53,sl54,sl55,sl56,sl57,sl58,sl59,sl60,sl61,sl62,sl63,sl64,sl65,sl66,sl67,sl68,sl69,sl70,sl71,sl72,sl73,sl74,sl75,sl76,sl77,sl78,sl79,sl80,sl81,sl82,sl83,sl84,sl85,sl86,sl87,sl88,sl89,sl90,sl91,sl92,sl93,sl94,sl95,sl96,sl97,sl98,sl99,sl100,sl101,sl102,sl103,sl104,sl105,sl106,sl107,sl108,sl109,sl110,sl111,sl112,sl113,sl114,sl115,sl116,sl117,sl118,sl119,sl120,sl121,sl122,sl123,sl124,sl125,sl126,sl127,sl128,sl129,sl130,sl131,sl132,sl133,sl134,sl135,sl136,sl137,sl138,sl139,sl140,sl141,sl142,sl143,sl144,sl145,sl146,sl147,sl148,sl149,sl150,sl151,sl152,sl153,sl154,sl155,sl156,sl157,sl158,sl159,sl160,sl161,sl162,sl163,sl164,sl165,sl166,sl167,sl168,sl169,sl170,sl171,sl172,sl173,sl174,sl175,sl176,sl177,sl178,sl179,sl180,sl181,sl182,sl183,sl184,sl185,sl186,sl187,sl188,sl189,sl190,sl191,sl192,sl193,sl194,sl195,sl196,sl197,sl198,sl199,sl200,sl201,sl202,sl203,sl204,sl205,sl206,sl207],[]⟩ W:=by
 simp only [Code.tail,Tryz.f58,Option.getD_some]
 have HC:=hide hcat;have HBE:=hide hbe;have HX:=hide hx;have HV:=hide hv
 have hq8:qs.length≤8:=by have:=hok.few;rwa [List.length_map] at this
 have HRI:=hide hok.rise;have HALL:=hide hok.all
 obtain⟨cap',ecap⟩:∃ c,c=cap:=⟨_,rfl⟩
 have hcap:qs.length≤cap:=by
  obtain⟨_,_,e,h,-⟩:=hcat
  simp only [Value.slice.injEq] at e
  rw [e.2.2];exact h
 clear ecap
 have hA:=HAP
 unfold applyC at hA
 rw [if_neg (by rw [hsh];decide),if_neg hk1] at hA
 have hk234:o.kind=2∨o.kind=3∨o.kind=4:=by
  rw [zbx,Bool.and_eq_true] at hsh
  have h:=(zc8 _ _ _).1 hsh.2
  omega
 clear hcat hbe hok hsh HAP hv hk1
 cases hh:hasL (qs.map (·.x)) o.name with
 | false=>
  rw [if_pos hh] at hA
  have HR:=hide hA.symm
  rw [zdx hh]
  obtain⟨o0,o1,o2,o3,hBl⟩:=hx
  clear hA hh
  go_wp2
  go_ret2
  exact zt 7 [] HR.out (by decide) HBE.out
 | true=>
 rw [if_neg (by rw [hh];decide)] at hA
 rw [zdy HRI.out hh]
 obtain⟨hP,-⟩:=(zaq HRI.out).1 hh
 clear hh HRI
 generalize placeL (qs.map (·.x)) o.name=P at *
 have hPm:=hP
 rw [List.length_map] at hP
 by_cases h2:o.kind=2
 ·rw [if_pos h2] at hA
  have HR:=hide hA.symm
  have g1:(o.kind == 2)=true:=by rw [beq_iff_eq];exact h2
  obtain⟨o0,o1,o2,o3,hBl⟩:=hx
  have hCW:=HC.out.below HBE.out
  have hsq:=zaI hCW
  obtain⟨so,hso⟩:∃ so,(if cap=P+1 then ao else Option.map (fun x=>x.add ((P+1) * 3)) ao)=so:=⟨_,rfl⟩
  obtain⟨j0,hj,hy0,hy1,hy2⟩:=zl Tryz.infoNamed
  obtain⟨oa,ca,W1,hr1,hw1,hb1⟩:=z8 (P:=Tryz.prog) W W W.heap.size (Nat.le_refl _) (Below.refl _ _) (Nat.le_refl _) 37 37 107 j0 _ 3 48 (by kernel_rfl) hj hy0 hy1 hy2 rfl (by decide) (.slice none 0 0) 0 [] (World.ownsRow_nil _ _ _ _) (.slice ao P cap) P _ (by rw [List.length_take,zG,Nat.min_eq_left (by omega)]) (hsq.take (sz:=3) P (by omega)) (fun y hy=>zac qs y (List.mem_of_mem_take hy)) (by unfold maxLen;omega) (by omega)
  rw [Nat.zero_add] at hr1 hw1
  rw [List.nil_append] at hw1
  obtain⟨ob,cb,W2,hr2,hw2,hb2⟩:=z8 (P:=Tryz.prog) W W1 W.heap.size (Nat.le_refl _) hb1 hb1.size 37 37 107 j0 _ 3 48 (by kernel_rfl) hj hy0 hy1 hy2 rfl (by decide) (.slice oa P ca) P _ hw1 (.slice so (qs.length - (P+1)) (cap - (P+1))) (qs.length - (P+1)) _ (by rw [List.length_drop,zG];omega) (hsq.drop (sz:=3) (P+1) (by omega) so (fun h b off e=>by rw [← hso,if_neg (by omega),e,Option.map_some,zal])) (fun y hy=>zac qs y (List.mem_of_mem_drop hy)) (by unfold maxLen;omega) (by omega)
  have hfl:(qs.flatMap Nc.cells).take (P * 3) ++(qs.flatMap Nc.cells).drop ((P+1) * 3)=(qs.take P ++ qs.drop (P+1)).flatMap Nc.cells:=by
   rw [List.flatMap_append,zcw,zcv]
  have hln:P+(qs.length - (P+1))=(qs.take P ++ qs.drop (P+1)).length:=by
   rw [List.length_append,List.length_take,List.length_drop];omega
  have hw3:=hw2
  rw [hfl,hln] at hw3
  have HCB:=hide (zan hw3 (fun q hq=>(hCW.ins q (by
   rcases List.mem_append.1 hq with h | h
   ·exact List.mem_of_mem_take h
   ·exact List.mem_of_mem_drop h)).below hb2))
  rw [← hln] at HCB
  have HR1:=hide hr1;have HR2:=hide hr2;have HB2:=hide (HBE.out.trans (hb2.mono HBE.out.size))
  have HB1:=hide (hb1)
  have hkc:P≤cap:=by omega
  have hk1:P+1≤cap:=by omega
  have hk2:P+1≤qs.length:=by omega
  have hw1':IntKind.i64.wrap ((P:Int)+1)=((P+1:Nat):Int):=by rw [IntKind.wrap_i64];omega
  have hk3:0≤(P:Int)+1∧(P:Int)+1≤(qs.length:Int):=by omega
  clear hA h2 hk234 hCW hsq hj hy0 hy1 hy2 hr1 hw1 hr2 hw2 hw3 hb1 hb2 hfl hln hPm
  go_wp2_with (at_builtin;first | refine Lib.wpList_append_run _ rfl _ _ _ _ rfl _ _ rfl rfl _ _ HR1.out ?_ | refine Lib.wpList_append_run _ rfl _ _ _ _ rfl _ _ rfl rfl _ _ HR2.out ?_)
  go_wp2
  go_ret2
  exact⟨.inr ⟨by rw [HR.out],_,_,rfl,by rw [HR.out,List.map_append,List.map_take,List.map_drop],HCB.out⟩,HB2.out⟩
 ·have hge:(qs.map (·.x))[P]?=some qs[P].x:=by rw [List.getElem?_map,List.getElem?_eq_getElem hP];rfl
  rw [if_neg h2,hge] at hA
  have HPN:Hid (NmOk qs[P].x):=HALL.out _ (List.mem_map.2 ⟨_,List.getElem_mem hP,rfl⟩)
  dsimp only at hA
  have HA:=hide hA.symm
  have g1:(o.kind == 2)=false:=beq_eq_false_iff_ne.2 h2
  have HK:Hid (o.kind=3∨o.kind=4):=by rcases hk234 with h | h;exact absurd h h2;exact h
  obtain⟨o0,o1,o2,o3,hBl⟩:=hx
  clear hA h2 hk234 hPm hge
  go_upto_if 122 with fail
  go_cut [11] from 18 (fun v wx=>v=.slice none 0 0∧wx=W)
  case first=>
   go_wp2
   go_meet
   case rel=>exact⟨rfl,rfl⟩
  case rest=>
   obtain⟨rfl,rfl⟩:=hcut
   apply_assumption
   exact zge w _ ao vo cap vc B qs o r HBE.out HC.out HX.out HV.out hv1 P hP (by omega) HPN.out HK.out HA.out
end Go.Proofs.YtnhbfehfipafoaaGreatDoor
