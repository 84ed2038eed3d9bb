import Derived.Test.YtdedolkgcdlmeaaGreatDoorTl
import Derived.Deep.Cut
set_option maxRecDepth 100000
set_option maxHeartbeats 6400000
set_option linter.unusedSimpArgs false
namespace Go.Proofs.YtdedolkgcdlmeaaGreatDoor
open Go.RowKit Limbs Digs
def eB (P c:Nat):Nat:=P+c *(P+8)
theorem zig (P c:Nat):eB P (c+1)=eB P c+P+8:=by unfold eB;rw [Nat.succ_mul];omega
theorem zeU {P c d:Nat}(h:c≤d):eB P c≤eB P d:=by unfold eB;exact Nat.add_le_add_left (Nat.mul_le_mul_right _ h) _
theorem ziP (w W:World)(n a0 K D:Nat)(R:Nat→Option (List Int))(S:List Int→Prop)(hO:OutR w W w.heap.size n a0 K R S)(hn1:1≤n)(hn:n≤20)(hD:dT a0 (K+min K n)=D)(hB:D≤1000000000)(sl0 sl2 sl3 sl4 sl6 sl7 sl8 sl9 sl10 sl11 sl12 sl13 sl14 sl15 sl16 sl18 sl19 sl20 sl21 sl22 sl23 sl24 sl25 sl26 sl27 sl28 sl29 sl30 sl31 sl32 sl33 sl34 sl35 sl36 sl37 sl38 sl39 sl40 sl41 sl42 sl43 sl44 sl45 sl46 sl47 sl48 sl49 sl50 sl51 sl52 sl53 sl54 sl55 sl56 sl57 sl58 sl59 sl60 sl61 sl62 sl63 sl64 sl65 sl66 sl67 sl68 sl69 sl70 sl71 sl72 sl73 sl74 sl75 sl76 sl77 sl78 sl79 sl80 sl81 sl82 sl83 sl84 sl85 sl86 sl87 sl88 sl89 sl90 sl91 sl92 sl93 sl94 sl95 sl96 sl97 sl98 sl99 sl100 sl101 sl102 sl103 sl104 sl105 sl106 sl107 sl108 sl109 sl110 sl111 sl112 sl113 sl114 sl115 sl116 sl117 sl118 sl119 sl120 sl121 sl122 sl123 sl124 sl125 sl126 sl127 sl128 sl129 sl130 sl131 sl132 sl133 sl134 sl135 sl136 sl137 sl138 sl139 sl140 sl141 sl142 sl143 sl144 sl145 sl146 sl147 sl148 sl149 sl150 sl151 sl152 sl153 sl154 sl155 sl156 sl157 sl158 sl159 sl160 sl161 sl162 sl163 sl164 sl165 sl166:Value):
  (Code.tl (Code.tl (Code.tl (Code.tl ((Tryz.f33.body).getD .skip))))).wp Tryz.prog (bodyPost Tryz.prog Tryz.f33 (fun e w'=>∃ u hs p,e=.returned u∧MatR w' u hs (eB (D+7) n)∧hs.length≤n∧FormL n hs p∧Alikes n (InL hs) S∧Below w.heap.size w w')) ⟨#[sl0,(.int .i64 (n:Int)),sl2,sl3,sl4,(.slice (some ⟨w.heap.size,0,none⟩) n n),sl6,sl7,sl8,sl9,sl10,sl11,sl12,sl13,sl14,sl15,sl16,(.slice none 0 0),sl18,sl19,sl20,sl21,sl22,sl23,sl24,sl25,sl26,sl27,sl28,sl29,sl30,sl31,sl32,sl33,sl34,sl35,sl36,sl37,sl38,sl39,sl40,sl41,sl42,sl43,sl44,sl45,sl46,sl47,sl48,sl49,sl50,sl51,sl52,sl53,sl54,sl55,sl56,sl57,sl58,sl59,sl60,sl61,sl62,sl63,sl64,sl65,sl66,sl67,sl68,sl69,sl70,sl71,sl72,sl73,sl74,sl75,sl76,sl77,sl78,sl79,sl80,sl81,sl82,sl83,sl84,sl85,sl86,sl87,sl88,sl89,sl90,sl91,sl92,sl93,sl94,sl95,sl96,sl97,sl98,sl99,sl100,sl101,sl102,sl103,sl104,sl105,sl106,sl107,sl108,sl109,sl110,sl111,sl112,sl113,sl114,sl115,sl116,sl117,sl118,sl119,sl120,sl121,sl122,sl123,sl124,sl125,sl126,sl127,sl128,sl129,sl130,sl131,sl132,sl133,sl134,sl135,sl136,sl137,sl138,sl139,sl140,sl141,sl142,sl143,sl144,sl145,sl146,sl147,sl148,sl149,sl150,sl151,sl152,sl153,sl154,sl155,sl156,sl157,sl158,sl159,sl160,sl161,sl162,sl163,sl164,sl165,sl166],[]⟩ W:=by
 simp only [Code.tl,Tryz.f33,Option.getD_some]
 obtain⟨j0,hj,hy0,hy1,hy2⟩:=info_parts Tryz.infoRRow
 have HJ:=hide hj;have HY0:=hide hy0;have HY1:=hide hy1;have HY2:=hide hy2
 clear hj hy0 hy1 hy2
 have HO:=hide hO
 have HROW:Hid (∀ i,i<n→∀ r,R i=some r→∃ b cap,W.cell? ⟨w.heap.size,i,none⟩=some (.slice (some ⟨b,0,none⟩) r.length cap)∧RowR W (.slice (some ⟨b,0,none⟩) r.length cap) r D):=fun i hi r e=>by
  obtain⟨b,cap,hc,hv⟩:=hO.st.row i hi r e
  exact⟨b,cap,hc,hv.mono (by rw [← hD];exact zan (by have:=zez R i;have:=zdd R (Nat.le_of_lt hi);have:=hO.cnt;omega))⟩
 have hsb:=hO.st.lt
 clear hO hD
 go_wp2
 go_loopw [17,18] (fun out c wr=>∃(cc:Nat) (qs:List (Value × List Int)),cc≤n∧c=.int .i64 cc∧Hid (GrowB wr W.heap.size out qs (fun _=>eB (D+7) cc))∧Hid (qs.map (·.2)=outN R cc)∧Hid (Below W.heap.size W wr)) (fun _ c _=>n-(intOf c).toNat)
 case atStart=>exact⟨0,[],Nat.zero_le _,rfl,hide (GrowB.nil _ _ _),hide rfl,hide (Below.refl _ _)⟩
 case round=>
  obtain⟨cc,qs,hc,rfl,HG,HQ,HB⟩:=hrel
  have HQL:Hid (qs.length≤cc):=by
   have h1:=congrArg List.length HQ.out
   rw [List.length_map] at h1
   have h2:=zfQ R cc
   show qs.length≤cc
   omega
  by_cases hcl:cc<n
  ·have hbs:=HB.out.size
   have hsr:w.heap.size<wr.heap.size:=zT hsb hbs
   have hEB:eB (D+7) cc≤21 *(D+15):=by
    have:=zeU (P:=D+7) (show cc≤20 by omega)
    have e:eB (D+7) 20=(D+7)+20 *(D+15):=rfl
    omega
   have hEN:=zig (D+7) cc
   have HEN:=hide hEN
   clear hEN
   cases hRc:R cc with
   | none=>
    have c0:=(HB.out.cell (p:=⟨w.heap.size,cc,none⟩) hsb).trans (HO.out.st.nil cc hcl hRc)
    have hbo:=zgh wr
    have HNX:Hid (outN R (cc+1)=outN R cc):=by show _=_;rw [outN,hRc]
    have HG':=hide (HG.out.mono (nb':=fun _=>eB (D+7) (cc+1)) fun j _=>zeU (by omega))
    have HQ':Hid (qs.map (·.2)=outN R (cc+1)):=HQ.out.trans HNX.out.symm
    clear hRc HG HQ HNX
    go_wp2
    go_roundw
    case rel=>exact⟨cc+1,qs,by omega,by go_num,HG',HQ',HB⟩
    case measure=>simp [intOf];omega
   | some r=>
    obtain⟨pb,pcap,pcell,hp⟩:=HROW.out cc hcl r hRc
    have c0:=(HB.out.cell (p:=⟨w.heap.size,cc,none⟩) hsb).trans pcell
    have hbo:=zgk wr ⟨pb,0,none⟩ r.length pcap
    have hrl:r.length=n:=HO.out.ech.len cc r hRc
    have HPR:=hide (hp.below HB.out zL)
    obtain⟨_,_,e,lp,sr,ro,rl,rc,p0,p1,np⟩:=HPR.out.at cc (by omega)
    simp only [Value.slice.injEq,Option.some.injEq,Addr.mk.injEq,and_true,true_and] at e
    obtain⟨rfl,rfl⟩:=e
    have hsg:=np.sgn0
    have hne:r.getD cc 0≠0:=HO.out.nz cc r hRc
    have HRL:=hide hrl
    have hcr:cc<r.length:=by omega
    have HNX:Hid (outN R (cc+1)=(outN R cc).map (fun u=>lowRow u (upR r cc) cc)++[upR r cc]):=by show _=_;rw [outN,hRc]
    generalize eB (D+7) cc=E at *
    clear hp pcell hrl hRc
    by_cases hneg:sr<0
    ·have hup:upR r cc=List.zipWith (fun p q=>-1*p+0*q) r r:=if_pos (hsg.2.1 hneg)
     rw [hup] at HNX
     have hps:0<(List.zipWith (fun p q=>-1*p+0*q) r r).getD cc 0:=by rw [← hup];exact zgH hcr hne
     have hpl:(List.zipWith (fun p q=>-1*p+0*q) r r).length=n:=by rw [← hup];exact(zbH r cc).trans HRL.out
     have HCO:Hid (∀ w1 v1,NumR w1 v1 (-1) 5→RowR w1 (.slice (some ⟨pb,0,none⟩) r.length pcap) r D→Calls Tryz.prog 85 #[v1,.slice (some ⟨pb,0,none⟩) r.length pcap,.agg #[.int .i64 0,.slice none 0 0],.slice (some ⟨pb,0,none⟩) r.length pcap] w1 fun e w'=>RowPost w1 (List.zipWith (fun p q=>-1*p+0*q) r r) (D+7) e w'):=fun w1 v1 h1 h2=>
      zbM w1 v1 _ _ _ (-1) 0 r r 5 D 0 D (D+6) h1 h2 (NumR.nought _ _) h2 rfl (by have:=HRL.out;omega) (by omega) (by omega) (by omega)
     clear hup hsg hne
     generalize List.zipWith (fun p q=>-1*p+0*q) r r=ps at *
     have HPL:=hide hpl
     clear hpl
     go_wp2_with fail
     refine(z8 wr (-1) (by decide) (by decide)).mono ?_
     rintro e w1 ⟨r1,rfl,hr1,hb1⟩
     have HR1:=hide hr1;have HB1:=hide hb1
     clear hr1 hb1
     go_wp2_with fail
     refine(HCO.out w1 _ HR1.out (HPR.out.below HB1.out zL)).mono ?_
     rintro e w1' ⟨v1',rfl,hr1',hb1'⟩
     obtain⟨qb,qcap,rfl⟩:=hr1'.form (by have:=HPL.out;omega)
     have HPQ:=hide hr1'
     have hb12:=HB1.out.trans (hb1'.mono HB1.out.size)
     have HGX:=hide (HG.out.later hb12)
     have HBX:=hide (HB.out.trans (hb12.mono HB.out.size))
     have hpos:=hps
     clear hr1' hb1' hb12 HCO HR1 HB1 HPR HG HB hps np
     have HG:=HGX;have HB:=HBX
     clear HGX HBX
     obtain⟨oo,ocap,rfl,hoo⟩:=HG.out.form
     have HOO:=hide hoo
     have HLQ:Hid ((outN R cc).length=qs.length):=by
      have:=congrArg List.length HQ.out
      rw [List.length_map] at this
      exact this.symm
     clear hoo
     obtain⟨wo,rfl⟩:∃ wo:World,wo=w1':=⟨_,rfl⟩
     go_wp2
     go_loopw [20] (fun iv w'=>∃(i:Nat) (qs':List (Value × List Int)),i≤qs.length∧iv=.int .i64 i∧Hid (qs'.length=qs.length)∧Hid (GrowB w' W.heap.size (.slice oo qs'.length ocap) qs' (fun j=>if j<i then E+D+15 else E))∧Hid (qs'.map (·.2)=partL (outN R cc) ps cc i)∧Hid (RowR w' (.slice (some ⟨qb,0,none⟩) ps.length qcap) ps (D+7))∧Hid (Below W.heap.size W w')) (fun iv _=>qs.length-(intOf iv).toNat)
     case atStart=>exact⟨0,qs,Nat.zero_le _,rfl,hide rfl,hide (HG.out.mono fun j _=>by rw [if_neg (Nat.not_lt_zero j)];exact Nat.le_refl _),hide (by rw [zfW];exact HQ.out),HPQ,HB⟩
     case round=>
      clear HG HB HPQ
      obtain⟨i,qs',hi,rfl,HQL',HG,HQ',HPQ,HB⟩:=hrel
      by_cases hil:i<qs.length
      ·obtain⟨g,rfl⟩:=HOO.out (by omega)
       have hij:i<qs'.length:=by have:=HQL'.out;omega
       have hi16:i<20:=by have:=HQL.out;omega
       have hcp:cc<ps.length:=by have:=HPL.out;omega
       obtain⟨⟨uv,us⟩,hqi⟩:∃ q,qs'[i]?=some q:=⟨qs'[i],List.getElem?_eq_getElem hij⟩
       have hiL:i<(outN R cc).length:=by have:=HLQ.out;omega
       have hus:(outN R cc)[i]=us:=by
        have h1:(qs'.map (·.2))[i]?=some us:=by rw [List.getElem?_map,hqi];rfl
        rw [HQ'.out,zfU hiL] at h1
        exact zI h1
       have HUS:=hide hus
       have hul:us.length=n:=by rw [← hus];exact zdI HO.out.ech cc _ (List.getElem_mem hiL)
       have HUL:=hide hul
       have HRW:Hid (RowR wr uv us E):=by
        have:=HG.out.row i _ hqi
        rwa [if_neg (Nat.lt_irrefl i)] at this
       obtain⟨ub,ucap,rfl⟩:=HRW.out.form (by omega)
       obtain⟨cg,lg,-,-,-⟩:=HG.out.cell hqi
       obtain⟨_,_,e,lu,su,uo,ul,uc,u0,u1,nu⟩:=HRW.out.at cc (by omega)
       simp only [Value.slice.injEq,Option.some.injEq,Addr.mk.injEq,and_true,true_and] at e
       obtain⟨rfl,rfl⟩:=e
       obtain⟨_,_,e,lp,sp,po,pl,pc,p0,p1,np⟩:=HPQ.out.at cc (by omega)
       simp only [Value.slice.injEq,Option.some.injEq,Addr.mk.injEq,and_true,true_and] at e
       obtain⟨rfl,rfl⟩:=e
       have NU:=hide nu;have NP:=hide np
       have HQI:=hide hqi
       have hcu:cc<us.length:=by omega
       have HUP:Hid (us.length=ps.length):=hul.trans HPL.out.symm
       have HLOW:Hid (∀ s:Int,us.getD cc 0/ps.getD cc 0=s→List.zipWith (fun p q=>1*p+-s*q) us ps=lowRow us ps cc):=fun s h=>by
        unfold lowRow;rw [h]
       clear nu np hqi hul hus
       generalize haa:us.getD cc 0=a at *
       generalize hyy:ps.getD cc 0=y at *
       have hy0:y≠0:=by omega
       clear haa hyy
       have hst:=QuoGotR.moved E (D+7) a y
       go_wp2_with fail
       refine zab (by kernel_rfl) (by kernel_rfl) (fun L a' w'=>∃(c:Nat→Value) (G:Nat→Nat),a'=(⟨#[sl0,.int .i64 (n:Int),sl2,sl3,sl4,.slice (some ⟨w.heap.size,0,none⟩) n n,sl6,sl7,sl8,sl9,sl10,sl11,sl12,sl13,sl14,sl15,sl16,.slice (some ⟨g,0,none⟩) qs.length ocap,.int .i64 (cc:Int),.slice (some ⟨qb,0,none⟩) ps.length qcap,.int .i64 (i:Int),c 15,c 16,sl23,sl24,sl25,sl26,sl27,sl28,sl29,sl30,sl31,sl32,sl33,sl34,sl35,sl36,sl37,sl38,sl39,sl40,sl41,sl42,sl43,sl44,sl45,sl46,sl47,sl48,sl49,sl50,sl51,sl52,sl53,sl54,sl55,sl56,sl57,sl58,sl59,sl60,sl61,sl62,sl63,sl64,sl65,sl66,sl67,sl68,sl69,sl70,sl71,sl72,sl73,sl74,sl75,sl76,sl77,sl78,sl79,sl80,sl81,sl82,sl83,sl84,sl85,sl86,sl87,sl88,sl89,sl90,sl91,sl92,sl93,sl94,sl95,sl96,sl97,sl98,sl99,sl100,sl101,sl102,sl103,.int .i64 (cc:Int),.int .i64 (n:Int),.bool true,u107,u108,.slice (some ⟨w.heap.size,0,none⟩) n n,.int .i64 (cc:Int),.pointer (some ⟨w.heap.size,cc,none⟩),.slice (some ⟨pb,0,none⟩) r.length pcap,.bool false,.slice (some ⟨w.heap.size,0,none⟩) n n,.int .i64 (cc:Int),.pointer (some ⟨w.heap.size,cc,none⟩),.slice (some ⟨pb,0,none⟩) r.length pcap,.slice (some ⟨pb,0,none⟩) r.length pcap,.int .i64 (cc:Int),.pointer (some ⟨pb,cc*2,none⟩),.pointer (some ⟨pb,cc*2,none⟩),.int .i64 sr,.bool true,r1,.slice (some ⟨pb,0,none⟩) r.length pcap,.agg #[.int .i64 0,.slice none 0 0],.slice (some ⟨pb,0,none⟩) r.length pcap,.slice (some ⟨qb,0,none⟩) ps.length qcap,.int .i64 (i:Int),.slice (some ⟨g,0,none⟩) qs.length ocap,.int .i64 (qs.length:Int),.bool true,u133,u134,c 12,c 0,c 1,c 2,c 3,c 4,c 5,c 6,c 7,c 8,c 9,c 10,c 11,c 13,c 14,u150,u151,u152,u153,u154,u155,u156,u157,u158,u159,u160,u161,u162,u163,u164,u165,sl166],[]⟩:Act)∧TR.Tags (TR.D22 11) (TR.FA22 11 [.slice (some ⟨g,0,none⟩) qs.length ocap,.int .i64 (i:Int),.pointer (some ⟨g,i,none⟩),.slice (some ⟨ub,0,none⟩) us.length ucap,.int .i64 (cc:Int),.pointer (some ⟨ub,cc*2,none⟩),.agg #[.int .i64 su,.slice uo ul uc],.slice (some ⟨qb,0,none⟩) ps.length qcap,.int .i64 (cc:Int),.pointer (some ⟨qb,cc*2,none⟩),.agg #[.int .i64 sp,.slice po pl pc]] (QuoGotR E (D+7) a y) (wr).heap.size) (wr) L c w' G) ⟨fun i=>([u136,u137,u138,u139,u140,u141,u142,u143,u144,u145,u146,u147,u135,u148,u149,u21,u22,undef,undef]:List Value).getD i undef,fun _=>0,rfl,TR.Tags.start _ _ _⟩ ?_ ?_
       ·rintro L a' w' i o ⟨c,G,rfl,R⟩ ho hn hdep K hK
        have hi:i<19:=(Array.getElem?_eq_some_iff.1 ho).1
        rcases(by omega:i=0∨i=1∨i=2∨i=3∨i=4∨i=5∨i=6∨i=7∨i=8∨i=9∨i=10∨i=11∨i=12∨i=13∨i=14∨i=15∨i=16∨i=17∨i=18) with rfl | rfl | rfl | rfl | rfl | rfl | rfl | rfl | rfl | rfl | rfl | rfl | rfl | rfl | rfl | rfl | rfl | rfl | rfl
        ·obtain rfl:=zI ho
         have R':=R.plain hn (zN rfl) (TR.FA22.keep hst) (v:=(.slice (some ⟨g,0,none⟩) qs.length ocap)) (zd _ _ _)
         clear R
         go_simp
         exact hK.out _ _ ⟨_,_,by simp [upd],R'⟩
        ·obtain rfl:=zI ho
         have R':=R.plain hn (zN rfl) (TR.FA22.keep hst) (v:=(.int .i64 (i:Int))) (zd _ _ _)
         clear R
         go_simp
         exact hK.out _ _ ⟨_,_,by simp [upd],R'⟩
        ·obtain rfl:=zI ho
         have e0:c 0=(.slice (some ⟨g,0,none⟩) qs.length ocap):=R.facts 0 (hdep ⟨0,.data⟩ (by simp) rfl)
         have e1:c 1=(.int .i64 (i:Int)):=R.facts 1 (hdep ⟨1,.data⟩ (by simp) rfl)
         have R':=R.plain hn (zN rfl) (TR.FA22.keep hst) (v:=(.pointer (some ⟨g,i,none⟩))) (zd _ _ _)
         clear R
         rw [e0,e1]
         go_simp
         exact hK.out _ _ ⟨_,_,by simp [upd,e0,e1],R'⟩
        ·obtain rfl:=zI ho
         have e2:c 2=(.pointer (some ⟨g,i,none⟩)):=R.facts 2 (hdep ⟨2,.data⟩ (by simp) rfl)
         have q0:=(R.below.cell (p:=⟨g,i,none⟩) lg).trans cg
         have R':=R.plain hn (zN rfl) (TR.FA22.keep hst) (v:=(.slice (some ⟨ub,0,none⟩) us.length ucap)) (zd _ _ _)
         clear R
         rw [e2]
         go_simp
         exact hK.out _ _ ⟨_,_,by simp [upd,e2],R'⟩
        ·obtain rfl:=zI ho
         have R':=R.plain hn (zN rfl) (TR.FA22.keep hst) (v:=(.int .i64 (cc:Int))) (zd _ _ _)
         clear R
         go_simp
         exact hK.out _ _ ⟨_,_,by simp [upd],R'⟩
        ·obtain rfl:=zI ho
         have e3:c 3=(.slice (some ⟨ub,0,none⟩) us.length ucap):=R.facts 3 (hdep ⟨3,.data⟩ (by simp) rfl)
         have e4:c 4=(.int .i64 (cc:Int)):=R.facts 4 (hdep ⟨4,.data⟩ (by simp) rfl)
         have R':=R.plain hn (zN rfl) (TR.FA22.keep hst) (v:=(.pointer (some ⟨ub,cc*2,none⟩))) (zd _ _ _)
         clear R
         rw [e3,e4]
         go_simp
         exact hK.out _ _ ⟨_,_,by simp [upd,e3,e4],R'⟩
        ·obtain rfl:=zI ho
         have e5:c 5=(.pointer (some ⟨ub,cc*2,none⟩)):=R.facts 5 (hdep ⟨5,.data⟩ (by simp) rfl)
         have q0:=(R.below.cell (p:=⟨ub,cc*2,none⟩) lu).trans u0
         have q1:=(R.below.cell (p:=⟨ub,cc*2+1,none⟩) lu).trans u1
         have R':=R.plain hn (zN rfl) (TR.FA22.keep hst) (v:=(.agg #[.int .i64 su,.slice uo ul uc])) (zd _ _ _)
         clear R
         rw [e5]
         go_simp
         exact hK.out _ _ ⟨_,_,by simp [upd,e5],R'⟩
        ·obtain rfl:=zI ho
         have R':=R.plain hn (zN rfl) (TR.FA22.keep hst) (v:=(.slice (some ⟨qb,0,none⟩) ps.length qcap)) (zd _ _ _)
         clear R
         go_simp
         exact hK.out _ _ ⟨_,_,by simp [upd],R'⟩
        ·obtain rfl:=zI ho
         have R':=R.plain hn (zN rfl) (TR.FA22.keep hst) (v:=(.int .i64 (cc:Int))) (zd _ _ _)
         clear R
         go_simp
         exact hK.out _ _ ⟨_,_,by simp [upd],R'⟩
        ·obtain rfl:=zI ho
         have e7:c 7=(.slice (some ⟨qb,0,none⟩) ps.length qcap):=R.facts 7 (hdep ⟨7,.data⟩ (by simp) rfl)
         have e8:c 8=(.int .i64 (cc:Int)):=R.facts 8 (hdep ⟨8,.data⟩ (by simp) rfl)
         have R':=R.plain hn (zN rfl) (TR.FA22.keep hst) (v:=(.pointer (some ⟨qb,cc*2,none⟩))) (zd _ _ _)
         clear R
         rw [e7,e8]
         go_simp
         exact hK.out _ _ ⟨_,_,by simp [upd,e7,e8],R'⟩
        ·obtain rfl:=zI ho
         have e9:c 9=(.pointer (some ⟨qb,cc*2,none⟩)):=R.facts 9 (hdep ⟨9,.data⟩ (by simp) rfl)
         have q0:=(R.below.cell (p:=⟨qb,cc*2,none⟩) lp).trans p0
         have q1:=(R.below.cell (p:=⟨qb,cc*2+1,none⟩) lp).trans p1
         have R':=R.plain hn (zN rfl) (TR.FA22.keep hst) (v:=(.agg #[.int .i64 sp,.slice po pl pc])) (zd _ _ _)
         clear R
         rw [e9]
         go_simp
         exact hK.out _ _ ⟨_,_,by simp [upd,e9],R'⟩
        ·obtain rfl:=zI ho
         have e6:c 6=(.agg #[.int .i64 su,.slice uo ul uc]):=R.facts 6 (hdep ⟨6,.data⟩ (by simp) rfl)
         have e10:c 10=(.agg #[.int .i64 sp,.slice po pl pc]):=R.facts 10 (hdep ⟨10,.data⟩ (by simp) rfl)
         rw [e6,e10]
         go_simp
         refine(zaP w' _ _ a y E (D+7) (NU.out.below R.below zL) (NP.out.below R.below zL) hy0 (by omega) (by omega)).mono ?_
         rintro e wq ⟨vq,vr,s,r',rfl,m1,m2,m3,m4,hb⟩
         have R':=R.call hn (zN rfl) (TR.FA22.keep hst) hb (v:=.tuple #[vq,vr]) (show QuoGotR E (D+7) a y wq (upd c 11 (.tuple #[vq,vr]) 11) from by rw [zd];exact⟨vq,vr,s,r',rfl,m1,m2,m3,m4⟩)
         clear m1 m2 m3 m4 hb
         clear R
         go_wp2_with fail
         exact hK.out _ _ ⟨_,_,by simp [upd,e6,e10],R'⟩
        ·obtain rfl:=zI ho
         have R':=R.plain hn (zO rfl (hdep ⟨_,.data⟩ (by simp) rfl)) (TR.FA22.keep hst) (v:=c 11) (show upd c 12 (c 11) 12=upd c 12 (c 11) 11 from by rw [zd,ze _ _ (by decide)])
         clear R
         go_simp
         exact hK.out _ _ ⟨_,_,by simp [upd],R'⟩
        ·obtain rfl:=zI ho
         have hm:=hdep ⟨12,.data⟩ (by simp) rfl
         have em:c 12=c 11:=R.facts 12 hm
         obtain⟨vq,vr,s,r',ec,nm1,nm2,-⟩:(QuoGotR E (D+7) a y) w' (c 11):=R.facts 11 (R.closed 12 hm 11 (by simp [TR.D22]))
         rw [ec] at em
         have R':=R.plain hn (zO rfl (hdep ⟨_,.data⟩ (by simp) rfl)) (TR.FA22.keep hst) (v:=vq) (show ∃ u1 u2:Value,upd c 13 vq 12=.tuple #[u1,u2]∧upd c 13 vq 13=u1 from⟨vq,vr,by rw [ze _ _ (by decide)];exact em,zd _ _ _⟩)
         clear R ec
         rw [em]
         go_simp
         exact hK.out _ _ ⟨_,_,by simp [upd,em],R'⟩
        ·obtain rfl:=zI ho
         have hm:=hdep ⟨12,.data⟩ (by simp) rfl
         have em:c 12=c 11:=R.facts 12 hm
         obtain⟨vq,vr,s,r',ec,nm1,nm2,-⟩:(QuoGotR E (D+7) a y) w' (c 11):=R.facts 11 (R.closed 12 hm 11 (by simp [TR.D22]))
         rw [ec] at em
         have R':=R.plain hn (zO rfl (hdep ⟨_,.data⟩ (by simp) rfl)) (TR.FA22.keep hst) (v:=vr) (show ∃ u1 u2:Value,upd c 14 vr 12=.tuple #[u1,u2]∧upd c 14 vr 14=u2 from⟨vq,vr,by rw [ze _ _ (by decide)];exact em,zd _ _ _⟩)
         clear R ec
         rw [em]
         go_simp
         exact hK.out _ _ ⟨_,_,by simp [upd,em],R'⟩
        ·obtain rfl:=zI ho
         obtain⟨G',R'⟩:=R.alloc hn (zN rfl) (TR.FA22.keep hst) 17 (fun W' G' h=>show TR.Made W' G' _ 17 (upd c 15 (ptr w'.heap.size) 15) from by rw [zd];exact h)
         clear R
         go_simp
         exact hK.out _ _ ⟨_,G',by simp [upd],R'⟩
        ·obtain rfl:=zI ho
         obtain⟨G',R'⟩:=R.alloc hn (zN rfl) (TR.FA22.keep hst) 18 (fun W' G' h=>show TR.Made W' G' _ 18 (upd c 16 (ptr w'.heap.size) 16) from by rw [zd];exact h)
         clear R
         go_simp
         exact hK.out _ _ ⟨_,G',by simp [upd],R'⟩
        ·obtain rfl:=zI ho
         have hx:=hdep ⟨13,.data⟩ (by simp) rfl
         have hm:=R.closed 13 hx 12 (by simp [TR.D22])
         have em:c 12=c 11:=R.facts 12 hm
         obtain⟨vq,vr,s,r',ec,nm1,nm2,-⟩:(QuoGotR E (D+7) a y) w' (c 11):=R.facts 11 (R.closed 12 hm 11 (by simp [TR.D22]))
         obtain⟨u1,u2,em',ex⟩:∃ u1 u2:Value,c 12=.tuple #[u1,u2]∧c 13=u1:=R.facts 13 hx
         rw [em,ec] at em'
         simp only [Value.tuple.injEq,Array.mk.injEq,List.cons.injEq,and_true] at em'
         obtain⟨rfl,rfl⟩:=em'
         obtain⟨s,hs⟩:=TR.rm_of nm1
         rw [hs] at ex
         obtain⟨B,ea,hC,hB,hG,r,hb⟩:TR.Made w' G _ 17 (c 15):=R.facts 15 (hdep ⟨15,.data⟩ (by simp) rfl)
         have R':=R.store hn (fun j hj=>by simp [TR.D22] at hj;rcases hj with rfl | rfl <;> exact hdep ⟨_,.data⟩ (by simp) rfl) (TR.FA22.keep hst) s hC hB hG hb (fun W' G' h=>show ∃ r:Rm,upd c 17 undef 13=r.v∧TR.Stored W' G' _ 17 (upd c 17 undef 15) r from⟨s,by rw [ze _ _ (by decide)];exact ex,by rw [ze _ _ (by decide),ea];exact h⟩)
         obtain⟨b0,b1,b2,b3⟩:=hb.box
         obtain⟨sn,so,sl,sc⟩:=s
         dsimp only at *
         clear R em ec
         rw [ea,ex]
         go_simp
         exact hK.out _ _ ⟨_,_,by simp [upd,ea,ex],R'⟩
        ·obtain rfl:=zI ho
         have hx:=hdep ⟨14,.data⟩ (by simp) rfl
         have hm:=R.closed 14 hx 12 (by simp [TR.D22])
         have em:c 12=c 11:=R.facts 12 hm
         obtain⟨vq,vr,s,r',ec,nm1,nm2,-⟩:(QuoGotR E (D+7) a y) w' (c 11):=R.facts 11 (R.closed 12 hm 11 (by simp [TR.D22]))
         obtain⟨u1,u2,em',ex⟩:∃ u1 u2:Value,c 12=.tuple #[u1,u2]∧c 14=u2:=R.facts 14 hx
         rw [em,ec] at em'
         simp only [Value.tuple.injEq,Array.mk.injEq,List.cons.injEq,and_true] at em'
         obtain⟨rfl,rfl⟩:=em'
         obtain⟨s,hs⟩:=TR.rm_of nm2
         rw [hs] at ex
         obtain⟨B,ea,hC,hB,hG,r,hb⟩:TR.Made w' G _ 18 (c 16):=R.facts 16 (hdep ⟨16,.data⟩ (by simp) rfl)
         have R':=R.store hn (fun j hj=>by simp [TR.D22] at hj;rcases hj with rfl | rfl <;> exact hdep ⟨_,.data⟩ (by simp) rfl) (TR.FA22.keep hst) s hC hB hG hb (fun W' G' h=>show ∃ r:Rm,upd c 18 undef 14=r.v∧TR.Stored W' G' _ 18 (upd c 18 undef 16) r from⟨s,by rw [ze _ _ (by decide)];exact ex,by rw [ze _ _ (by decide),ea];exact h⟩)
         obtain⟨b0,b1,b2,b3⟩:=hb.box
         obtain⟨sn,so,sl,sc⟩:=s
         dsimp only at *
         clear R em ec
         rw [ea,ex]
         go_simp
         exact hK.out _ _ ⟨_,_,by simp [upd,ea,ex],R'⟩
       ·rintro L a' w2 ⟨c2,G,rfl,R'⟩ hall
        obtain⟨⟨sn,so,sl,sc⟩,r2',Q1,Q2,⟨vq,vr,s,r',ec,N1,-,hps,hleft⟩,e13,e14,l1,l2,lq,l4,d12,x1,-,hb2⟩:=R'.fin22 (fun i hi=>hall i hi)
        simp only [Value.tuple.injEq,Array.mk.injEq,List.cons.injEq,and_true] at ec
        obtain⟨rfl,-⟩:=ec
        have HLO:=hide (HLOW.out s (zbC hpos hps hleft))
        have NQ2:=hide N1
        have a0:=(hb2.cell (p:=⟨g,i,none⟩) lg).trans cg
        have lg2:=zT lg hb2.size
        obtain⟨a1,a2,-,-⟩:=x1.box
        have HU2:=hide (HRW.out.below hb2 zL)
        have HP2:=hide (HPQ.out.below hb2 zL)
        have HG2:=hide (HG.out.later hb2)
        have HB2:=hide (HB.out.trans (hb2.mono HB.out.size))
        clear R' hall hst N1 hps hleft l1 l2 l4 d12 hb2 x1 u0 u1 p0 p1 cg NU NP HRW HPQ HG HB HLOW
        dsimp only at *
        rw [e13,e14]
        clear e13 e14
        go_wp2_with fail
        refine zw (S:=(fun w'=>w'.cell? ⟨g,i,none⟩=some (.slice (some ⟨ub,0,none⟩) us.length ucap)∧w'.cell? ⟨Q1,0,none⟩=some (.int .i64 sn)∧w'.cell? ⟨Q1,1,none⟩=some (.slice so sl sc))) (k:=12) (by kernel_rfl) (by(try dsimp only);go_keep) (fun hHeld=>?_)
        refine zf 0 150 [11,12] ?_
        try simp only [zA]
        refine zf 1 151 [11,12] ?_
        try simp only [zA]
        refine zf 3 153 [5,6,10,12] ?_
        try simp only [zA]
        refine zf 4 154 [5,6,10,12] ?_
        try simp only [zA]
        refine zf 5 155 [6,10,12] ?_
        try simp only [zA]
        refine zf 6 156 [10,12] ?_
        try simp only [zA]
        refine zf 7 157 [8,10,12] ?_
        try simp only [zA]
        refine zf 9 159 [10,12] ?_
        try simp only [zA]
        refine zg 2 (by kernel_rfl) rfl (fun K hK=>?_)
        go_simp
        (refine(z8 _ 1 (by decide) (by decide)).mono ?_;rintro e w3 ⟨r3,rfl,hr3,hb⟩;have b0:=(hb.cell (p:=⟨g,i,none⟩) lg2).trans a0;have b1:=(hb.cell (p:=⟨Q1,0,none⟩) lq).trans a1;have b2:=(hb.cell (p:=⟨Q1,1,none⟩) lq).trans a2;have HW3:Hid (Below w2.heap.size w2 w3):=((Below.refl w2.heap.size w2).drew).trans hb;have hs3:w2.heap.size≤w3.heap.size:=HW3.out.size;have NO3:=hide hr3;have NQ3:=hide (NQ2.out.below HW3.out zL);clear hb hr3)
        go_wp2_with fail
        refine hK.out _ _ (fun _=>by(try dsimp only);go_keep) ?_
        clear hK K
        try simp only [zA]
        refine zg 8 (by kernel_rfl) rfl (fun K hK=>?_)
        go_simp
        (refine(zaC _ _ s (E+6) (by exact NQ3.out)).mono ?_;rintro e w4 ⟨r4,rfl,hr4,hb⟩;have e0:=(hb.cell (p:=⟨g,i,none⟩) (zT lg2 hs3)).trans b0;have e1:=(hb.cell (p:=⟨Q1,0,none⟩) (zT lq hs3)).trans b1;have e2:=(hb.cell (p:=⟨Q1,1,none⟩) (zT lq hs3)).trans b2;have HW4:=hide (HW3.out.trans (hb.mono HW3.out.size));have hs4:w2.heap.size≤w4.heap.size:=HW4.out.size;have NM4:=hide hr4;have NO4:=hide (NO3.out.below hb zL);clear hb hr4)
        go_wp2_with fail
        refine hK.out _ _ (fun _=>by(try dsimp only);go_keep) ?_
        clear hK K
        try simp only [zA]
        refine zg 10 (by kernel_rfl) rfl (fun K hK=>?_)
        go_simp
        (refine(zbM w4 _ _ _ _ 1 (-s) us ps 5 E (E+6) (D+7) (E+D+14) (by exact NO4.out) (by exact HU2.out.below HW4.out zL) (by exact NM4.out) (by exact HP2.out.below HW4.out zL) HUP.out (by have:=HUL.out;omega) (by omega) (by omega) (by omega)).mono ?_;rintro e w5 ⟨v5,rfl,hr5,hb⟩;have d0:=(hb.cell (p:=⟨g,i,none⟩) (zT lg2 hs4)).trans e0;have d1:=(hb.cell (p:=⟨Q1,0,none⟩) (zT lq hs4)).trans e1;have d2:=(hb.cell (p:=⟨Q1,1,none⟩) (zT lq hs4)).trans e2;have HW5:=hide (HW4.out.trans (hb.mono HW4.out.size));have HR5:=hide hr5;clear hb hr5)
        go_wp2_with fail
        refine hK.out _ _ (fun _=>by(try dsimp only);go_keep) ?_
        clear hK K
        try simp only [zA]
        refine zg 11 (by kernel_rfl) rfl (fun K hK=>?_)
        go_simp
        refine hK.out _ _ (fun _=>by(try dsimp only);go_keep) ?_
        clear hK K
        try simp only [zA]
        have hv5:∃ b5 c5,v5=.slice (some ⟨b5,0,none⟩) (lowRow us ps cc).length c5:=by
         have hl5:(lowRow us ps cc).length=us.length:=zbY HUP.out cc
         have:=HR5.out
         rw [HLO.out] at this
         exact this.form (by rw [hl5];have:=HUL.out;omega)
        obtain⟨b5,c5,rfl⟩:=hv5
        have HG5:=hide (HG2.out.later HW5.out)
        have HN5:=hide (HG5.out.set (j:=i) (by omega) (by have:=HR5.out;rw [HLO.out] at this;exact this))
        obtain⟨-,lg5,bg5,fg5,cs5,hcs5⟩:=HG5.out.cell HQI.out
        have HP5:=hide ((HP2.out.below HW5.out zL).setTyped hcs5 (by decide) (by decide) i (.slice (some ⟨b5,0,none⟩) (lowRow us ps cc).length c5))
        have HB5:=hide ((HB2.out.trans (HW5.out.mono HB2.out.size)).setCell (p:=⟨g,i,none⟩) bg5 (.slice (some ⟨b5,0,none⟩) (lowRow us ps cc).length c5))
        clear hcs5
        refine zg 12 (by kernel_rfl) rfl (fun K hK=>?_)
        go_simp
        refine hK.out _ _ (fun h=>absurd h (by decide)) ?_
        clear hK K
        try simp only [zA]
        refine zt (by kernel_rfl) ?_
        have HQ5:Hid ((qs'.set i (Value.slice (some ⟨b5,0,none⟩) (lowRow us ps cc).length c5,lowRow us ps cc)).map (·.2)=partL (outN R cc) ps cc (i+1)):=by
         show _=_
         rw [List.map_set,HQ'.out,← zfV hiL,HUS.out]
        have HL5:Hid ((qs'.set i (Value.slice (some ⟨b5,0,none⟩) (lowRow us ps cc).length c5,lowRow us ps cc)).length=qs.length):=by
         show _=_
         rw [List.length_set];exact HQL'.out
        have HN6:=hide (HN5.out.mono (nb':=fun j=>if j<i+1 then E+D+15 else E) fun j _=>by
         by_cases h1:j=i
         ·rw [if_pos h1,if_pos (by omega)];exact Nat.le_refl _
         ·rw [if_neg h1]
          by_cases h2:j<i
          ·rw [if_pos h2,if_pos (by omega)];exact Nat.le_refl _
          ·rw [if_neg h2,if_neg (by omega)];exact Nat.le_refl _)
        clear a0 a1 a2 b0 b1 b2 e0 e1 e2 d0 d1 d2 HG2 HG5 HN5 HR5 HU2 HP2 HB2
        go_wp2
        go_roundw
        case rel=>exact⟨i+1,_,by omega,by go_num,HL5,HN6,HQ5,HP5,HB5⟩
        case measure=>simp [intOf];omega
      ·obtain rfl:i=qs.length:=by omega
       have HL:Hid (qs'.map (·.2)=(outN R cc).map (fun u=>lowRow u ps cc)):=by
        show _=_
        rw [HQ'.out,← HLQ.out,zfT]
       have HGA:=hide (HG.out.mono (nb':=fun _=>E+D+15) fun j hj=>by rw [if_pos (by have:=HQL'.out;omega)];exact Nat.le_refl _)
       rw [HQL'.out] at HGA
       have hown:=HGA.out.own
       have hbs2:=HB.out.size
       have hj:=HJ.out;have hy0':=HY0.out;have hy1:=HY1.out;have hy2:=HY2.out
       have hqn:qs'.length≤20:=by have:=HQL'.out;have:=HQL.out;omega
       have HQQ:=HQL'
       clear HG HQ'
       go_wp2_with (at_builtin;refine wpList_append_lies _ rfl _ _ 43 rfl W.heap.size 106 j0 (.slice none 0 0) 1 24 (by kernel_rfl) hj hy0' hy1 hy2 rfl (by decide) (.slice oo qs.length ocap) qs'.length (qs'.map (·.1)) rfl (hown.alloc _) ⟨wr.heap.size,0,none⟩ 1 1 [.slice (some ⟨qb,0,none⟩) ps.length qcap] rfl rfl (World.news_of_block (heap_alloc_new wr _)) (fun u hu=>by rw [List.mem_singleton] at hu;rw [hu];rfl) (by decide) (by unfold maxLen;omega) (by omega) (by simp;omega) (wr.heap.size+1) (by simp) ?_)
       intro g5 cap' w5 hown5 hgrow5 hat5 hlt5
       have hal5:Below wr.heap.size wr (wr.alloc (.cells #[.slice (some ⟨qb,0,none⟩) ps.length qcap] 106)):=(Below.refl _ _).alloc zL _
       have HN5:=hide ((ze7 (HGA.out.later hal5) (HPQ.out.below hal5 zL) hown5 hgrow5).mono (nb':=fun _=>eB (D+7) (cc+1)) fun j _=>by
        rw [HEN.out]
        split <;> omega)
       have HB5:=hide (HB.out.trans (zaa hown HB.out.size hgrow5))
       have HQ5:Hid ((qs'++[(Value.slice (some ⟨qb,0,none⟩) ps.length qcap,ps)]).map (·.2)=outN R (cc+1)):=by
        show _=_
        rw [List.map_append,HL.out,HNX.out];rfl
       clear hown hown5 hgrow5 hat5 hlt5 hal5 hj hy0' hy1 hy2 HGA HL HPQ HB
       go_wp2
       go_roundw
       case rel=>exact⟨cc+1,_,by omega,by go_num,HN5,HQ5,HB5⟩
       case measure=>simp [intOf];omega
    ·have hup:upR r cc=r:=if_neg (fun h=>hneg (hsg.2.2 h))
     rw [hup] at HNX
     have hpos:0<r.getD cc 0:=by
      have h1:=hsg.2
      omega
     have HPQ:=hide (HPR.out.mono (show D≤D+7 by omega))
     have HPL:=HRL
     clear hup hsg hne HPR np
     obtain⟨oo,ocap,rfl,hoo⟩:=HG.out.form
     have HOO:=hide hoo
     have HLQ:Hid ((outN R cc).length=qs.length):=by
      have:=congrArg List.length HQ.out
      rw [List.length_map] at this
      exact this.symm
     clear hoo
     obtain⟨wo,rfl⟩:∃ wo:World,wo=wr:=⟨_,rfl⟩
     go_wp2
     go_loopw [20] (fun iv w'=>∃(i:Nat) (qs':List (Value × List Int)),i≤qs.length∧iv=.int .i64 i∧Hid (qs'.length=qs.length)∧Hid (GrowB w' W.heap.size (.slice oo qs'.length ocap) qs' (fun j=>if j<i then E+D+15 else E))∧Hid (qs'.map (·.2)=partL (outN R cc) r cc i)∧Hid (RowR w' (.slice (some ⟨pb,0,none⟩) r.length pcap) r (D+7))∧Hid (Below W.heap.size W w')) (fun iv _=>qs.length-(intOf iv).toNat)
     case atStart=>exact⟨0,qs,Nat.zero_le _,rfl,hide rfl,hide (HG.out.mono fun j _=>by rw [if_neg (Nat.not_lt_zero j)];exact Nat.le_refl _),hide (by rw [zfW];exact HQ.out),HPQ,HB⟩
     case round=>
      clear HG HB HPQ
      obtain⟨i,qs',hi,rfl,HQL',HG,HQ',HPQ,HB⟩:=hrel
      by_cases hil:i<qs.length
      ·obtain⟨g,rfl⟩:=HOO.out (by omega)
       have hij:i<qs'.length:=by have:=HQL'.out;omega
       have hi16:i<20:=by have:=HQL.out;omega
       have hcp:cc<r.length:=by have:=HPL.out;omega
       obtain⟨⟨uv,us⟩,hqi⟩:∃ q,qs'[i]?=some q:=⟨qs'[i],List.getElem?_eq_getElem hij⟩
       have hiL:i<(outN R cc).length:=by have:=HLQ.out;omega
       have hus:(outN R cc)[i]=us:=by
        have h1:(qs'.map (·.2))[i]?=some us:=by rw [List.getElem?_map,hqi];rfl
        rw [HQ'.out,zfU hiL] at h1
        exact zI h1
       have HUS:=hide hus
       have hul:us.length=n:=by rw [← hus];exact zdI HO.out.ech cc _ (List.getElem_mem hiL)
       have HUL:=hide hul
       have HRW:Hid (RowR wr uv us E):=by
        have:=HG.out.row i _ hqi
        rwa [if_neg (Nat.lt_irrefl i)] at this
       obtain⟨ub,ucap,rfl⟩:=HRW.out.form (by omega)
       obtain⟨cg,lg,-,-,-⟩:=HG.out.cell hqi
       obtain⟨_,_,e,lu,su,uo,ul,uc,u0,u1,nu⟩:=HRW.out.at cc (by omega)
       simp only [Value.slice.injEq,Option.some.injEq,Addr.mk.injEq,and_true,true_and] at e
       obtain⟨rfl,rfl⟩:=e
       obtain⟨_,_,e,lp,sp,po,pl,pc,p0,p1,np⟩:=HPQ.out.at cc (by omega)
       simp only [Value.slice.injEq,Option.some.injEq,Addr.mk.injEq,and_true,true_and] at e
       obtain⟨rfl,rfl⟩:=e
       have NU:=hide nu;have NP:=hide np
       have HQI:=hide hqi
       have hcu:cc<us.length:=by omega
       have HUP:Hid (us.length=r.length):=hul.trans HPL.out.symm
       have HLOW:Hid (∀ s:Int,us.getD cc 0/r.getD cc 0=s→List.zipWith (fun p q=>1*p+-s*q) us r=lowRow us r cc):=fun s h=>by
        unfold lowRow;rw [h]
       clear nu np hqi hul hus
       generalize haa:us.getD cc 0=a at *
       generalize hyy:r.getD cc 0=y at *
       have hy0:y≠0:=by omega
       clear haa hyy
       have hst:=QuoGotR.moved E (D+7) a y
       go_wp2_with fail
       refine zab (by kernel_rfl) (by kernel_rfl) (fun L a' w'=>∃(c:Nat→Value) (G:Nat→Nat),a'=(⟨#[sl0,.int .i64 (n:Int),sl2,sl3,sl4,.slice (some ⟨w.heap.size,0,none⟩) n n,sl6,sl7,sl8,sl9,sl10,sl11,sl12,sl13,sl14,sl15,sl16,.slice (some ⟨g,0,none⟩) qs.length ocap,.int .i64 (cc:Int),.slice (some ⟨pb,0,none⟩) r.length pcap,.int .i64 (i:Int),c 15,c 16,sl23,sl24,sl25,sl26,sl27,sl28,sl29,sl30,sl31,sl32,sl33,sl34,sl35,sl36,sl37,sl38,sl39,sl40,sl41,sl42,sl43,sl44,sl45,sl46,sl47,sl48,sl49,sl50,sl51,sl52,sl53,sl54,sl55,sl56,sl57,sl58,sl59,sl60,sl61,sl62,sl63,sl64,sl65,sl66,sl67,sl68,sl69,sl70,sl71,sl72,sl73,sl74,sl75,sl76,sl77,sl78,sl79,sl80,sl81,sl82,sl83,sl84,sl85,sl86,sl87,sl88,sl89,sl90,sl91,sl92,sl93,sl94,sl95,sl96,sl97,sl98,sl99,sl100,sl101,sl102,sl103,.int .i64 (cc:Int),.int .i64 (n:Int),.bool true,u107,u108,.slice (some ⟨w.heap.size,0,none⟩) n n,.int .i64 (cc:Int),.pointer (some ⟨w.heap.size,cc,none⟩),.slice (some ⟨pb,0,none⟩) r.length pcap,.bool false,.slice (some ⟨w.heap.size,0,none⟩) n n,.int .i64 (cc:Int),.pointer (some ⟨w.heap.size,cc,none⟩),.slice (some ⟨pb,0,none⟩) r.length pcap,.slice (some ⟨pb,0,none⟩) r.length pcap,.int .i64 (cc:Int),.pointer (some ⟨pb,cc*2,none⟩),.pointer (some ⟨pb,cc*2,none⟩),.int .i64 sr,.bool false,u124,u125,u126,u127,u128,.int .i64 (i:Int),.slice (some ⟨g,0,none⟩) qs.length ocap,.int .i64 (qs.length:Int),.bool true,u133,u134,c 12,c 0,c 1,c 2,c 3,c 4,c 5,c 6,c 7,c 8,c 9,c 10,c 11,c 13,c 14,u150,u151,u152,u153,u154,u155,u156,u157,u158,u159,u160,u161,u162,u163,u164,u165,sl166],[]⟩:Act)∧TR.Tags (TR.D22 11) (TR.FA22 11 [.slice (some ⟨g,0,none⟩) qs.length ocap,.int .i64 (i:Int),.pointer (some ⟨g,i,none⟩),.slice (some ⟨ub,0,none⟩) us.length ucap,.int .i64 (cc:Int),.pointer (some ⟨ub,cc*2,none⟩),.agg #[.int .i64 su,.slice uo ul uc],.slice (some ⟨pb,0,none⟩) r.length pcap,.int .i64 (cc:Int),.pointer (some ⟨pb,cc*2,none⟩),.agg #[.int .i64 sp,.slice po pl pc]] (QuoGotR E (D+7) a y) (wr).heap.size) (wr) L c w' G) ⟨fun i=>([u136,u137,u138,u139,u140,u141,u142,u143,u144,u145,u146,u147,u135,u148,u149,u21,u22,undef,undef]:List Value).getD i undef,fun _=>0,rfl,TR.Tags.start _ _ _⟩ ?_ ?_
       ·rintro L a' w' i o ⟨c,G,rfl,R⟩ ho hn hdep K hK
        have hi:i<19:=(Array.getElem?_eq_some_iff.1 ho).1
        rcases(by omega:i=0∨i=1∨i=2∨i=3∨i=4∨i=5∨i=6∨i=7∨i=8∨i=9∨i=10∨i=11∨i=12∨i=13∨i=14∨i=15∨i=16∨i=17∨i=18) with rfl | rfl | rfl | rfl | rfl | rfl | rfl | rfl | rfl | rfl | rfl | rfl | rfl | rfl | rfl | rfl | rfl | rfl | rfl
        ·obtain rfl:=zI ho
         have R':=R.plain hn (zN rfl) (TR.FA22.keep hst) (v:=(.slice (some ⟨g,0,none⟩) qs.length ocap)) (zd _ _ _)
         clear R
         go_simp
         exact hK.out _ _ ⟨_,_,by simp [upd],R'⟩
        ·obtain rfl:=zI ho
         have R':=R.plain hn (zN rfl) (TR.FA22.keep hst) (v:=(.int .i64 (i:Int))) (zd _ _ _)
         clear R
         go_simp
         exact hK.out _ _ ⟨_,_,by simp [upd],R'⟩
        ·obtain rfl:=zI ho
         have e0:c 0=(.slice (some ⟨g,0,none⟩) qs.length ocap):=R.facts 0 (hdep ⟨0,.data⟩ (by simp) rfl)
         have e1:c 1=(.int .i64 (i:Int)):=R.facts 1 (hdep ⟨1,.data⟩ (by simp) rfl)
         have R':=R.plain hn (zN rfl) (TR.FA22.keep hst) (v:=(.pointer (some ⟨g,i,none⟩))) (zd _ _ _)
         clear R
         rw [e0,e1]
         go_simp
         exact hK.out _ _ ⟨_,_,by simp [upd,e0,e1],R'⟩
        ·obtain rfl:=zI ho
         have e2:c 2=(.pointer (some ⟨g,i,none⟩)):=R.facts 2 (hdep ⟨2,.data⟩ (by simp) rfl)
         have q0:=(R.below.cell (p:=⟨g,i,none⟩) lg).trans cg
         have R':=R.plain hn (zN rfl) (TR.FA22.keep hst) (v:=(.slice (some ⟨ub,0,none⟩) us.length ucap)) (zd _ _ _)
         clear R
         rw [e2]
         go_simp
         exact hK.out _ _ ⟨_,_,by simp [upd,e2],R'⟩
        ·obtain rfl:=zI ho
         have R':=R.plain hn (zN rfl) (TR.FA22.keep hst) (v:=(.int .i64 (cc:Int))) (zd _ _ _)
         clear R
         go_simp
         exact hK.out _ _ ⟨_,_,by simp [upd],R'⟩
        ·obtain rfl:=zI ho
         have e3:c 3=(.slice (some ⟨ub,0,none⟩) us.length ucap):=R.facts 3 (hdep ⟨3,.data⟩ (by simp) rfl)
         have e4:c 4=(.int .i64 (cc:Int)):=R.facts 4 (hdep ⟨4,.data⟩ (by simp) rfl)
         have R':=R.plain hn (zN rfl) (TR.FA22.keep hst) (v:=(.pointer (some ⟨ub,cc*2,none⟩))) (zd _ _ _)
         clear R
         rw [e3,e4]
         go_simp
         exact hK.out _ _ ⟨_,_,by simp [upd,e3,e4],R'⟩
        ·obtain rfl:=zI ho
         have e5:c 5=(.pointer (some ⟨ub,cc*2,none⟩)):=R.facts 5 (hdep ⟨5,.data⟩ (by simp) rfl)
         have q0:=(R.below.cell (p:=⟨ub,cc*2,none⟩) lu).trans u0
         have q1:=(R.below.cell (p:=⟨ub,cc*2+1,none⟩) lu).trans u1
         have R':=R.plain hn (zN rfl) (TR.FA22.keep hst) (v:=(.agg #[.int .i64 su,.slice uo ul uc])) (zd _ _ _)
         clear R
         rw [e5]
         go_simp
         exact hK.out _ _ ⟨_,_,by simp [upd,e5],R'⟩
        ·obtain rfl:=zI ho
         have R':=R.plain hn (zN rfl) (TR.FA22.keep hst) (v:=(.slice (some ⟨pb,0,none⟩) r.length pcap)) (zd _ _ _)
         clear R
         go_simp
         exact hK.out _ _ ⟨_,_,by simp [upd],R'⟩
        ·obtain rfl:=zI ho
         have R':=R.plain hn (zN rfl) (TR.FA22.keep hst) (v:=(.int .i64 (cc:Int))) (zd _ _ _)
         clear R
         go_simp
         exact hK.out _ _ ⟨_,_,by simp [upd],R'⟩
        ·obtain rfl:=zI ho
         have e7:c 7=(.slice (some ⟨pb,0,none⟩) r.length pcap):=R.facts 7 (hdep ⟨7,.data⟩ (by simp) rfl)
         have e8:c 8=(.int .i64 (cc:Int)):=R.facts 8 (hdep ⟨8,.data⟩ (by simp) rfl)
         have R':=R.plain hn (zN rfl) (TR.FA22.keep hst) (v:=(.pointer (some ⟨pb,cc*2,none⟩))) (zd _ _ _)
         clear R
         rw [e7,e8]
         go_simp
         exact hK.out _ _ ⟨_,_,by simp [upd,e7,e8],R'⟩
        ·obtain rfl:=zI ho
         have e9:c 9=(.pointer (some ⟨pb,cc*2,none⟩)):=R.facts 9 (hdep ⟨9,.data⟩ (by simp) rfl)
         have q0:=(R.below.cell (p:=⟨pb,cc*2,none⟩) lp).trans p0
         have q1:=(R.below.cell (p:=⟨pb,cc*2+1,none⟩) lp).trans p1
         have R':=R.plain hn (zN rfl) (TR.FA22.keep hst) (v:=(.agg #[.int .i64 sp,.slice po pl pc])) (zd _ _ _)
         clear R
         rw [e9]
         go_simp
         exact hK.out _ _ ⟨_,_,by simp [upd,e9],R'⟩
        ·obtain rfl:=zI ho
         have e6:c 6=(.agg #[.int .i64 su,.slice uo ul uc]):=R.facts 6 (hdep ⟨6,.data⟩ (by simp) rfl)
         have e10:c 10=(.agg #[.int .i64 sp,.slice po pl pc]):=R.facts 10 (hdep ⟨10,.data⟩ (by simp) rfl)
         rw [e6,e10]
         go_simp
         refine(zaP w' _ _ a y E (D+7) (NU.out.below R.below zL) (NP.out.below R.below zL) hy0 (by omega) (by omega)).mono ?_
         rintro e wq ⟨vq,vr,s,r',rfl,m1,m2,m3,m4,hb⟩
         have R':=R.call hn (zN rfl) (TR.FA22.keep hst) hb (v:=.tuple #[vq,vr]) (show QuoGotR E (D+7) a y wq (upd c 11 (.tuple #[vq,vr]) 11) from by rw [zd];exact⟨vq,vr,s,r',rfl,m1,m2,m3,m4⟩)
         clear m1 m2 m3 m4 hb
         clear R
         go_wp2_with fail
         exact hK.out _ _ ⟨_,_,by simp [upd,e6,e10],R'⟩
        ·obtain rfl:=zI ho
         have R':=R.plain hn (zO rfl (hdep ⟨_,.data⟩ (by simp) rfl)) (TR.FA22.keep hst) (v:=c 11) (show upd c 12 (c 11) 12=upd c 12 (c 11) 11 from by rw [zd,ze _ _ (by decide)])
         clear R
         go_simp
         exact hK.out _ _ ⟨_,_,by simp [upd],R'⟩
        ·obtain rfl:=zI ho
         have hm:=hdep ⟨12,.data⟩ (by simp) rfl
         have em:c 12=c 11:=R.facts 12 hm
         obtain⟨vq,vr,s,r',ec,nm1,nm2,-⟩:(QuoGotR E (D+7) a y) w' (c 11):=R.facts 11 (R.closed 12 hm 11 (by simp [TR.D22]))
         rw [ec] at em
         have R':=R.plain hn (zO rfl (hdep ⟨_,.data⟩ (by simp) rfl)) (TR.FA22.keep hst) (v:=vq) (show ∃ u1 u2:Value,upd c 13 vq 12=.tuple #[u1,u2]∧upd c 13 vq 13=u1 from⟨vq,vr,by rw [ze _ _ (by decide)];exact em,zd _ _ _⟩)
         clear R ec
         rw [em]
         go_simp
         exact hK.out _ _ ⟨_,_,by simp [upd,em],R'⟩
        ·obtain rfl:=zI ho
         have hm:=hdep ⟨12,.data⟩ (by simp) rfl
         have em:c 12=c 11:=R.facts 12 hm
         obtain⟨vq,vr,s,r',ec,nm1,nm2,-⟩:(QuoGotR E (D+7) a y) w' (c 11):=R.facts 11 (R.closed 12 hm 11 (by simp [TR.D22]))
         rw [ec] at em
         have R':=R.plain hn (zO rfl (hdep ⟨_,.data⟩ (by simp) rfl)) (TR.FA22.keep hst) (v:=vr) (show ∃ u1 u2:Value,upd c 14 vr 12=.tuple #[u1,u2]∧upd c 14 vr 14=u2 from⟨vq,vr,by rw [ze _ _ (by decide)];exact em,zd _ _ _⟩)
         clear R ec
         rw [em]
         go_simp
         exact hK.out _ _ ⟨_,_,by simp [upd,em],R'⟩
        ·obtain rfl:=zI ho
         obtain⟨G',R'⟩:=R.alloc hn (zN rfl) (TR.FA22.keep hst) 17 (fun W' G' h=>show TR.Made W' G' _ 17 (upd c 15 (ptr w'.heap.size) 15) from by rw [zd];exact h)
         clear R
         go_simp
         exact hK.out _ _ ⟨_,G',by simp [upd],R'⟩
        ·obtain rfl:=zI ho
         obtain⟨G',R'⟩:=R.alloc hn (zN rfl) (TR.FA22.keep hst) 18 (fun W' G' h=>show TR.Made W' G' _ 18 (upd c 16 (ptr w'.heap.size) 16) from by rw [zd];exact h)
         clear R
         go_simp
         exact hK.out _ _ ⟨_,G',by simp [upd],R'⟩
        ·obtain rfl:=zI ho
         have hx:=hdep ⟨13,.data⟩ (by simp) rfl
         have hm:=R.closed 13 hx 12 (by simp [TR.D22])
         have em:c 12=c 11:=R.facts 12 hm
         obtain⟨vq,vr,s,r',ec,nm1,nm2,-⟩:(QuoGotR E (D+7) a y) w' (c 11):=R.facts 11 (R.closed 12 hm 11 (by simp [TR.D22]))
         obtain⟨u1,u2,em',ex⟩:∃ u1 u2:Value,c 12=.tuple #[u1,u2]∧c 13=u1:=R.facts 13 hx
         rw [em,ec] at em'
         simp only [Value.tuple.injEq,Array.mk.injEq,List.cons.injEq,and_true] at em'
         obtain⟨rfl,rfl⟩:=em'
         obtain⟨s,hs⟩:=TR.rm_of nm1
         rw [hs] at ex
         obtain⟨B,ea,hC,hB,hG,r,hb⟩:TR.Made w' G _ 17 (c 15):=R.facts 15 (hdep ⟨15,.data⟩ (by simp) rfl)
         have R':=R.store hn (fun j hj=>by simp [TR.D22] at hj;rcases hj with rfl | rfl <;> exact hdep ⟨_,.data⟩ (by simp) rfl) (TR.FA22.keep hst) s hC hB hG hb (fun W' G' h=>show ∃ r:Rm,upd c 17 undef 13=r.v∧TR.Stored W' G' _ 17 (upd c 17 undef 15) r from⟨s,by rw [ze _ _ (by decide)];exact ex,by rw [ze _ _ (by decide),ea];exact h⟩)
         obtain⟨b0,b1,b2,b3⟩:=hb.box
         obtain⟨sn,so,sl,sc⟩:=s
         dsimp only at *
         clear R em ec
         rw [ea,ex]
         go_simp
         exact hK.out _ _ ⟨_,_,by simp [upd,ea,ex],R'⟩
        ·obtain rfl:=zI ho
         have hx:=hdep ⟨14,.data⟩ (by simp) rfl
         have hm:=R.closed 14 hx 12 (by simp [TR.D22])
         have em:c 12=c 11:=R.facts 12 hm
         obtain⟨vq,vr,s,r',ec,nm1,nm2,-⟩:(QuoGotR E (D+7) a y) w' (c 11):=R.facts 11 (R.closed 12 hm 11 (by simp [TR.D22]))
         obtain⟨u1,u2,em',ex⟩:∃ u1 u2:Value,c 12=.tuple #[u1,u2]∧c 14=u2:=R.facts 14 hx
         rw [em,ec] at em'
         simp only [Value.tuple.injEq,Array.mk.injEq,List.cons.injEq,and_true] at em'
         obtain⟨rfl,rfl⟩:=em'
         obtain⟨s,hs⟩:=TR.rm_of nm2
         rw [hs] at ex
         obtain⟨B,ea,hC,hB,hG,r,hb⟩:TR.Made w' G _ 18 (c 16):=R.facts 16 (hdep ⟨16,.data⟩ (by simp) rfl)
         have R':=R.store hn (fun j hj=>by simp [TR.D22] at hj;rcases hj with rfl | rfl <;> exact hdep ⟨_,.data⟩ (by simp) rfl) (TR.FA22.keep hst) s hC hB hG hb (fun W' G' h=>show ∃ r:Rm,upd c 18 undef 14=r.v∧TR.Stored W' G' _ 18 (upd c 18 undef 16) r from⟨s,by rw [ze _ _ (by decide)];exact ex,by rw [ze _ _ (by decide),ea];exact h⟩)
         obtain⟨b0,b1,b2,b3⟩:=hb.box
         obtain⟨sn,so,sl,sc⟩:=s
         dsimp only at *
         clear R em ec
         rw [ea,ex]
         go_simp
         exact hK.out _ _ ⟨_,_,by simp [upd,ea,ex],R'⟩
       ·rintro L a' w2 ⟨c2,G,rfl,R'⟩ hall
        obtain⟨⟨sn,so,sl,sc⟩,r2',Q1,Q2,⟨vq,vr,s,r',ec,N1,-,hps,hleft⟩,e13,e14,l1,l2,lq,l4,d12,x1,-,hb2⟩:=R'.fin22 (fun i hi=>hall i hi)
        simp only [Value.tuple.injEq,Array.mk.injEq,List.cons.injEq,and_true] at ec
        obtain⟨rfl,-⟩:=ec
        have HLO:=hide (HLOW.out s (zbC hpos hps hleft))
        have NQ2:=hide N1
        have a0:=(hb2.cell (p:=⟨g,i,none⟩) lg).trans cg
        have lg2:=zT lg hb2.size
        obtain⟨a1,a2,-,-⟩:=x1.box
        have HU2:=hide (HRW.out.below hb2 zL)
        have HP2:=hide (HPQ.out.below hb2 zL)
        have HG2:=hide (HG.out.later hb2)
        have HB2:=hide (HB.out.trans (hb2.mono HB.out.size))
        clear R' hall hst N1 hps hleft l1 l2 l4 d12 hb2 x1 u0 u1 p0 p1 cg NU NP HRW HPQ HG HB HLOW
        dsimp only at *
        rw [e13,e14]
        clear e13 e14
        go_wp2_with fail
        refine zw (S:=(fun w'=>w'.cell? ⟨g,i,none⟩=some (.slice (some ⟨ub,0,none⟩) us.length ucap)∧w'.cell? ⟨Q1,0,none⟩=some (.int .i64 sn)∧w'.cell? ⟨Q1,1,none⟩=some (.slice so sl sc))) (k:=12) (by kernel_rfl) (by(try dsimp only);go_keep) (fun hHeld=>?_)
        refine zf 0 150 [11,12] ?_
        try simp only [zA]
        refine zf 1 151 [11,12] ?_
        try simp only [zA]
        refine zf 3 153 [5,6,10,12] ?_
        try simp only [zA]
        refine zf 4 154 [5,6,10,12] ?_
        try simp only [zA]
        refine zf 5 155 [6,10,12] ?_
        try simp only [zA]
        refine zf 6 156 [10,12] ?_
        try simp only [zA]
        refine zf 7 157 [8,10,12] ?_
        try simp only [zA]
        refine zf 9 159 [10,12] ?_
        try simp only [zA]
        refine zg 2 (by kernel_rfl) rfl (fun K hK=>?_)
        go_simp
        (refine(z8 _ 1 (by decide) (by decide)).mono ?_;rintro e w3 ⟨r3,rfl,hr3,hb⟩;have b0:=(hb.cell (p:=⟨g,i,none⟩) lg2).trans a0;have b1:=(hb.cell (p:=⟨Q1,0,none⟩) lq).trans a1;have b2:=(hb.cell (p:=⟨Q1,1,none⟩) lq).trans a2;have HW3:Hid (Below w2.heap.size w2 w3):=((Below.refl w2.heap.size w2).drew).trans hb;have hs3:w2.heap.size≤w3.heap.size:=HW3.out.size;have NO3:=hide hr3;have NQ3:=hide (NQ2.out.below HW3.out zL);clear hb hr3)
        go_wp2_with fail
        refine hK.out _ _ (fun _=>by(try dsimp only);go_keep) ?_
        clear hK K
        try simp only [zA]
        refine zg 8 (by kernel_rfl) rfl (fun K hK=>?_)
        go_simp
        (refine(zaC _ _ s (E+6) (by exact NQ3.out)).mono ?_;rintro e w4 ⟨r4,rfl,hr4,hb⟩;have e0:=(hb.cell (p:=⟨g,i,none⟩) (zT lg2 hs3)).trans b0;have e1:=(hb.cell (p:=⟨Q1,0,none⟩) (zT lq hs3)).trans b1;have e2:=(hb.cell (p:=⟨Q1,1,none⟩) (zT lq hs3)).trans b2;have HW4:=hide (HW3.out.trans (hb.mono HW3.out.size));have hs4:w2.heap.size≤w4.heap.size:=HW4.out.size;have NM4:=hide hr4;have NO4:=hide (NO3.out.below hb zL);clear hb hr4)
        go_wp2_with fail
        refine hK.out _ _ (fun _=>by(try dsimp only);go_keep) ?_
        clear hK K
        try simp only [zA]
        refine zg 10 (by kernel_rfl) rfl (fun K hK=>?_)
        go_simp
        (refine(zbM w4 _ _ _ _ 1 (-s) us r 5 E (E+6) (D+7) (E+D+14) (by exact NO4.out) (by exact HU2.out.below HW4.out zL) (by exact NM4.out) (by exact HP2.out.below HW4.out zL) HUP.out (by have:=HUL.out;omega) (by omega) (by omega) (by omega)).mono ?_;rintro e w5 ⟨v5,rfl,hr5,hb⟩;have d0:=(hb.cell (p:=⟨g,i,none⟩) (zT lg2 hs4)).trans e0;have d1:=(hb.cell (p:=⟨Q1,0,none⟩) (zT lq hs4)).trans e1;have d2:=(hb.cell (p:=⟨Q1,1,none⟩) (zT lq hs4)).trans e2;have HW5:=hide (HW4.out.trans (hb.mono HW4.out.size));have HR5:=hide hr5;clear hb hr5)
        go_wp2_with fail
        refine hK.out _ _ (fun _=>by(try dsimp only);go_keep) ?_
        clear hK K
        try simp only [zA]
        refine zg 11 (by kernel_rfl) rfl (fun K hK=>?_)
        go_simp
        refine hK.out _ _ (fun _=>by(try dsimp only);go_keep) ?_
        clear hK K
        try simp only [zA]
        have hv5:∃ b5 c5,v5=.slice (some ⟨b5,0,none⟩) (lowRow us r cc).length c5:=by
         have hl5:(lowRow us r cc).length=us.length:=zbY HUP.out cc
         have:=HR5.out
         rw [HLO.out] at this
         exact this.form (by rw [hl5];have:=HUL.out;omega)
        obtain⟨b5,c5,rfl⟩:=hv5
        have HG5:=hide (HG2.out.later HW5.out)
        have HN5:=hide (HG5.out.set (j:=i) (by omega) (by have:=HR5.out;rw [HLO.out] at this;exact this))
        obtain⟨-,lg5,bg5,fg5,cs5,hcs5⟩:=HG5.out.cell HQI.out
        have HP5:=hide ((HP2.out.below HW5.out zL).setTyped hcs5 (by decide) (by decide) i (.slice (some ⟨b5,0,none⟩) (lowRow us r cc).length c5))
        have HB5:=hide ((HB2.out.trans (HW5.out.mono HB2.out.size)).setCell (p:=⟨g,i,none⟩) bg5 (.slice (some ⟨b5,0,none⟩) (lowRow us r cc).length c5))
        clear hcs5
        refine zg 12 (by kernel_rfl) rfl (fun K hK=>?_)
        go_simp
        refine hK.out _ _ (fun h=>absurd h (by decide)) ?_
        clear hK K
        try simp only [zA]
        refine zt (by kernel_rfl) ?_
        have HQ5:Hid ((qs'.set i (Value.slice (some ⟨b5,0,none⟩) (lowRow us r cc).length c5,lowRow us r cc)).map (·.2)=partL (outN R cc) r cc (i+1)):=by
         show _=_
         rw [List.map_set,HQ'.out,← zfV hiL,HUS.out]
        have HL5:Hid ((qs'.set i (Value.slice (some ⟨b5,0,none⟩) (lowRow us r cc).length c5,lowRow us r cc)).length=qs.length):=by
         show _=_
         rw [List.length_set];exact HQL'.out
        have HN6:=hide (HN5.out.mono (nb':=fun j=>if j<i+1 then E+D+15 else E) fun j _=>by
         by_cases h1:j=i
         ·rw [if_pos h1,if_pos (by omega)];exact Nat.le_refl _
         ·rw [if_neg h1]
          by_cases h2:j<i
          ·rw [if_pos h2,if_pos (by omega)];exact Nat.le_refl _
          ·rw [if_neg h2,if_neg (by omega)];exact Nat.le_refl _)
        clear a0 a1 a2 b0 b1 b2 e0 e1 e2 d0 d1 d2 HG2 HG5 HN5 HR5 HU2 HP2 HB2
        go_wp2
        go_roundw
        case rel=>exact⟨i+1,_,by omega,by go_num,HL5,HN6,HQ5,HP5,HB5⟩
        case measure=>simp [intOf];omega
      ·obtain rfl:i=qs.length:=by omega
       have HL:Hid (qs'.map (·.2)=(outN R cc).map (fun u=>lowRow u r cc)):=by
        show _=_
        rw [HQ'.out,← HLQ.out,zfT]
       have HGA:=hide (HG.out.mono (nb':=fun _=>E+D+15) fun j hj=>by rw [if_pos (by have:=HQL'.out;omega)];exact Nat.le_refl _)
       rw [HQL'.out] at HGA
       have hown:=HGA.out.own
       have hbs2:=HB.out.size
       have hj:=HJ.out;have hy0':=HY0.out;have hy1:=HY1.out;have hy2:=HY2.out
       have hqn:qs'.length≤20:=by have:=HQL'.out;have:=HQL.out;omega
       have HQQ:=HQL'
       clear HG HQ'
       go_wp2_with (at_builtin;refine wpList_append_lies _ rfl _ _ 43 rfl W.heap.size 106 j0 (.slice none 0 0) 1 24 (by kernel_rfl) hj hy0' hy1 hy2 rfl (by decide) (.slice oo qs.length ocap) qs'.length (qs'.map (·.1)) rfl (hown.alloc _) ⟨wr.heap.size,0,none⟩ 1 1 [.slice (some ⟨pb,0,none⟩) r.length pcap] rfl rfl (World.news_of_block (heap_alloc_new wr _)) (fun u hu=>by rw [List.mem_singleton] at hu;rw [hu];rfl) (by decide) (by unfold maxLen;omega) (by omega) (by simp;omega) (wr.heap.size+1) (by simp) ?_)
       intro g5 cap' w5 hown5 hgrow5 hat5 hlt5
       have hal5:Below wr.heap.size wr (wr.alloc (.cells #[.slice (some ⟨pb,0,none⟩) r.length pcap] 106)):=(Below.refl _ _).alloc zL _
       have HN5:=hide ((ze7 (HGA.out.later hal5) (HPQ.out.below hal5 zL) hown5 hgrow5).mono (nb':=fun _=>eB (D+7) (cc+1)) fun j _=>by
        rw [HEN.out]
        split <;> omega)
       have HB5:=hide (HB.out.trans (zaa hown HB.out.size hgrow5))
       have HQ5:Hid ((qs'++[(Value.slice (some ⟨pb,0,none⟩) r.length pcap,r)]).map (·.2)=outN R (cc+1)):=by
        show _=_
        rw [List.map_append,HL.out,HNX.out];rfl
       clear hown hown5 hgrow5 hat5 hlt5 hal5 hj hy0' hy1 hy2 HGA HL HPQ HB
       go_wp2
       go_roundw
       case rel=>exact⟨cc+1,_,by omega,by go_num,HN5,HQ5,HB5⟩
       case measure=>simp [intOf];omega
  ·obtain rfl:cc=n:=by omega
   obtain⟨oo,ocap,rfl,-⟩:=HG.out.form
   have HM:=hide (HG.out.mat (d:=eB (D+7) cc) fun _ _=>Nat.le_refl _)
   rw [HQ.out] at HM
   have HFO:=hide (zj2 HO.out.ech HO.out.nz cc zL)
   have HAL:=hide ((zj1 HO.out.ech).trans HO.out.gen)
   have HBB:=hide (HO.out.st.below.trans (HB.out.mono HO.out.st.below.size))
   clear HG HQ HB HO HROW
   go_wp2
   go_ret
   obtain⟨p,hp,-⟩:=HFO.out
   exact⟨_,_,p,rfl,HM.out,zfQ R cc,hp,HAL.out,HBB.out⟩
end Go.Proofs.YtdedolkgcdlmeaaGreatDoor
