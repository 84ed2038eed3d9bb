import Derived.Test.YtdedolkgcdlmeaaGreatDoorBoxB
set_option maxRecDepth 100000
set_option maxHeartbeats 6400000
set_option linter.unusedSimpArgs false
namespace Go.Proofs.YtdedolkgcdlmeaaGreatDoor
open Go.RowKit Limbs Digs
variable {m i:Nat}
def IndexRPost (w:World)(n:Nat)(hs ks:List (List Int))(p:Nat→Nat)(N:Nat)(e:Ending)(w':World):Prop:=
 Below w.heap.size w w'∧(((¬ ∀ us∈hs,Gens n (InL ks) us)∧e=.returned (.tuple #[.agg #[.int .i64 0,.slice none 0 0],.int .i64 12])) ∨
  ((∀ us∈hs,Gens n (InL ks) us)∧hs.length<ks.length∧e=.returned (.tuple #[.agg #[.int .i64 0,.slice none 0 0],.int .i64 13])) ∨
  ((∀ us∈hs,Gens n (InL ks) us)∧hs.length=ks.length∧∃ v,e=.returned (.tuple #[v,.int .i64 0])∧NumR w' v (prodN hs.length (fun i=>ent hs i (p i)/ent ks i (p i))) (5+4 *(N+8))))
theorem ziY (w:World)(vA vB:Value)(n N:Nat)(hs ks:List (List Int))(p pk:Nat→Nat)(ha:MatR w vA hs N)(hF:FormL n hs p)(hb:MatR w vB ks N)(G:FormL n ks pk)(hn:n≤4)(hN:N≤10000):
  Calls Tryz.prog 43 #[vA,vB] w fun e w'=>IndexRPost w n hs ks p N e w':=by
 have HA:=hide ha;have HBM:=hide hb;have HG:=hide G;have HF:=hide hF
 have hle:=zbS hF
 have HB0:=hide (zR w (.cells #[.int .i64 0,.slice none 0 0] 40))
 have HX0:Hid (BoxR (w.alloc (.cells #[.int .i64 0,.slice none 0 0] 40)) w.heap.size (.int .i64 0) (.slice none 0 0)):=zp w _ _ _ rfl
 have HIN:=hide (fun r hr=>zfj (w.alloc (.cells #[.int .i64 0,.slice none 0 0] 40)) vA vB n N hs ks pk (ha.below HB0.out zL) hF.len (hb.below HB0.out zL) G hn hN (by omega) r hr)
 obtain⟨ao,acap,rfl,-,-⟩:=ha
 obtain⟨bo,bcap,rfl,-,-⟩:=hb
 clear G hF
 by_cases hin:∀ us∈hs,Gens n (InL ks) us
 ·have HIT:=hide (HIN.out true ⟨fun _=>hin,fun _=>rfl⟩)
  have HINS:=hide hin
  have hsh:=zff HF.out HG.out hin
  clear HIN hin
  go_enter Tryz.func43,Tryz.ntmps43
  go_wp2_with fail
  generalize (w.alloc (.cells #[.int .i64 0,.slice none 0 0] 40))=W0 at *
  refine HIT.out.mono ?_
  rintro e w1 ⟨rfl,hb1⟩
  have HX1:=hide (HX0.out.later hb1 HX0.out.lt)
  have HB1:=hide (HB0.out.trans (hb1.mono HB0.out.size))
  clear hb1 HIT HX0 HB0
  by_cases hlt:hs.length<ks.length
  ·have g1:decide ((hs.length:Int)<(ks.length:Int))=true:=decide_eq_true (by omega)
   have HB2:=hide (zB HB1.out (C:=w.heap.size) zL (.int .i64 0) (.slice none 0 0))
   have Z:=hide (HX1.out.set (.int .i64 0) (.slice none 0 0)).box
   obtain⟨x0,x1,x2,x3⟩:=HX1.out.box
   obtain⟨z0,z1,-,-⟩:=Z.out
   go_wp2
   exact bodyPost_ret (v:=.tuple #[.agg #[.int .i64 0,.slice none 0 0],.int .i64 13]) (by simp [results,Tryz.results43,go_sem,z0,z1]) rfl ⟨HB2.out,.inr (.inl ⟨HINS.out,hlt,rfl⟩)⟩
  ·have g1:decide ((hs.length:Int)<(ks.length:Int))=false:=decide_eq_false (by omega)
   have hl:hs.length=ks.length:=by omega
   have HPS:=hide (zfZ HF.out HG.out HINS.out hl)
   have HLE:=hide hl
   clear hl
   go_wp2_with fail
   refine(z8 w1 1 (by decide) (by decide)).mono ?_
   rintro e w2 ⟨v2,rfl,hv2,hb2⟩
   obtain⟨⟨ls,lO,lL,lC⟩,rfl⟩:=hv2.rm
   try dsimp only at hv2
   have hN2:=zR w2 (.cells #[.int .i64 ls,.slice lO lL lC] 40)
   have HLV:Hid (∃ r:Rm,RVar (w2.alloc (.cells #[.int .i64 ls,.slice lO lL lC] 40)) w2.heap.size r (prodN 0 (fun i=>ent hs i (p i)/ent ks i (p i))) (5+0 *(N+8))):=⟨⟨ls,lO,lL,lC⟩,zp w2 _ _ _ rfl,by rw [Nat.zero_mul];exact hv2.below hN2 zL⟩
   have HX2:=hide (HX1.out.later (hb2.trans (hN2.mono hb2.size)) HX1.out.lt)
   have HB2:=hide (HB1.out.trans ((hb2.trans (hN2.mono hb2.size)).mono HB1.out.size))
   have HLB:Hid (w.heap.size<w2.heap.size):=zT HX1.out.lt hb2.size
   clear hv2 hb2 hN2 HX1 HB1
   go_wp2
   generalize (w2.alloc (.cells #[.int .i64 ls,.slice lO lL lC] 40))=W3 at *
   generalize w2.heap.size=LB at *
   go_loopw [8] (fun i wr=>∃ k:Nat,k≤hs.length∧i=.int .i64 k∧Hid (∃ r:Rm,RVar wr LB r (prodN k (fun i=>ent hs i (p i)/ent ks i (p i))) (5+k *(N+8)))∧Hid (BoxR wr w.heap.size (.int .i64 0) (.slice none 0 0))∧Hid (Below w.heap.size w wr)) (fun i _=>hs.length-(intOf i).toNat)
   case atStart=>exact⟨0,Nat.zero_le _,rfl,HLV,HX2,HB2⟩
   case round=>
    clear HLV HX2 HB2
    obtain⟨k,hk,rfl,HLV,HX,HBE⟩:=hrel
    by_cases hkl:k<hs.length
    ·have hkk:k<ks.length:=by have:=HLE.out;omega
     obtain⟨_,_,e,-,hc⟩:=HA.out
     simp only [Value.slice.injEq,true_and] at e
     obtain⟨rfl,rfl⟩:=e
     obtain⟨ma,rfl,hma,hc⟩:=hc (by omega)
     obtain⟨ua,ca0,hua⟩:=hc k hs[k] (by simp [hkl])
     clear hc
     obtain⟨_,_,e,-,hc⟩:=HBM.out
     simp only [Value.slice.injEq,true_and] at e
     obtain⟨rfl,rfl⟩:=e
     obtain⟨mb,rfl,hmb,hc⟩:=hc (by omega)
     obtain⟨ub,cb0,hub⟩:=hc k ks[k] (by simp [hkk])
     clear hc
     have hral:hs[k].length=n:=HF.out.len _ (List.getElem_mem hkl)
     have hrbl:ks[k].length=n:=HG.out.len _ (List.getElem_mem hkk)
     have hpk:p k<n:=HF.out.form.lt k hkl
     have HZP:Hid (∀ b,b<p k→hs[k].getD b 0=0):=fun b hb=>by
      have h:=HF.out.form.zero k b hkl hb
      rw [zk hkl] at h
      exact h
     have HPOS:Hid (0<hs[k].getD (p k) 0):=by
      have h:=HF.out.form.pos k hkl
      rw [zk hkl] at h
      exact h
     have HPOB:Hid (0<ks[k].getD (p k) 0):=by
      have h:=HG.out.form.pos k hkk
      rw [zk hkk,← (HPS.out k hkl).1] at h
      exact h
     have HPR:Hid (prodN (k+1) (fun i=>ent hs i (p i)/ent ks i (p i))=prodN k (fun i=>ent hs i (p i)/ent ks i (p i)) *(hs[k].getD (p k) 0/ks[k].getD (p k) 0)):=by
      show _=_
      rw [prodN]
      unfold ent
      rw [zk hkl,zk hkk]
     have HUA:=hide (hua.below HBE.out zL);have HUB:=hide (hub.below HBE.out zL)
     generalize hpr':prodN (k+1) (fun i=>ent hs i (p i)/ent ks i (p i))=pr' at *
     have HPE:=hide hpr'
     clear hpr'
     generalize hs[k]=ra at *
     generalize ks[k]=rb at *
     generalize p k=pp at *
     have HRAL:=hide hral;have HRBL:=hide hrbl
     clear hral hrbl
     obtain⟨rao,racap,rfl,-,-⟩:=hua
     obtain⟨rbo,rbcap,rfl,-,-⟩:=hub
     have ca:=(HBE.out.cell (p:=⟨ma,k,none⟩) hma).trans ca0
     have cb:=(HBE.out.cell (p:=⟨mb,k,none⟩) hmb).trans cb0
     clear ca0 cb0
     go_wp2
     obtain⟨wo,rfl⟩:∃ wo:World,wo=wr:=⟨_,rfl⟩
     go_loopw [9] (fun i wq=>∃ q:Nat,q≤pp∧i=.int .i64 q∧wq=wo) (fun i _=>pp-(intOf i).toNat)
     case atStart=>exact⟨0,Nat.zero_le _,rfl,rfl⟩
     case round=>
      obtain⟨q,hq,rfl,hwq⟩:=hrel
      subst hwq
      obtain⟨ab,_,e,la,ss,so,sl,sc,a0,a1,na⟩:=HUA.out.at q (by have:=HRAL.out;omega)
      simp only [Value.slice.injEq,true_and] at e
      obtain⟨rfl,rfl⟩:=e
      have hqa:q<ra.length:=by have:=HRAL.out;omega
      have hqb:q<rb.length:=by have:=HRBL.out;omega
      by_cases hql:q<pp
      ·have hs0:ss=0:=na.sgn0.1.2 (HZP.out q hql)
       subst hs0
       clear na
       go_wp2
       go_roundw
       case rel=>exact⟨q+1,by omega,by go_num,by first | rfl | trivial⟩
       case measure=>simp [intOf];omega
      ·obtain rfl:q=pp:=by omega
       have hs0:¬(ss=0):=fun h=>by have h1:=na.sgn0.1.1 h;have h2:=HPOS.out;omega
       have hs1:(ss==0)=false:=beq_eq_false_iff_ne.2 hs0
       obtain⟨bb,_,e,lb,ts,to,tl,tc,b0,b1,nb⟩:=HUB.out.at q (by have:=HRBL.out;omega)
       simp only [Value.slice.injEq,true_and] at e
       obtain⟨rfl,rfl⟩:=e
       have NA:=hide na;have NB:=hide nb
       have lma:ma<wr.heap.size:=zT hma HBE.out.size
       have lmb:mb<wr.heap.size:=zT hmb HBE.out.size
       clear na nb HZP hs0
       generalize ra.getD q 0=x at *
       generalize rb.getD q 0=y at *
       have hy0:y≠0:=fun h=>by have:=HPOB.out;omega
       have hst:=QuoGotR.moved N N x y
       go_wp2_with fail
       refine zab (by kernel_rfl) (by kernel_rfl) (fun L a' w'=>∃(c:Nat→Value) (G:Nat→Nat),a'=(⟨#[.slice (some ⟨ma,0,none⟩) hs.length acap,.slice (some ⟨mb,0,none⟩) ks.length bcap,undef,undef,.pointer (some ⟨w.heap.size,0,none⟩),.int .i64 0,.bool true,.pointer (some ⟨LB,0,none⟩),.int .i64 (k:Int),.int .i64 (q:Int),c 18,c 19,.slice (some ⟨ma,0,none⟩) hs.length acap,.slice (some ⟨mb,0,none⟩) ks.length bcap,.bool true,.bool true,.bool false,undef,.slice (some ⟨ma,0,none⟩) hs.length acap,.int .i64 (hs.length:Int),.slice (some ⟨mb,0,none⟩) ks.length bcap,.int .i64 (ks.length:Int),.bool false,undef,.agg #[.int .i64 ls,.slice lO lL lC],.int .i64 (k:Int),.slice (some ⟨ma,0,none⟩) hs.length acap,.int .i64 (hs.length:Int),.bool true,u29,u30,.slice (some ⟨ma,0,none⟩) hs.length acap,.int .i64 (k:Int),.pointer (some ⟨ma,k,none⟩),.slice (some ⟨ab,0,none⟩) ra.length racap,.int .i64 (q:Int),.pointer (some ⟨ab,q*2,none⟩),.pointer (some ⟨ab,q*2,none⟩),.int .i64 ss,.bool false,u40,u41,c 15,c 0,c 1,c 2,c 3,c 4,c 5,c 6,c 7,c 8,c 9,c 10,c 11,c 12,c 13,c 14,c 16,c 17,u60,u61,u62,undef],[]⟩:Act)∧TR.Tags (TR.D22 14) (TR.FA22 14 [.slice (some ⟨ma,0,none⟩) hs.length acap,.int .i64 (k:Int),.pointer (some ⟨ma,k,none⟩),.slice (some ⟨ab,0,none⟩) ra.length racap,.int .i64 (q:Int),.pointer (some ⟨ab,q*2,none⟩),.agg #[.int .i64 ss,.slice so sl sc],.slice (some ⟨mb,0,none⟩) ks.length bcap,.int .i64 (k:Int),.pointer (some ⟨mb,k,none⟩),.slice (some ⟨bb,0,none⟩) rb.length rbcap,.int .i64 (q:Int),.pointer (some ⟨bb,q*2,none⟩),.agg #[.int .i64 ts,.slice to tl tc]] (QuoGotR N N x y) (wr).heap.size) (wr) L c w' G) ⟨fun i=>([u43,u44,u45,u46,u47,u48,u49,u50,u51,u52,u53,u54,u55,u56,u57,u42,u58,u59,u10,u11,undef,undef]:List Value).getD i undef,fun _=>0,rfl,TR.Tags.start _ _ _⟩ ?_ ?_
       ·rintro L a' w' i o ⟨c,G,rfl,R⟩ ho hn hdep K hK
        have hi:i<22:=(Array.getElem?_eq_some_iff.1 ho).1
        rcases(by omega:i=0∨i=1∨i=2∨i=3∨i=4∨i=5∨i=6∨i=7∨i=8∨i=9∨i=10∨i=11∨i=12∨i=13∨i=14∨i=15∨i=16∨i=17∨i=18∨i=19∨i=20∨i=21) with rfl | rfl | rfl | rfl | rfl | rfl | rfl | rfl | rfl | rfl | rfl | rfl | rfl | rfl | rfl | rfl | rfl | rfl | rfl | rfl | rfl | rfl
        ·obtain rfl:=zI ho
         have R':=R.plain hn (zN rfl) (TR.FA22.keep hst) (v:=(.slice (some ⟨ma,0,none⟩) hs.length acap)) (zd _ _ _)
         clear R
         go_simp
         exact hK.out _ _ ⟨_,_,by simp [upd],R'⟩
        ·obtain rfl:=zI ho
         have R':=R.plain hn (zN rfl) (TR.FA22.keep hst) (v:=(.int .i64 (k:Int))) (zd _ _ _)
         clear R
         go_simp
         exact hK.out _ _ ⟨_,_,by simp [upd],R'⟩
        ·obtain rfl:=zI ho
         have e0:c 0=(.slice (some ⟨ma,0,none⟩) hs.length acap):=R.facts 0 (hdep ⟨0,.data⟩ (by simp) rfl)
         have e1:c 1=(.int .i64 (k:Int)):=R.facts 1 (hdep ⟨1,.data⟩ (by simp) rfl)
         have R':=R.plain hn (zN rfl) (TR.FA22.keep hst) (v:=(.pointer (some ⟨ma,k,none⟩))) (zd _ _ _)
         clear R
         rw [e0,e1]
         go_simp
         exact hK.out _ _ ⟨_,_,by simp [upd,e0,e1],R'⟩
        ·obtain rfl:=zI ho
         have e2:c 2=(.pointer (some ⟨ma,k,none⟩)):=R.facts 2 (hdep ⟨2,.data⟩ (by simp) rfl)
         have q0:=(R.below.cell (p:=⟨ma,k,none⟩) lma).trans ca
         have R':=R.plain hn (zN rfl) (TR.FA22.keep hst) (v:=(.slice (some ⟨ab,0,none⟩) ra.length racap)) (zd _ _ _)
         clear R
         rw [e2]
         go_simp
         exact hK.out _ _ ⟨_,_,by simp [upd,e2],R'⟩
        ·obtain rfl:=zI ho
         have R':=R.plain hn (zN rfl) (TR.FA22.keep hst) (v:=(.int .i64 (q:Int))) (zd _ _ _)
         clear R
         go_simp
         exact hK.out _ _ ⟨_,_,by simp [upd],R'⟩
        ·obtain rfl:=zI ho
         have e3:c 3=(.slice (some ⟨ab,0,none⟩) ra.length racap):=R.facts 3 (hdep ⟨3,.data⟩ (by simp) rfl)
         have e4:c 4=(.int .i64 (q:Int)):=R.facts 4 (hdep ⟨4,.data⟩ (by simp) rfl)
         have R':=R.plain hn (zN rfl) (TR.FA22.keep hst) (v:=(.pointer (some ⟨ab,q*2,none⟩))) (zd _ _ _)
         clear R
         rw [e3,e4]
         go_simp
         exact hK.out _ _ ⟨_,_,by simp [upd,e3,e4],R'⟩
        ·obtain rfl:=zI ho
         have e5:c 5=(.pointer (some ⟨ab,q*2,none⟩)):=R.facts 5 (hdep ⟨5,.data⟩ (by simp) rfl)
         have q0:=(R.below.cell (p:=⟨ab,q*2,none⟩) la).trans a0
         have q1:=(R.below.cell (p:=⟨ab,q*2+1,none⟩) la).trans a1
         have R':=R.plain hn (zN rfl) (TR.FA22.keep hst) (v:=(.agg #[.int .i64 ss,.slice so sl sc])) (zd _ _ _)
         clear R
         rw [e5]
         go_simp
         exact hK.out _ _ ⟨_,_,by simp [upd,e5],R'⟩
        ·obtain rfl:=zI ho
         have R':=R.plain hn (zN rfl) (TR.FA22.keep hst) (v:=(.slice (some ⟨mb,0,none⟩) ks.length bcap)) (zd _ _ _)
         clear R
         go_simp
         exact hK.out _ _ ⟨_,_,by simp [upd],R'⟩
        ·obtain rfl:=zI ho
         have R':=R.plain hn (zN rfl) (TR.FA22.keep hst) (v:=(.int .i64 (k:Int))) (zd _ _ _)
         clear R
         go_simp
         exact hK.out _ _ ⟨_,_,by simp [upd],R'⟩
        ·obtain rfl:=zI ho
         have e7:c 7=(.slice (some ⟨mb,0,none⟩) ks.length bcap):=R.facts 7 (hdep ⟨7,.data⟩ (by simp) rfl)
         have e8:c 8=(.int .i64 (k:Int)):=R.facts 8 (hdep ⟨8,.data⟩ (by simp) rfl)
         have R':=R.plain hn (zN rfl) (TR.FA22.keep hst) (v:=(.pointer (some ⟨mb,k,none⟩))) (zd _ _ _)
         clear R
         rw [e7,e8]
         go_simp
         exact hK.out _ _ ⟨_,_,by simp [upd,e7,e8],R'⟩
        ·obtain rfl:=zI ho
         have e9:c 9=(.pointer (some ⟨mb,k,none⟩)):=R.facts 9 (hdep ⟨9,.data⟩ (by simp) rfl)
         have q0:=(R.below.cell (p:=⟨mb,k,none⟩) lmb).trans cb
         have R':=R.plain hn (zN rfl) (TR.FA22.keep hst) (v:=(.slice (some ⟨bb,0,none⟩) rb.length rbcap)) (zd _ _ _)
         clear R
         rw [e9]
         go_simp
         exact hK.out _ _ ⟨_,_,by simp [upd,e9],R'⟩
        ·obtain rfl:=zI ho
         have R':=R.plain hn (zN rfl) (TR.FA22.keep hst) (v:=(.int .i64 (q:Int))) (zd _ _ _)
         clear R
         go_simp
         exact hK.out _ _ ⟨_,_,by simp [upd],R'⟩
        ·obtain rfl:=zI ho
         have e10:c 10=(.slice (some ⟨bb,0,none⟩) rb.length rbcap):=R.facts 10 (hdep ⟨10,.data⟩ (by simp) rfl)
         have e11:c 11=(.int .i64 (q:Int)):=R.facts 11 (hdep ⟨11,.data⟩ (by simp) rfl)
         have R':=R.plain hn (zN rfl) (TR.FA22.keep hst) (v:=(.pointer (some ⟨bb,q*2,none⟩))) (zd _ _ _)
         clear R
         rw [e10,e11]
         go_simp
         exact hK.out _ _ ⟨_,_,by simp [upd,e10,e11],R'⟩
        ·obtain rfl:=zI ho
         have e12:c 12=(.pointer (some ⟨bb,q*2,none⟩)):=R.facts 12 (hdep ⟨12,.data⟩ (by simp) rfl)
         have q0:=(R.below.cell (p:=⟨bb,q*2,none⟩) lb).trans b0
         have q1:=(R.below.cell (p:=⟨bb,q*2+1,none⟩) lb).trans b1
         have R':=R.plain hn (zN rfl) (TR.FA22.keep hst) (v:=(.agg #[.int .i64 ts,.slice to tl tc])) (zd _ _ _)
         clear R
         rw [e12]
         go_simp
         exact hK.out _ _ ⟨_,_,by simp [upd,e12],R'⟩
        ·obtain rfl:=zI ho
         have e6:c 6=(.agg #[.int .i64 ss,.slice so sl sc]):=R.facts 6 (hdep ⟨6,.data⟩ (by simp) rfl)
         have e13:c 13=(.agg #[.int .i64 ts,.slice to tl tc]):=R.facts 13 (hdep ⟨13,.data⟩ (by simp) rfl)
         rw [e6,e13]
         go_simp
         refine(zaP w' _ _ x y N N (NA.out.below R.below zL) (NB.out.below R.below zL) hy0 (by omega) (by omega)).mono ?_
         rintro e wq ⟨vq,vr,s,r',rfl,m1,m2,m3,m4,hb⟩
         have R':=R.call hn (zN rfl) (TR.FA22.keep hst) hb (v:=.tuple #[vq,vr]) (show QuoGotR N N x y wq (upd c 14 (.tuple #[vq,vr]) 14) from by rw [zd];exact⟨vq,vr,s,r',rfl,m1,m2,m3,m4⟩)
         clear m1 m2 m3 m4 hb
         clear R
         go_wp2_with fail
         exact hK.out _ _ ⟨_,_,by simp [upd,e6,e13],R'⟩
        ·obtain rfl:=zI ho
         have R':=R.plain hn (zO rfl (hdep ⟨_,.data⟩ (by simp) rfl)) (TR.FA22.keep hst) (v:=c 14) (show upd c 15 (c 14) 15=upd c 15 (c 14) 14 from by rw [zd,ze _ _ (by decide)])
         clear R
         go_simp
         exact hK.out _ _ ⟨_,_,by simp [upd],R'⟩
        ·obtain rfl:=zI ho
         have hm:=hdep ⟨15,.data⟩ (by simp) rfl
         have em:c 15=c 14:=R.facts 15 hm
         obtain⟨vq,vr,s,r',ec,nm1,nm2,-⟩:(QuoGotR N N x y) w' (c 14):=R.facts 14 (R.closed 15 hm 14 (by simp [TR.D22]))
         rw [ec] at em
         have R':=R.plain hn (zO rfl (hdep ⟨_,.data⟩ (by simp) rfl)) (TR.FA22.keep hst) (v:=vq) (show ∃ u1 u2:Value,upd c 16 vq 15=.tuple #[u1,u2]∧upd c 16 vq 16=u1 from⟨vq,vr,by rw [ze _ _ (by decide)];exact em,zd _ _ _⟩)
         clear R ec
         rw [em]
         go_simp
         exact hK.out _ _ ⟨_,_,by simp [upd,em],R'⟩
        ·obtain rfl:=zI ho
         have hm:=hdep ⟨15,.data⟩ (by simp) rfl
         have em:c 15=c 14:=R.facts 15 hm
         obtain⟨vq,vr,s,r',ec,nm1,nm2,-⟩:(QuoGotR N N x y) w' (c 14):=R.facts 14 (R.closed 15 hm 14 (by simp [TR.D22]))
         rw [ec] at em
         have R':=R.plain hn (zO rfl (hdep ⟨_,.data⟩ (by simp) rfl)) (TR.FA22.keep hst) (v:=vr) (show ∃ u1 u2:Value,upd c 17 vr 15=.tuple #[u1,u2]∧upd c 17 vr 17=u2 from⟨vq,vr,by rw [ze _ _ (by decide)];exact em,zd _ _ _⟩)
         clear R ec
         rw [em]
         go_simp
         exact hK.out _ _ ⟨_,_,by simp [upd,em],R'⟩
        ·obtain rfl:=zI ho
         obtain⟨G',R'⟩:=R.alloc hn (zN rfl) (TR.FA22.keep hst) 20 (fun W' G' h=>show TR.Made W' G' _ 20 (upd c 18 (ptr w'.heap.size) 18) from by rw [zd];exact h)
         clear R
         go_simp
         exact hK.out _ _ ⟨_,G',by simp [upd],R'⟩
        ·obtain rfl:=zI ho
         obtain⟨G',R'⟩:=R.alloc hn (zN rfl) (TR.FA22.keep hst) 21 (fun W' G' h=>show TR.Made W' G' _ 21 (upd c 19 (ptr w'.heap.size) 19) from by rw [zd];exact h)
         clear R
         go_simp
         exact hK.out _ _ ⟨_,G',by simp [upd],R'⟩
        ·obtain rfl:=zI ho
         have hx:=hdep ⟨16,.data⟩ (by simp) rfl
         have hm:=R.closed 16 hx 15 (by simp [TR.D22])
         have em:c 15=c 14:=R.facts 15 hm
         obtain⟨vq,vr,s,r',ec,nm1,nm2,-⟩:(QuoGotR N N x y) w' (c 14):=R.facts 14 (R.closed 15 hm 14 (by simp [TR.D22]))
         obtain⟨u1,u2,em',ex⟩:∃ u1 u2:Value,c 15=.tuple #[u1,u2]∧c 16=u1:=R.facts 16 hx
         rw [em,ec] at em'
         simp only [Value.tuple.injEq,Array.mk.injEq,List.cons.injEq,and_true] at em'
         obtain⟨rfl,rfl⟩:=em'
         obtain⟨s,hs⟩:=TR.rm_of nm1
         rw [hs] at ex
         obtain⟨B,ea,hC,hB,hG,r,hb⟩:TR.Made w' G _ 20 (c 18):=R.facts 18 (hdep ⟨18,.data⟩ (by simp) rfl)
         have R':=R.store hn (fun j hj=>by simp [TR.D22] at hj;rcases hj with rfl | rfl <;> exact hdep ⟨_,.data⟩ (by simp) rfl) (TR.FA22.keep hst) s hC hB hG hb (fun W' G' h=>show ∃ r:Rm,upd c 20 undef 16=r.v∧TR.Stored W' G' _ 20 (upd c 20 undef 18) r from⟨s,by rw [ze _ _ (by decide)];exact ex,by rw [ze _ _ (by decide),ea];exact h⟩)
         obtain⟨b0,b1,b2,b3⟩:=hb.box
         obtain⟨sn,so,sl,sc⟩:=s
         dsimp only at *
         clear R em ec
         rw [ea,ex]
         go_simp
         exact hK.out _ _ ⟨_,_,by simp [upd,ea,ex],R'⟩
        ·obtain rfl:=zI ho
         have hx:=hdep ⟨17,.data⟩ (by simp) rfl
         have hm:=R.closed 17 hx 15 (by simp [TR.D22])
         have em:c 15=c 14:=R.facts 15 hm
         obtain⟨vq,vr,s,r',ec,nm1,nm2,-⟩:(QuoGotR N N x y) w' (c 14):=R.facts 14 (R.closed 15 hm 14 (by simp [TR.D22]))
         obtain⟨u1,u2,em',ex⟩:∃ u1 u2:Value,c 15=.tuple #[u1,u2]∧c 17=u2:=R.facts 17 hx
         rw [em,ec] at em'
         simp only [Value.tuple.injEq,Array.mk.injEq,List.cons.injEq,and_true] at em'
         obtain⟨rfl,rfl⟩:=em'
         obtain⟨s,hs⟩:=TR.rm_of nm2
         rw [hs] at ex
         obtain⟨B,ea,hC,hB,hG,r,hb⟩:TR.Made w' G _ 21 (c 19):=R.facts 19 (hdep ⟨19,.data⟩ (by simp) rfl)
         have R':=R.store hn (fun j hj=>by simp [TR.D22] at hj;rcases hj with rfl | rfl <;> exact hdep ⟨_,.data⟩ (by simp) rfl) (TR.FA22.keep hst) s hC hB hG hb (fun W' G' h=>show ∃ r:Rm,upd c 21 undef 17=r.v∧TR.Stored W' G' _ 21 (upd c 21 undef 19) r from⟨s,by rw [ze _ _ (by decide)];exact ex,by rw [ze _ _ (by decide),ea];exact h⟩)
         obtain⟨b0,b1,b2,b3⟩:=hb.box
         obtain⟨sn,so,sl,sc⟩:=s
         dsimp only at *
         clear R em ec
         rw [ea,ex]
         go_simp
         exact hK.out _ _ ⟨_,_,by simp [upd,ea,ex],R'⟩
       ·rintro L a' w2 ⟨c2,G,rfl,R'⟩ hall
        obtain⟨⟨sn,sqo,sql,sqc⟩,⟨tn,tqo,tql,tqc⟩,Q1,Q2,⟨vq,vr,s,r',ec,N1,N2,hps,hleft⟩,e13,e14,l1,l2,lq,l4,d12,x1,x2,hb2⟩:=R'.fin22 (fun i hi=>hall i hi)
        simp only [Value.tuple.injEq,Array.mk.injEq,List.cons.injEq,and_true] at ec
        obtain⟨rfl,rfl⟩:=ec
        have HSQ:=hide (zbC HPOB.out hps hleft)
        have NQ2:=hide N1
        obtain⟨a5,a6,-,-⟩:=x1.box
        obtain⟨⟨gs,gO,gL,gC⟩,hlv⟩:=HLV.out
        have HLV2:=hide (hlv.later hb2)
        have HX2:=hide (HX.out.later hb2 HX.out.lt)
        have HB2:=hide (HBE.out.trans (hb2.mono HBE.out.size))
        obtain⟨a7,a8,-,-⟩:=HLV2.out.box.box
        have HN8:Hid (5+k *(N+8)+(N+6)+1≤5+(k+1) *(N+8)):=by show _≤_;rw [Nat.succ_mul];omega
        have HK4:Hid (5+k *(N+8)≤100000):=by
         have:=Nat.mul_le_mul_right (N+8) (show k≤4 by omega)
         show _≤_
         omega
        clear R' hall hst N1 N2 hps hleft l1 l2 l4 d12 hb2 x1 x2 b0 b1 a0 a1 NA NB HLV HX HUA HUB ca cb lq hlv
        dsimp only at *
        rw [e13,e14]
        clear e13 e14
        go_wp2_with fail
        refine(zaI w2 _ _ (prodN k (fun i=>ent hs i (p i)/ent ks i (p i))) s (5+k *(N+8)) (N+6) HLV2.out.num NQ2.out (by have:=HK4.out;omega) (by omega)).mono ?_
        rintro e w5 ⟨v5,rfl,hv5,hb5⟩
        obtain⟨⟨ms,mO,mL,mC⟩,rfl⟩:=hv5.rm
        try dsimp only at hv5
        have HL5:=hide (HLV2.out.later hb5)
        have HX5:=hide (HX2.out.later hb5 HX2.out.lt)
        have HB5:=hide (HB2.out.trans (hb5.mono HB2.out.size))
        have hv5':=hv5
        rw [← HSQ.out,← HPR.out] at hv5'
        have HLN:Hid (∃ r:Rm,RVar ((w5.setCell ⟨LB,0,none⟩ (.int .i64 ms)).setCell ⟨LB,1,none⟩ (.slice mO mL mC)) LB r pr' (5+(k+1) *(N+8))):=⟨_,RVar.write (r:=⟨ms,mO,mL,mC⟩) HL5.out.box (hv5'.mono HN8.out)⟩
        have HXN:=hide (HX5.out.others (C:=LB) (by have:=HLB.out;omega) (.int .i64 ms) (.slice mO mL mC))
        have HBN:=hide (zB HB5.out (C:=LB) (Nat.le_of_lt HLB.out) (.int .i64 ms) (.slice mO mL mC))
        obtain⟨t0,t1,t2,t3⟩:=HL5.out.box.box
        try dsimp only at t0 t1 t2 t3
        clear hv5 hv5' hb5 HL5 HX5 HB5 HLV2 HX2 HB2 a5 a6 a7 a8 HSQ HPR NQ2
        go_wp2
        go_roundw
        case rel=>exact⟨k+1,by omega,by go_num,hide (by rw [HPE.out];exact HLN.out),HXN,HBN⟩
        case measure=>simp [intOf];omega
    ·obtain rfl:k=hs.length:=by omega
     obtain⟨⟨gs,gO,gL,gC⟩,hlv⟩:=HLV.out
     have HFIN:Hid (NumR ((wr.setCell ⟨w.heap.size,0,none⟩ (.int .i64 gs)).setCell ⟨w.heap.size,1,none⟩ (.slice gO gL gC)) (.agg #[.int .i64 gs,.slice gO gL gC]) (prodN hs.length (fun i=>ent hs i (p i)/ent ks i (p i))) (5+4 *(N+8))):=(hlv.num.mono (by
      have:=Nat.mul_le_mul_right (N+8) (show hs.length≤4 by omega)
      omega)).setCell HX.out _ _
     have HB2:=hide (zB HBE.out (C:=w.heap.size) zL (.int .i64 gs) (.slice gO gL gC))
     have Z:=hide (HX.out.set (.int .i64 gs) (.slice gO gL gC)).box
     obtain⟨x0,x1,x2,x3⟩:=HX.out.box
     obtain⟨y0,y1,-,-⟩:=hlv.box.box
     try dsimp only at y0 y1
     obtain⟨z0,z1,-,-⟩:=Z.out
     clear hlv HLV
     go_wp2
     exact bodyPost_ret (v:=.tuple #[.agg #[.int .i64 gs,.slice gO gL gC],.int .i64 0]) (by simp [results,Tryz.results43,go_sem,z0,z1]) rfl ⟨HB2.out,.inr (.inr ⟨HINS.out,HLE.out,_,rfl,HFIN.out⟩)⟩
 ·have HIT:=hide (HIN.out false ⟨fun h=>absurd h (by decide),fun h=>absurd h hin⟩)
  have HINS:=hide hin
  clear HIN hin
  go_enter Tryz.func43,Tryz.ntmps43
  go_wp2_with fail
  generalize (w.alloc (.cells #[.int .i64 0,.slice none 0 0] 40))=W0 at *
  refine HIT.out.mono ?_
  rintro e w1 ⟨rfl,hb1⟩
  have HX1:=hide (HX0.out.later hb1 HX0.out.lt)
  have HB1:=hide (HB0.out.trans (hb1.mono HB0.out.size))
  have HB2:=hide (zB HB1.out (C:=w.heap.size) zL (.int .i64 0) (.slice none 0 0))
  have Z:=hide (HX1.out.set (.int .i64 0) (.slice none 0 0)).box
  obtain⟨x0,x1,x2,x3⟩:=HX1.out.box
  obtain⟨z0,z1,-,-⟩:=Z.out
  clear hb1 HIT HX0 HB0
  go_wp2
  exact bodyPost_ret (v:=.tuple #[.agg #[.int .i64 0,.slice none 0 0],.int .i64 12]) (by simp [results,Tryz.results43,go_sem,z0,z1]) rfl ⟨HB2.out,.inl ⟨HINS.out,rfl⟩⟩
def rt (k a:Nat):Nat:=if a<k then a+1 else if a=k then 0 else a
theorem zks (k a:Nat):rt (k+1) a=rt k (sw k (k+1) a):=by
 unfold rt sw
 repeat' split
 all_goals omega
theorem zhU (n:Nat)(M:Nat→Nat→Int):∀ k,k≤n→det (n+1) (fun a b=>M (rt k a) b)=sgnN k*det (n+1) M:=fun k=>by
 induction k with
 | zero=>
  intro _
  rw [show sgnN 0=1 from rfl,Int.one_mul]
  exact zn fun a b _ _=>by
   have:rt 0 a=a:=by unfold rt;split <;>(try split) <;> omega
   rw [this]
 | succ k ih=>
  intro hk
  have e:det (n+1) (fun a b=>M (rt (k+1) a) b)=det (n+1) (swapRows (fun a b=>M (rt k a) b) k (k+1)):=zn fun a b _ _=>by rw [zdZ,zks]
  rw [e,zbN (n+1) _ k (k+1) (by omega) (by omega),ih (by omega),zcO,Int.neg_mul]
theorem zhQ (n:Nat)(M:Nat→Nat→Int):det (n+1) M=sumN (n+1) (fun c=>sgnN c *(M 0 c*det n (fun a b=>M (a+1) (sk c b)))):=by
 have h:=zhU n M n (Nat.le_refl n)
 have e1:det (n+1) (fun a b=>M (rt n a) b)=sumN (n+1) (fun c=>sgnN (n+c) *(M 0 c*det n (fun a b=>M (a+1) (sk c b)))):=by
  rw [det]
  refine zm fun c hc=>?_
  have e2:rt n n=0:=by unfold rt;rw [if_neg (by omega),if_pos rfl]
  have e3:det n (fun a b=>M (rt n a) (sk c b))=det n (fun a b=>M (a+1) (sk c b)):=zn fun a b ha _=>by
   have:rt n a=a+1:=by unfold rt;rw [if_pos ha]
   rw [this]
  rw [e2,e3,Int.mul_assoc]
 rw [e1] at h
 have h2:sgnN n*sumN (n+1) (fun c=>sgnN (n+c) *(M 0 c*det n (fun a b=>M (a+1) (sk c b))))=sgnN n *(sgnN n*det (n+1) M):=by rw [h]
 rw [← Int.mul_assoc (sgnN n) (sgnN n),zkK,Int.one_mul,← zaj] at h2
 rw [← h2]
 refine zm fun c _=>?_
 rw [← Int.mul_assoc,zdT]
 congr 1
 unfold sgnN
 by_cases hc:c%2=0
 ·rw [if_pos hc,if_pos (by omega)]
 ·rw [if_neg hc,if_neg (by omega)]
theorem zik (l:List Int)(c b:Nat):(l.eraseIdx c).getD b 0=l.getD (sk c b) 0:=by
 rw [List.getD_eq_getElem?_getD,List.getD_eq_getElem?_getD,List.getElem?_eraseIdx]
 unfold sk
 split <;> rfl
theorem zim (us:List Int)(c k:Nat)(hk:k<us.length)(hne:k≠c):(us.take (k+1)).eraseIdx c=(us.take k).eraseIdx c++[us.getD k 0]:=by
 have e:us.take (k+1)=us.take k++[us.getD k 0]:=by
  rw [List.take_succ_eq_append_getElem hk,List.getD_eq_getElem?_getD,List.getElem?_eq_getElem hk,Option.getD_some]
 have hl:(us.take k).length=k:=by rw [List.length_take];omega
 rw [e]
 rcases Nat.lt_or_gt_of_ne hne with h | h
 ·rw [List.eraseIdx_of_length_le (by rw [List.length_append,hl,List.length_singleton];omega),List.eraseIdx_of_length_le (by omega)]
 ·rw [List.eraseIdx_append_of_lt_length (by omega)]
theorem zil (us:List Int)(c:Nat)(hk:c<us.length):(us.take (c+1)).eraseIdx c=(us.take c).eraseIdx c:=by
 have hl:(us.take c).length=c:=by rw [List.length_take];omega
 rw [List.take_succ_eq_append_getElem hk,List.eraseIdx_append_of_length_le (by omega),hl,Nat.sub_self,List.eraseIdx_cons_zero,List.append_nil,List.eraseIdx_of_length_le (by omega)]
def restL (ms:List (List Int))(c:Nat):List (List Int):=(ms.drop 1).map fun r=>r.eraseIdx c
theorem zcN (ms:List (List Int))(c:Nat):(restL ms c).length=ms.length-1:=by simp [restL]
theorem zkn {ms:List (List Int)}{c n:Nat}(hc:c<n+1)(h:∀ u∈ms,u.length=n+1):∀ u∈restL ms c,u.length=n:=fun u hu=>by
 obtain⟨r,hr,rfl⟩:=List.mem_map.1 hu
 have h1:=h r (List.mem_of_mem_drop hr)
 show(r.eraseIdx c).length=n
 rw [List.length_eraseIdx,if_pos (by omega)]
 omega
theorem zkm (ms:List (List Int))(c a b:Nat):ent (restL ms c) a b=ent ms (a+1) (sk c b):=by
 have e:(restL ms c).getD a []=(ms.getD (a+1) []).eraseIdx c:=by
  unfold restL
  rw [List.getD_eq_getElem?_getD,List.getElem?_map,List.getElem?_drop,Nat.add_comm 1 a,List.getD_eq_getElem?_getD]
  by_cases h:a+1<ms.length
  ·rw [List.getElem?_eq_getElem h];rfl
  ·rw [List.getElem?_eq_none (by omega)];simp
 unfold ent
 rw [e,zik]
theorem zko (ms:List (List Int))(c i:Nat)(hi:i+1<ms.length):(restL ms c).take (i+1)=(restL ms c).take i++[(ms.getD (i+1) []).eraseIdx c]:=by
 have hl:i<(restL ms c).length:=by rw [zcN];omega
 rw [List.take_succ_eq_append_getElem hl]
 have e:(restL ms c)[i]?=some ((ms.getD (i+1) []).eraseIdx c):=by
  unfold restL
  rw [List.getElem?_map,List.getElem?_drop,Nat.add_comm 1 i,List.getElem?_eq_getElem hi,zk hi];rfl
 rw [List.getElem?_eq_getElem hl] at e
 rw [zI e]
structure FS (deps:Nat→List Nat)(kv:Nat→Option Value)(Sp:Nat→(Nat→Value)→World→Prop)(w:World)(L:Array Bool)(c:Nat→Value)(W:World):Prop where
 below:Below w.heap.size w W
 plain:∀ i v,L.getD i false=true→kv i=some v→c i=v
 spec:∀ i,L.getD i false=true→Sp i c W
 closed:∀ i,L.getD i false=true→∀ j∈deps i,L.getD j false=true
structure Stays (deps:Nat→List Nat)(Sp:Nat→(Nat→Value)→World→Prop):Prop where
 later:∀ i c W W',Below W.heap.size W W'→Sp i c W→Sp i c W'
 other:∀ i j c v W,j≠i→i ∉ deps j→Sp j c W→Sp j (upd c i v) W
variable {deps:Nat→List Nat}{kv:Nat→Option Value}{Sp:Nat→(Nat→Value)→World→Prop}{Fin:(Nat→Value)→World→Prop}{w W W':World}{L:Array Bool}{c:Nat→Value}
theorem FS.start (w:World)(n:Nat)(c:Nat→Value):FS deps kv Sp w (Array.replicate n false) c w.drew where
 below:=(Below.refl _ _).drew
 plain:=fun i _ h=>by simp [Array.getD] at h
 spec:=fun i h=>by simp [Array.getD] at h
 closed:=fun i h=>by simp [Array.getD] at h
theorem FS.made (h:FS deps kv Sp w L c W)(hst:Stays deps Sp)(hn:L.getD i true=false)(hd:∀ j∈deps i,L.getD j false=true)(hb:Below W.heap.size W W'){v:Value}(hk:∀ u,kv i=some u→v=u)(hnew:Sp i (upd c i v) W'):
  FS deps kv Sp w (L.setIfInBounds i true) (upd c i v) W' where
 below:=h.below.trans (hb.mono h.below.size)
 plain:=fun j u hj hu=>by
  by_cases e:j=i
  ·subst e;rw [zd];exact hk u hu
  ·rw [ze _ _ e];exact h.plain j u (za (fun e'=>e e'.symm) hj) hu
 spec:=fun j hj=>by
  by_cases e:j=i
  ·subst e;exact hnew
  ·have hj':=za (fun e'=>e e'.symm) hj
   exact hst.other _ _ _ _ _ e (fun hm=>zW hn (h.closed j hj' i hm)) (hst.later _ _ _ _ hb (h.spec j hj'))
 closed:=fun j hj k hjk=>by
  by_cases ek:i=k
  ·subst ek;exact zbX hn
  ·rw [getD_set_ne false ek]
   by_cases e:j=i
   ·subst e;exact hd k hjk
   ·exact h.closed j (za (fun e'=>e e'.symm) hj) k hjk
def FSx (deps:Nat→List Nat)(kv:Nat→Option Value)(Sp:Nat→(Nat→Value)→World→Prop)(Fin:(Nat→Value)→World→Prop)(w:World)(m:Nat)(L:Array Bool)(c:Nat→Value)(W:World):Prop:=
 (L.getD m false=false∧FS deps kv Sp w L c W)∨((∀ i,i≤m→L.getD i false=true)∧Fin c W)
theorem FSx.start (w:World)(n m:Nat)(c:Nat→Value):FSx deps kv Sp Fin w m (Array.replicate n false) c w.drew:=
 .inl ⟨by simp [Array.getD],FS.start w n c⟩
theorem FSx.pre(h:FSx deps kv Sp Fin w m L c W)(hi:i≤m)(hn:L.getD i true=false):L.getD m false=false∧FS deps kv Sp w L c W:=by
 rcases h with h |⟨h,-⟩
 ·exact h
 ·exact absurd (h i hi) (zW hn)
theorem FS.next(h:FS deps kv Sp w (L.setIfInBounds i true) c W)(hne:i≠m)(hm:L.getD m false=false):FSx deps kv Sp Fin w m (L.setIfInBounds i true) c W:=
 .inl ⟨by rw [getD_set_ne false hne];exact hm,h⟩
theorem FSx.last(hall:∀ j,j<m→L.getD j false=true)(hn:L.getD m true=false)(hf:Fin c W):FSx deps kv Sp Fin w m (L.setIfInBounds m true) c W:=
 .inr ⟨fun j hj=>by
  by_cases e:m=j
  ·subst e;exact zbX hn
  ·rw [getD_set_ne false e];exact hall j (by omega),hf⟩
theorem FSx.fin(h:FSx deps kv Sp Fin w m L c W)(hall:L.getD m false=true):Fin c W:=by
 rcases h with⟨h,-⟩ |⟨-,h⟩
 ·rw [hall] at h;cases h
 ·exact h
end Go.Proofs.YtdedolkgcdlmeaaGreatDoor
