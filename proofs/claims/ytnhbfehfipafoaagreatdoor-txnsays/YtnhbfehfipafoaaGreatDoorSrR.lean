import Derived.Test.YtnhbfehfipafoaaGreatDoorBgT
import Derived.Test.YtnhbfehfipafoaaGreatDoorBhA
import Derived.Test.YtnhbfehfipafoaaGreatDoorSwap
import Derived.Test.YtnhbfehfipafoaaGreatDoorDkN
import Derived.Test.YtnhbfehfipafoaaGreatDoorShelf
import Derived.Test.YtnhbfehfipafoaaGreatDoorWaJ
namespace Go.Proofs.YtnhbfehfipafoaaGreatDoor
open Go.RowKit
theorem zcP {w w':World}{c:Nat}{l:List Nmd}{e:Ending}(h:RefRes w (c,l) e w'):∃(o:Option Addr) (n k:Nat),e=.returned (.tuple #[.slice o n k,.int .i64 (c:Int)])∧Hid (c=0→∃ p2:List Nc,CatN w' (.slice o n k) p2∧p2.map (·.x)=l)∧Below w.heap.size w w':=by
 obtain⟨h1,hb⟩:=h
 rcases h1 with⟨h1,rfl⟩ |⟨h1,u,qs,rfl,h2,h3⟩
 ·exact⟨none,0,0,rfl,fun h0=>absurd h0 h1,hb⟩
 ·obtain rfl:c=0:=h1
  obtain⟨o,k,rfl,-⟩:=id h3
  exact⟨o,_,k,rfl,fun _=>⟨qs,h3,h2⟩,hb⟩
set_option linter.unusedSimpArgs false in
set_option maxRecDepth 100000 in
set_option maxHeartbeats 1600000 in
theorem zf3 (w:World)(v vv:Value)(qs0:List Nc)(os:List OpC)(hc:CatN w v qs0)(hok:CatOk (qs0.map (·.x)))(hops:OpsN w vv os)(hl:∀ q∈os,q.o.v.length≤20)(hl4:os.length≤9223372036854775807)(r:Nat × List Nmd)(hr:allC (qs0.map (·.x)) (os.map (·.o))=r):
  Calls Tryz.prog 43 #[v,vv] w fun e w'=>RefRes w r e w':=by
 obtain⟨lo,lk,rfl,-,-⟩:=id hc
 obtain⟨ao,cap,rfl,hcap,-⟩:=id hops
 obtain⟨ll,hll⟩:∃ ll,qs0.length=ll:=⟨_,rfl⟩
 rw [hll] at hc ⊢
 have HOPS:=hide hops;have HL:=hide hl;have HC0:=hide hc;have HOK0:=hide hok
 have HR0:Hid (allC (qs0.map (·.x)) ((os.map (·.o)).drop 0)=r):=by show _=_;rw [List.drop_zero];exact hr
 clear hops hl hcap hc hok hr
 go_enter Tryz.func43,Tryz.ntmps43
 go_wp2_with fail
 go_loopw [0,6] (fun cv i wr=>∃(k:Nat) (co:Option Addr) (cl ck:Nat) (qs:List Nc),k≤os.length∧i=.int .i64 k∧cv=.slice co cl ck∧Hid (CatN wr (.slice co cl ck) qs)∧Hid (CatOk (qs.map (·.x)))∧Hid (allC (qs.map (·.x)) ((os.map (·.o)).drop k)=r)∧Hid (Below w.heap.size w wr)) (fun _ i _=>os.length - (intOf i).toNat)
 case atStart=>exact⟨0,lo,ll,lk,qs0,Nat.zero_le _,rfl,rfl,HC0,HOK0,HR0,hide (Below.refl _ _)⟩
 case round=>
  clear HC0 HOK0 HR0
  obtain⟨k,co,cl,ck,qs,hk,rfl,rfl,HCN,HOK,HRR,HBE⟩:=hrel
  by_cases hkl:k < os.length
  ·obtain⟨_,_,e,-,hh⟩:=HOPS.out.below HBE.out
   simp only [Value.slice.injEq,true_and] at e
   obtain⟨rfl,rfl⟩:=e
   obtain⟨b,off,rfl,hltw,hc⟩:=hh (by omega)
   obtain⟨a0,a1,a2,a3,a4⟩:=hc k os[k] (List.getElem?_eq_getElem hkl)
   have hv10:=HL.out os[k] (List.getElem_mem hkl)
   have hdr:(os.map (·.o)).drop k=os[k].o :: (os.map (·.o)).drop (k+1):=by
    rw [List.drop_eq_getElem_cons (by rw [List.length_map];exact hkl),List.getElem_map]
   have hrr:=HRR.out
   rw [hdr] at hrr
   obtain⟨tl,htl⟩:∃ tl,(os.map (·.o)).drop (k+1)=tl:=⟨_,rfl⟩
   rw [htl] at hrr
   have HTL:=hide htl
   clear hh hc hdr htl HRR
   generalize os[k]=q at *
   obtain⟨⟨kd,nm,nn,vs⟩,vo,vc⟩:=q
   simp only [OpC.row] at a3 a4
   dsimp only at a0 a1 a2 a3 a4 hv10 hrr
   have HRV:=hide a4
   obtain⟨⟨rc,rl⟩,hr⟩:∃ r,applyC (qs.map (·.x)) ⟨kd,nm,nn,vs⟩=r:=⟨_,rfl⟩
   have HR:=hide hr
   have HRC:Hid (rc=0→CatOk rl):=fun h0=>by have:=zJ HOK.out ⟨kd,nm,nn,vs⟩ (by rw [hr];exact h0);rwa [hr] at this
   rw [zaG,hr] at hrr
   have HRR:=hide hrr
   clear hr hrr a4
   go_wp2_with fail
   refine(zdw wr _ qs ⟨kd,nm,nn,vs⟩ vo vc HCN.out HOK.out HRV.out (by show vs.length≤100000;omega)).mono ?_
   rw [HR.out]
   rintro e w3 hres
   obtain⟨m2,l2,k2,rfl,HM2,hb3⟩:=zcP hres
   have HBa:=hide (HBE.out.trans (hb3.mono HBE.out.size))
   clear hb3 HBE HCN HRV hres a0 a1 a2 a3
   by_cases hrc:rc=0
   ·subst hrc
    obtain⟨p2,hp2,hq2⟩:=HM2.out rfl
    have hrr:=HRR.out
    rw [if_pos rfl] at hrr
    have HC2:=hide hp2
    have HOK2:Hid (CatOk (p2.map (·.x))):=by rw [hq2];exact HRC.out rfl
    have HRN:Hid (allC (p2.map (·.x)) ((os.map (·.o)).drop (k+1))=r):=by show _=_;rw [HTL.out,hq2];exact hrr
    clear hp2 hq2 hrr HRR HR HRC HM2
    go_wp2
    go_roundw
    case rel=>exact⟨k+1,m2,l2,k2,p2,by omega,by go_num,rfl,HC2,HOK2,HRN,HBa⟩
    case measure=>simp [intOf];omega
   ·have hrr:=HRR.out
    rw [if_neg (show ¬ rc=0 from hrc)] at hrr
    have HFIN:Hid (RefRes w r (.returned (.tuple #[.slice none 0 0,.int .i64 (rc:Int)])) w3):=⟨.inl ⟨by rw [← hrr];exact hrc,by rw [← hrr]⟩,HBa.out⟩
    have g1:decide ((0:Int) < (rc:Int))=true:=decide_eq_true (by omega)
    have g2:(0:Int) < (rc:Int):=by omega
    clear hrr HRR HR HRC HM2 hrc
    go_wp2
    go_ret2
    exact HFIN.out
  ·obtain rfl:k=os.length:=by omega
   have hrr:=HRR.out
   rw [List.drop_eq_nil_of_le (by rw [List.length_map];exact Nat.le_refl _)] at hrr
   have HFIN:Hid (RefRes w r (.returned (.tuple #[.slice co cl ck,.int .i64 0])) wr):=⟨.inr ⟨by rw [← hrr];rfl,_,qs,rfl,by rw [← hrr];rfl,HCN.out⟩,HBE.out⟩
   clear hrr HRR
   go_wp2
   go_ret2
   exact HFIN.out
def RstB (W:World)(M:Nat)(v:Value)(us mn:Int):Prop:=W.heap[M]?=some (.cells #[v,.int .i64 us,.int .i64 mn] 39 (0,0))
theorem RstB.later {W W':World}{M:Nat}{v:Value}{us mn:Int}(x:RstB W M v us mn)(hb:Below W.heap.size W W'):RstB W' M v us mn:=(hb.block _ (zd x)).trans x
theorem RstB.cells {W:World}{M:Nat}{v:Value}{us mn:Int}(x:RstB W M v us mn):W.cell? ⟨M,0,none⟩=some v∧W.cell? ⟨M,1,none⟩=some (.int .i64 us)∧W.cell? ⟨M,2,none⟩=some (.int .i64 mn)∧∀ k,W.frozen? ⟨M,k,none⟩=false:=by
 refine⟨?_,?_,?_,fun k=>by simp [World.frozen?,show W.heap[M]?=_ from x]⟩
 all_goals rw [cell_of_row W M _ _ _ _ x];rfl
theorem RstB.keptS {W W':World}{base M:Nat}{v:Value}{us mn:Int}(x:RstB W M v us mn)(hk:KeptS base W W'):RstB W' M v us mn:=
 (hk.block M (zd x) (.inr fun cs t fz hx=>by
  rw [show W.heap[M]?=_ from x] at hx
  simp only [Option.some.injEq,Obj.cells.injEq] at hx
  rw [← hx.2.1]
  unfold stoT logT diskT
  decide)).trans x
theorem RstB.setUs {W:World}{M:Nat}{v:Value}{us mn:Int}(x:RstB W M v us mn)(z:Int):RstB (W.setCell ⟨M,1,none⟩ (.int .i64 z)) M v z mn:=heap_setCell_same W M 1 _ _ _ x
theorem RstB.setC {W:World}{M:Nat}{v:Value}{us mn:Int}(x:RstB W M v us mn)(u:Value):RstB (W.setCell ⟨M,0,none⟩ u) M u us mn:=heap_setCell_same W M 0 _ _ _ x
theorem zZ:¬ kinT 39:=by unfold kinT;decide
theorem zkl:¬ diskT 39:=by unfold diskT;decide
set_option linter.unusedSimpArgs false in
set_option maxRecDepth 100000 in
set_option maxHeartbeats 1600000 in
theorem zff (w:World)(M:Nat)(v:Value)(us mn:Int)(x:RstB w M v us mn):
  Calls Tryz.prog 18 #[.pointer (some ⟨M,0,none⟩)] w fun e w'=>e=.returned (.int .i64 0)∧RstB w' M v 0 mn∧ButB w.heap.size M w w':=by
 have HX:=hide (x.setUs 0)
 have HB:=hide ((ButB.of (C:=w.heap.size) (b:=M) (Below.refl w.heap.size w)).set 1 (.int .i64 0))
 obtain⟨c0,c1,c2,cz⟩:=x.cells
 have z1:=cz 1
 clear x cz
 go_enter Tryz.func18,Tryz.ntmps18
 go_wp2
 go_ret
 exact⟨rfl,HX.out,HB.out⟩
def RcmP (w:World)(M:Nat)(v:Value)(us mn:Nat)(l:List Nmd)(os:List OpV)(e:Ending)(w':World):Prop:=
 e=.returned (.int .i64 ((comF l os (mn+82):Nat):Int)) ∧
 ((comF l os (mn+82)≠0∧RstB w' M v us mn∧Below w.heap.size w w') ∨
  (comF l os (mn+82)=0∧∃ o n k qs,RstB w' M (.slice o n k) (comE os (mn+82) us:Nat) mn∧CatN w' (.slice o n k) qs∧qs.map (·.x)=(allC l os).2∧ButB w.heap.size M w w'))
set_option linter.unusedSimpArgs false in
set_option maxRecDepth 100000 in
set_option maxHeartbeats 1600000 in
theorem zfa (w:World)(M:Nat)(v:Value)(us mn:Nat)(qs:List Nc)(l:List Nmd)(vv:Value)(osC:List OpC)(os:List OpV)(x:RstB w M v us mn)(hc:CatN w v qs)(hq:qs.map (·.x)=l)(hok:CatOk l)(hus:us≤mn)(hmn:mn≤1000)
  (hops:OpsN w vv osC) (hl20:∀ q∈osC,q.o.v.length≤20) (hlen:osC.length≤1000000) (hos:osC.map (·.o)=os):
  Calls Tryz.prog 16 #[.pointer (some ⟨M,0,none⟩),vv] w fun e w'=>RcmP w M v us mn l os e w':=by
 obtain⟨vo,vc,rfl,-⟩:=id hops
 obtain⟨co,ck,rfl,-⟩:=id hc
 obtain⟨cl,hcl⟩:∃ cl,qs.length=cl:=⟨_,rfl⟩
 obtain⟨on,hon⟩:∃ on,osC.length=on:=⟨_,rfl⟩
 rw [hcl] at x hc ⊢
 rw [hon] at hops ⊢
 have hosl:os.length=on:=by rw [← hos,List.length_map];exact hon
 have X:=hide x;have HC:=hide hc;have HQ:=hide hq;have HOK:=hide hok;have HOPS:=hide hops;have HV:=hide hl20;have HOSM:=hide hos;have HOL:=hide hosl
 have HOC:Hid (osC.length≤9223372036854775807):=by show _≤_;omega
 have hon6:on≤1000000:=by omega
 obtain⟨c0,c1,c2,cz⟩:=x.cells
 clear x hc hq hok hops hl20 hlen hos hosl hon hcl cz
 by_cases h12:12 < on
 ·have HFIN:Hid (RcmP w M (.slice co cl ck) us mn l os (.returned (.int .i64 2)) w):=by
   have e:comF l os (mn+82)=2:=by unfold comF;rw [if_pos (by rw [HOL.out];exact h12)]
   exact⟨by rw [e];rfl,.inl ⟨by rw [e];decide,X.out,Below.refl _ _⟩⟩
  have g1:decide ((12:Int) < (on:Int))=true:=decide_eq_true (by omega)
  go_enter Tryz.func16,Tryz.ntmps16
  go_wp2
  go_ret
  exact HFIN.out
 have g1:decide ((12:Int) < (on:Int))=false:=decide_eq_false (by omega)
 obtain⟨r,hr⟩:∃ r,allC l os=r:=⟨_,rfl⟩
 have HR:=hide hr
 go_enter Tryz.func16,Tryz.ntmps16
 go_wp2_with fail
 refine(zf3 w _ _ qs osC HC.out (by rw [HQ.out];exact HOK.out) HOPS.out HV.out HOC.out r (by rw [HQ.out,HOSM.out];exact HR.out)).mono ?_
 rintro e w1 hres
 obtain⟨rc,ln⟩:=r
 obtain⟨no,nn,nk,rfl,HN,hb1⟩:=zcP hres
 have X1:=hide (X.out.later hb1);have HB1:=hide hb1
 clear hres hb1 hr c0 c1 c2
 by_cases hrc:rc=0
 rotate_left
 ·have HFIN:Hid (RcmP w M (.slice co cl ck) us mn l os (.returned (.int .i64 (rc:Int))) w1):=by
   have e:comF l os (mn+82)=rc:=by unfold comF;rw [if_neg (by rw [HOL.out];exact h12),if_pos (by rw [HR.out];exact hrc),HR.out]
   exact⟨by rw [e],.inl ⟨by rw [e];exact hrc,X1.out,HB1.out⟩⟩
  have g2:decide ((0:Int) < (rc:Int))=true:=decide_eq_true (by omega)
  have g2':(0:Int) < (rc:Int):=by omega
  clear hrc
  go_wp2
  go_ret
  exact HFIN.out
 subst hrc
 obtain⟨qn,hqn,hqm⟩:=HN.out rfl
 have HCN:=hide hqn;have HQN:=hide hqm
 obtain⟨d0,d1,d2,dz⟩:=X1.out.cells
 have z0:=dz 0;have z1:=dz 1
 clear hqn hqm HN
 by_cases h10:mn≤on
 ·have HFIN:Hid (RcmP w M (.slice co cl ck) us mn l os (.returned (.int .i64 10)) w1):=by
   have e:comF l os (mn+82)=10:=by unfold comF;rw [if_neg (by rw [HOL.out];exact h12),if_neg (by rw [HR.out];exact fun h=>h rfl),if_pos (by rw [HOL.out];omega)]
   exact⟨by rw [e];rfl,.inl ⟨by rw [e];decide,X1.out,HB1.out⟩⟩
  have g2:decide ((mn:Int) < (on:Int)+1)=true:=decide_eq_true (by omega)
  have g2':(mn:Int) < (on:Int)+1:=by omega
  clear dz
  go_wp2
  go_ret
  exact HFIN.out
 have HF:Hid (comF l os (mn+82)=0):=by show _=_;unfold comF;rw [if_neg (by rw [HOL.out];exact h12),if_neg (by rw [HR.out];exact fun h=>h rfl),if_neg (by rw [HOL.out];omega)]
 have g2:decide ((mn:Int) < (on:Int)+1)=false:=decide_eq_false (by omega)
 have g2':¬(mn:Int) < (on:Int)+1:=by omega
 by_cases hro:mn - us≤on
 ·have HE:Hid (0+on+1=comE os (mn+82) us):=by show _=_;unfold comE;rw [if_pos (by rw [HOL.out];omega),HOL.out]
  have g3:decide ((mn:Int) - (us:Int) < (on:Int)+1)=true:=decide_eq_true (by omega)
  have g3':(mn:Int) - (us:Int) < (on:Int)+1:=by omega
  have g4:(mn:Int) - (us:Int)≤(on:Int):=by omega
  have g5:decide ((mn:Int) - (us:Int)≤(on:Int))=true:=decide_eq_true g4
  have GW:Hid (decide (IntKind.i64.wrap ((mn:Int) - (us:Int)) < IntKind.i64.wrap ((on:Int)+1))=true):=by
   show _=_
   rw [show IntKind.i64.wrap ((mn:Int) - (us:Int))=(mn:Int) - (us:Int) from zi (by omega) (by omega),show IntKind.i64.wrap ((on:Int)+1)=(on:Int)+1 from zi (by omega) (by omega)]
   exact g3
  have X1d:=hide (X1.out.later ((Below.refl w1.heap.size w1).drew));have HBd:=hide (HB1.out.drew);have HCNd:=hide (HCN.out.below ((Below.refl w1.heap.size w1).drew))
  obtain⟨k0,k1,k2,-⟩:=X1d.out.cells
  go_wp2_with fail
  go_region_held3 (fun w'=>w'.cell? ⟨M,1,none⟩=some (.int .i64 (us:Int))∧w'.cell? ⟨M,2,none⟩=some (.int .i64 (mn:Int))) (go_keep) (fail)
  rw [GW.out]
  generalize w1.drew=wd at *
  go_wp2_with fail
  refine(zff wd M _ _ _ X1d.out).mono ?_
  rintro e w2 ⟨rfl,hx2,hb2⟩
  obtain⟨u1,hu1⟩:∃ u1:Nat,u1=0:=⟨_,rfl⟩
  rw [show(0:Int)=(u1:Int) from by rw [hu1];rfl] at hx2
  rw [← hu1] at HE
  have HCN2:=hide (HCNd.out.keepK (fun b hb=>hb2.block b hb.lt (fun e=>by
   subst e
   obtain⟨cs,t,fz,h1,h2⟩:=hb
   rw [show _=_ from X1d.out] at h1
   simp only [Option.some.injEq,Obj.cells.injEq] at h1
   rw [← h1.2.1] at h2
   exact zZ h2)))
  have X2:=hide hx2;have HB2:Hid (ButB w.heap.size M w w2):=(ButB.of HBd.out).trans ⟨hb2.os,hb2.tape,hb2.output,hb2.size,fun k hk hn=>hb2.block k (Nat.lt_of_lt_of_le hk HBd.out.size) hn⟩
  have hu1k:u1≤1000:=by omega
  clear hx2 hb2 hu1 d0 d1 d2 dz z0 z1 k0 k1 k2
  obtain⟨f0,f1,f2,fz⟩:=X2.out.cells
  have y0:=fz 0;have y1:=fz 1
  have HX3:=hide ((X2.out.setUs ((u1:Int)+(on:Int)+1)).setC (.slice no nn nk))
  have hz:(u1:Int)+(on:Int)+1=((comE os (mn+82) us:Nat):Int):=by rw [← HE.out];omega
  have HX4:=HX3
  rw [hz] at HX4
  have HB3:=hide ((HB2.out.set 1 (.int .i64 ((u1:Int)+(on:Int)+1))).set 0 (.slice no nn nk))
  have hcn2:=(HCN2.out.keepK (zw X2.out zZ 1 (.int .i64 ((u1:Int)+(on:Int)+1)))).keepK (zw (X2.out.setUs _) zZ 0 (.slice no nn nk))
  have HFIN:Hid (RcmP w M (.slice co cl ck) us mn l os (.returned (.int .i64 0)) ((w2.setCell ⟨M,1,none⟩ (.int .i64 ((u1:Int)+(on:Int)+1))).setCell ⟨M,0,none⟩ (.slice no nn nk))):=by
   refine⟨by rw [HF.out];rfl,.inr ⟨HF.out,no,nn,nk,qn,?_,hcn2,(by rw [HR.out];exact HQN.out),HB3.out⟩⟩
   rw [← hz]
   exact HX3.out
  clear hz hcn2 fz HX3 HX4
  go_wp2
  go_ret
  exact HFIN.out
 ·have HE:Hid (us+on+1=comE os (mn+82) us):=by show _=_;unfold comE;rw [if_neg (by rw [HOL.out];omega),HOL.out]
  have g3:decide ((mn:Int) - (us:Int) < (on:Int)+1)=false:=decide_eq_false (by omega)
  have g3':¬(mn:Int) - (us:Int) < (on:Int)+1:=by omega
  have g4:¬(mn:Int) - (us:Int)≤(on:Int):=by omega
  have g5:decide ((mn:Int) - (us:Int)≤(on:Int))=false:=decide_eq_false g4
  have GW:Hid (decide (IntKind.i64.wrap ((mn:Int) - (us:Int)) < IntKind.i64.wrap ((on:Int)+1))=false):=by
   show _=_
   rw [show IntKind.i64.wrap ((mn:Int) - (us:Int))=(mn:Int) - (us:Int) from zi (by omega) (by omega),show IntKind.i64.wrap ((on:Int)+1)=(on:Int)+1 from zi (by omega) (by omega)]
   exact g3
  have X1d:=hide (X1.out.later ((Below.refl w1.heap.size w1).drew));have HBd:=hide (HB1.out.drew);have HCNd:=hide (HCN.out.below ((Below.refl w1.heap.size w1).drew))
  obtain⟨k0,k1,k2,-⟩:=X1d.out.cells
  go_wp2_with fail
  go_region_held3 (fun w'=>w'.cell? ⟨M,1,none⟩=some (.int .i64 (us:Int))∧w'.cell? ⟨M,2,none⟩=some (.int .i64 (mn:Int))) (go_keep) (fail)
  rw [GW.out]
  generalize w1.drew=w2 at *
  have X2:=X1d;have HCN2:=HCNd;have HB2:=hide (ButB.of (b:=M) HBd.out)
  clear d0 d1 d2 dz z0 z1 k0 k1 k2
  obtain⟨f0,f1,f2,fz⟩:=X2.out.cells
  have y0:=fz 0;have y1:=fz 1
  have HX3:=hide ((X2.out.setUs ((us:Int)+(on:Int)+1)).setC (.slice no nn nk))
  have hz:(us:Int)+(on:Int)+1=((comE os (mn+82) us:Nat):Int):=by rw [← HE.out];omega
  have HX4:=HX3
  rw [hz] at HX4
  have HB3:=hide ((HB2.out.set 1 (.int .i64 ((us:Int)+(on:Int)+1))).set 0 (.slice no nn nk))
  have hcn2:=(HCN2.out.keepK (zw X2.out zZ 1 (.int .i64 ((us:Int)+(on:Int)+1)))).keepK (zw (X2.out.setUs _) zZ 0 (.slice no nn nk))
  have HFIN:Hid (RcmP w M (.slice co cl ck) us mn l os (.returned (.int .i64 0)) ((w2.setCell ⟨M,1,none⟩ (.int .i64 ((us:Int)+(on:Int)+1))).setCell ⟨M,0,none⟩ (.slice no nn nk))):=by
   refine⟨by rw [HF.out];rfl,.inr ⟨HF.out,no,nn,nk,qn,?_,hcn2,(by rw [HR.out];exact HQN.out),HB3.out⟩⟩
   rw [← hz]
   exact HX3.out
  clear hz hcn2 fz HX3 HX4
  go_wp2
  go_ret
  exact HFIN.out
end Go.Proofs.YtnhbfehfipafoaaGreatDoor
/- Errors that are the same. -/
namespace Go.Proofs.YtnhbfehfipafoaaGreatDoor
open Go.RowKit
theorem Tryz.asErrnoB (v:Value)(w:World):(Instr.typeAssert (.iface 80 v) 27 80 true).run Tryz.prog w=.ok (.tuple #[v,.bool true]) w:=by kernel_rfl
set_option maxRecDepth 100000 in
theorem ziQ (n:Int)(hn:0 < n)(w:World):Calls Tryz.prog 12 #[.iface 80 (.int .i64 n),.int .i64 n] w fun e w'=>e=.returned (.bool true)∧w'=w:=by
 have has:=Tryz.asErrnoB
 have e1:decide (0 < n)=true:=decide_eq_true hn
 go_enter Tryz.func12,Tryz.ntmps12
 go_wp2
 go_ret
 exact⟨by simp,rfl⟩
set_option maxRecDepth 100000 in
theorem zaX (k:Nat)(w:World):Calls Tryz.prog 12 #[errV k,.int .i64 ((k:Nat):Int)] w fun e w'=>e=.returned (.bool true)∧w'=w:=by
 by_cases h:k=0
 ·subst h
  have e0:errV 0=.nilIface:=rfl
  rw [e0]
  go_enter Tryz.func12,Tryz.ntmps12
  go_wp2
  go_ret
  exact⟨rfl,rfl⟩
 ·have e0:errV k=.iface 80 (.int .i64 (k:Int)):=if_neg h
  rw [e0]
  exact ziQ (k:Int) (by omega) w
end Go.Proofs.YtnhbfehfipafoaaGreatDoor
/- A formatted disk with its store; what is committed is there. -/
namespace Go.Proofs.YtnhbfehfipafoaaGreatDoor
open Go.RowKit
def StdP (w:World)(m:Nat)(e:Ending)(w':World):Prop:=
 ∃ S D h,e=.returned (.tuple #[.pointer (some ⟨w.heap.size,0,none⟩),.pointer (some ⟨S,0,none⟩),.bool true])∧w.heap.size≤S∧StoreP w' w.heap.size S w.heap.size D m h [] 0∧Free D∧Below w.heap.size w w'
set_option linter.unusedSimpArgs false in
set_option maxRecDepth 100000 in
set_option maxHeartbeats 1600000 in
theorem zfC (w:World)(m:Nat)(h86:86≤m)(hm:m≤200)(ht:TabP w)(hx:MaxL w):
  Calls Tryz.prog 24 #[.int .i64 (m:Int)] w fun e w'=>StdP w m e w':=by
 have HT:=hide ht;have HX:=hide hx
 obtain⟨B,hB⟩:∃ B,w.heap.size=B:=⟨_,rfl⟩
 have HB:=hide hB
 clear ht hx
 go_enter Tryz.func24,Tryz.ntmps24
 go_wp2_with fail
 refine(zhD w m (by omega) hm).mono ?_
 rintro e w1 ⟨rfl,hd1,hb1⟩
 rw [hB] at hd1 ⊢
 have HD1:=hide hd1;have HB1:=hide hb1
 have hs1:Hid (B≤w1.heap.size):=by show _≤_;rw [← hB];exact hb1.size
 clear hd1 hb1
 go_wp2_with fail
 refine(zgW w1 B B m HD1.out hm h86 (HT.out.below HB1.out) hs1.out).mono ?_
 rintro e w2 ⟨rfl,D,h,hd2,hi2,hf2,hk2⟩
 have HD2:=hide hd2;have HI2:=hide hi2;have HF2:=hide hf2
 have HB2:Hid (Below w.heap.size w w2):=(KeptS.of_kept hk2).below HB1.out (Nat.le_of_eq hB) HB1.out.size
 have hs2:Hid (B≤w2.heap.size):=Nat.le_trans hs1.out hk2.size
 clear hd2 hi2 hf2 hk2
 go_wp2_with fail
 refine(zeR w2 B B D m h [] 0 HD2.out HI2.out hm h86 (HT.out.below HB2.out) (HX.out.below HB2.out) hs2.out).mono ?_
 rintro e w3 ⟨S,rfl,hS,hp3,hb3⟩
 have HFIN:Hid (StdP w m (.returned (.tuple #[.pointer (some ⟨B,0,none⟩),.pointer (some ⟨S,0,none⟩),.bool true])) w3):=
  ⟨S,D,h,by rw [hB],by rw [hB];exact Nat.le_trans hs2.out hS,by rw [hB];exact hp3,HF2.out,HB2.out.trans (hb3.mono HB2.out.size)⟩
 clear hS hp3 hb3 hB
 go_wp2
 go_ret3
 exact HFIN.out
def opA:OpV:=⟨1,⟨#[97]⟩,2,[]⟩
end Go.Proofs.YtnhbfehfipafoaaGreatDoor
/- Acts that came in, with their operations: are they light? -/
namespace Go.Proofs.YtnhbfehfipafoaaGreatDoor
open Go.RowKit
structure ActW where
 kind:ByteArray
 a:Int
 s:ByteArray
 k:Int
 op:OpC
 ov:Value
 ops:List OpC
structure ActW.ok (w:World)(p:ActW):Prop where
 a:-9223372036854775808≤p.a∧p.a≤9223372036854775807
 k:0≤p.k∧p.k < 18446744073709551616
 op:RowS w p.op.row p.op.o.v
 ops:OpsN w p.ov p.ops
def ActW.cells (p:ActW):List Value:=[.string p.kind,.int .i64 p.a,.string p.s,.int .u64 p.k,.int .i64 p.op.o.kind,.string p.op.o.name,.int .i64 p.op.o.n,p.op.row,p.ov]
def ActsW (w:World)(v:Value)(al:List ActW):Prop:=
 ∃ ao cap,v=.slice ao al.length cap∧al.length≤cap∧(0 < al.length→∃ b off,ao=some ⟨b,off,none⟩∧b < w.heap.size∧∀ i p,al[i]?=some p →
  p.ok w∧∀ j u,p.cells[j]?=some u→w.cell? ⟨b,off+i * 9+j,none⟩=some u)
theorem ActW.ok.below {w w':World}{p:ActW}(h:p.ok w)(hb:Below w.heap.size w w'):p.ok w':=⟨h.a,h.k,h.op.below hb (Nat.le_refl _),h.ops.below hb⟩
theorem ActsW.below {w w':World}{v:Value}{al:List ActW}(h:ActsW w v al)(hb:Below w.heap.size w w'):ActsW w' v al:=by
 obtain⟨ao,cap,e,hn,h⟩:=h
 refine⟨ao,cap,e,hn,fun h0=>?_⟩
 obtain⟨b,off,e,hlt,h⟩:=h h0
 refine⟨b,off,e,Nat.lt_of_lt_of_le hlt hb.size,fun i p hp=>?_⟩
 obtain⟨h1,h2⟩:=h i p hp
 exact⟨h1.below hb,fun j u hu=>(hb.cell (p:=⟨b,off+i * 9+j,none⟩) hlt).trans (h2 j u hu)⟩
theorem ActsW.at {w:World}{v:Value}{al:List ActW}(h:ActsW w v al){k:Nat}{p:ActW}(hp:al[k]?=some p):∃ b off cap,v=.slice (some ⟨b,off,none⟩) al.length cap∧b < w.heap.size∧p.ok w∧∀ j u,p.cells[j]?=some u→w.cell? ⟨b,off+k * 9+j,none⟩=some u:=by
 obtain⟨ao,cap,rfl,-,hh⟩:=h
 obtain⟨b,off,rfl,hlt,hc⟩:=hh (by have:=(List.getElem?_eq_some_iff.1 hp).1;omega)
 exact⟨b,off,cap,rfl,hlt,hc k p hp⟩
def lightP (p:ActW):Prop:=p.s.size≤100∧p.op.o.name.size≤30∧p.op.o.v.length≤10∧lightL p.ops 20=true
def LightW (w:World)(al:List ActW)(most:Nat)(e:Ending)(w':World):Prop:=∃ b,e=.returned (.bool b)∧(b=true→al.length≤most∧∀ p∈al,lightP p)∧Below w.heap.size w w'
set_option linter.unusedSimpArgs false in
set_option maxRecDepth 100000 in
set_option maxHeartbeats 3200000 in
theorem zhj (w:World)(v:Value)(al:List ActW)(most:Nat)(h:ActsW w v al)(hm:most≤1000):
  Calls Tryz.prog 10 #[v,.int .i64 (most:Int)] w fun e w'=>LightW w al most e w':=by
 have H:=hide h
 obtain⟨ao,cap,rfl,-⟩:=h
 by_cases hl:most < al.length
 ·go_enter Tryz.func10,Tryz.ntmps10
  go_wp2
  go_ret
  exact⟨false,rfl,fun h=>(by cases h),Below.refl _ _⟩
 ·obtain⟨n0,hn0⟩:∃ n,al.length=n:=⟨_,rfl⟩
  have HN:=hide hn0;have HL:=hide hl
  rw [hn0] at hl ⊢
  clear hn0
  go_enter Tryz.func10,Tryz.ntmps10
  go_wp2
  go_loopw [5,6] (fun s x wr=>∃(k:Nat) (z:Int),k≤n0∧x=.int .i64 k∧s=.int .i64 z∧Hid (∀ p∈al.take k,lightP p)∧wr=w) (fun _ x _=>n0 - (intOf x).toNat)
  case atStart=>exact⟨0,0,Nat.zero_le _,rfl,rfl,hide (by simp),rfl⟩
  case round=>
   obtain⟨k,z,hk,rfl,rfl,HS,hwr⟩:=hrel
   subst hwr
   by_cases hkl:k < n0
   ·have hkb:k < al.length:=by rw [HN.out];exact hkl
    obtain⟨p,hp⟩:∃ p,al[k]?=some p:=⟨_,List.getElem?_eq_getElem hkb⟩
    obtain⟨b,off,cap',e,hlt,hok,hc⟩:=H.out.at hp
    rw [HN.out] at e
    simp only [Value.slice.injEq,true_and] at e
    obtain⟨rfl,rfl⟩:=e
    have HTK:Hid (al.take (k+1)=al.take k ++ [p]):=by show _=_;rw [List.take_succ_eq_append_getElem hkb,(List.getElem?_eq_some_iff.1 hp).2]
    have HOV:=hide hok.ops
    obtain⟨oo,oc,hov,-⟩:=hok.ops
    obtain⟨kd,a,ps,kk,⟨⟨okd,name,on,vs⟩,vo,vc⟩,ov,ops⟩:=p
    have d2:wr.cell? ⟨b,off+k * 9+2,none⟩=some (.string ps):=hc 2 _ rfl
    have d5:wr.cell? ⟨b,off+k * 9+4+1,none⟩=some (.string name):=hc 5 _ rfl
    have d7:wr.cell? ⟨b,off+k * 9+4+3,none⟩=some (.slice vo vs.length vc):=hc 7 _ rfl
    have d8:wr.cell? ⟨b,off+k * 9+5,none⟩=wr.cell? ⟨b,off+k * 9+5,none⟩:=rfl
    have d8:wr.cell? ⟨b,off+k * 9+8,none⟩=some ov:=hc 8 _ rfl
    dsimp only at hov HOV
    subst hov
    obtain⟨n,hn⟩:∃ n,ops.length=n:=⟨_,rfl⟩
    obtain⟨vl,hvl⟩:∃ n,vs.length=n:=⟨_,rfl⟩
    have HNN:=hide hn;have HVL:=hide hvl
    rw [hn] at d8 HOV
    rw [hvl] at d7
    clear hc hok hn hvl hp hkb
    by_cases h1:100 < (ps.size:Int)
    ·have g2:decide (100 < (ps.size:Int))=true:=decide_eq_true h1
     go_wp2
     go_ret
     exact⟨false,rfl,fun h=>(by cases h),Below.refl _ _⟩
    ·have g2:decide (100 < (ps.size:Int))=false:=decide_eq_false h1
     by_cases h2:400 < wrap64 (wrap64 (z+(n:Int))+1)
     ·have g3:decide (400 < wrap64 (wrap64 (z+(n:Int))+1))=true:=decide_eq_true h2
      go_wp2
      go_ret
      exact⟨false,rfl,fun h=>(by cases h),Below.refl _ _⟩
     ·have g3:decide (400 < wrap64 (wrap64 (z+(n:Int))+1))=false:=decide_eq_false h2
      by_cases h3:30 < (name.size:Int)
      ·have g4:decide (30 < (name.size:Int))=true:=decide_eq_true h3
       go_wp2
       go_ret
       exact⟨false,rfl,fun h=>(by cases h),Below.refl _ _⟩
      ·have g4:decide (30 < (name.size:Int))=false:=decide_eq_false h3
       by_cases h4:10 < (vl:Int)
       ·have g5:decide (10 < (vl:Int))=true:=decide_eq_true h4
        go_wp2
        go_ret
        exact⟨false,rfl,fun h=>(by cases h),Below.refl _ _⟩
       ·have g5:decide (10 < (vl:Int))=false:=decide_eq_false h4
        have HS1:=hide h1;have HS3:=hide h3;have HS4:=hide h4
        clear h1 h2 h3 h4
        go_wp2_with fail
        refine(zhl wr _ ops 20 HOV.out (by decide)).mono ?_
        rintro e w2 ⟨rfl,hw2⟩
        subst hw2
        obtain⟨bo,hbo⟩:∃ bo,lightL ops 20=bo:=⟨_,rfl⟩
        rw [hbo]
        have HBO:=hide hbo
        clear hbo HOV
        cases bo with
        | false=>
         go_wp2
         go_ret
         exact⟨false,rfl,fun h=>(by cases h),Below.refl _ _⟩
        | true=>
         have HS':Hid (∀ p∈al.take (k+1),lightP p):=fun q hq=>by
          rw [HTK.out] at hq
          rcases List.mem_append.1 hq with hq | hq
          ·exact HS.out q hq
          ·rw [List.mem_singleton] at hq
           rw [hq]
           have h1:=HS1.out;have h3:=HS3.out;have h4:=HS4.out;have h5:=HVL.out
           refine⟨?_,?_,?_,HBO.out⟩
           ·show ps.size≤100;omega
           ·show name.size≤30;omega
           ·show vs.length≤10;omega
         go_wp2
         go_roundw
         case rel=>exact⟨k+1,_,by omega,by go_num,rfl,HS',by first | rfl | trivial⟩
         case measure=>simp [intOf];omega
   ·obtain rfl:k=n0:=by omega
    rw [← HN.out,List.take_length] at HS
    go_wp2
    go_ret
    exact⟨true,rfl,fun _=>⟨by have:=HL.out;omega,HS.out⟩,Below.refl _ _⟩
end Go.Proofs.YtnhbfehfipafoaaGreatDoor
/- What a walk over a store wants: one commit on both sides; what stays. -/
namespace Go.Proofs.YtnhbfehfipafoaaGreatDoor
open Go.RowKit
def comL (l:List Nmd)(os:List OpV)(m:Nat):List Nmd:=if comF l os m=0 then (allC l os).2 else l
def comN (l:List Nmd)(os:List OpV)(m en:Nat):Nat:=if comF l os m=0 then comE os m en else en
theorem CmP.free {w w':World}{base S B:Nat}{D:Dsk}{m:Nat}{l:List Nmd}{en:Nat}{os:List OpV}{e:Ending}(h:CmP w base S B D m l en os e w')(hf:Free D):
  ∃ D' h',e=.returned (errV (comF l os m))∧StoreP w' base S B D' m h' (comL l os m) (comN l os m en)∧Free D'∧KeptS base w w':=by
 obtain⟨h1,hk⟩:=h
 rcases h1 with⟨hne,rfl,h',hp⟩ |⟨h0,D',b,rfl,-,hok,-,hfr⟩
 ·refine⟨D,h',?_,?_,hf,hk⟩
  ·unfold errV;rw [if_neg hne]
  ·unfold comL comN;rw [if_neg hne,if_neg hne];exact hp
 ·obtain⟨rfl,hf'⟩:=hfr hf
  obtain⟨h',hp⟩:=hok rfl
  refine⟨D',h',?_,?_,hf',hk⟩
  ·rw [h0];rfl
  ·unfold comL comN;rw [if_pos h0,if_pos h0];exact hp
theorem RcmP.both {w w':World}{M:Nat}{o:Option Addr}{n k:Nat}{us mn:Nat}{qs:List Nc}{l:List Nmd}{os:List OpV}{e:Ending}(h:RcmP w M (.slice o n k) us mn l os e w')(hc:CatN w (.slice o n k) qs)(hq:qs.map (·.x)=l):
  e=.returned (.int .i64 ((comF l os (mn+82):Nat):Int))∧∃ o' n' k' qs',RstB w' M (.slice o' n' k') ((comN l os (mn+82) us:Nat):Int) mn∧CatN w' (.slice o' n' k') qs'∧qs'.map (·.x)=comL l os (mn+82)∧ButB w.heap.size M w w':=by
 obtain⟨h0,h1⟩:=h
 refine⟨h0,?_⟩
 rcases h1 with⟨hne,hx,hb⟩ |⟨hz,o',n',k',qs',hx,hc',hq',hb⟩
 ·refine⟨o,n,k,qs,?_,hc.below hb,?_,ButB.of hb⟩
  ·unfold comN;rw [if_neg hne];exact hx
  ·unfold comL;rw [if_neg hne];exact hq
 ·refine⟨o',n',k',qs',?_,hc',?_,hb⟩
  ·unfold comN;rw [if_pos hz];exact hx
  ·unfold comL;rw [if_pos hz];exact hq'
theorem zdK {l:List Nmd}{os:List OpV}{m en:Nat}(he:en≤m - 82):comN l os m en≤m - 82:=by
 unfold comN
 split
 ·rename_i h0
  unfold comF at h0
  split at h0
  ·cases h0
  ·split at h0
   ·rename_i h1
    exact absurd h0 h1
   ·split at h0
    ·cases h0
    ·unfold comE
     split <;> omega
 ·exact he
theorem zV {W W':World}{M:Nat}{cs:Array Value}{t:TypeId}(hm:W.heap[M]?=some (.cells cs t (0,0)))(ht:¬ kinT t)(hk:ButB W.heap.size M W W'):KeepK W W':=fun b hb=>hk.block b hb.lt (fun e=>by
 subst e
 obtain⟨cs',t',fz',h,ht'⟩:=hb
 rw [hm] at h
 simp only [Option.some.injEq,Obj.cells.injEq] at h
 rw [← h.2.1] at ht'
 exact ht ht')
theorem DiskO.but {W W':World}{base B:Nat}{D:Dsk}(h:DiskO W base B D){M:Nat}{cs:Array Value}{t:TypeId}(hm:W.heap[M]?=some (.cells cs t (0,0)))(ht:¬ diskT t)(hk:ButB W.heap.size M W W'):DiskO W' base B D:=by
 obtain⟨sv,ls,h⟩:=h
 have key:∀(b:Nat) (cs':Array Value) (t':TypeId) (fz:Nat × Nat),W.heap[b]?=some (.cells cs' t' fz)→diskT t'→W'.heap[b]?=W.heap[b]?:=fun b cs' t' fz hb hd=>hk.block b (zd hb) (fun e=>by
  subst e
  rw [hm] at hb
  simp only [Option.some.injEq,Obj.cells.injEq] at hb
  rw [← hb.2.1] at hd
  exact ht hd)
 exact⟨sv,ls,h.low,(key _ _ _ _ h.head (.inl rfl)).trans h.head,h.len,ownsKeep h.own (fun b cs' fz hb=>key b cs' _ fz hb (.inr (.inl rfl))),fun i s v h1 h2=>ownsKeep (h.loose i s v h1 h2) (fun b cs' fz hb=>key b cs' _ fz hb (.inr (.inr rfl))),h.apart,h.ok,h.num,h.left⟩
theorem StoreP.but {W W':World}{base S B:Nat}{D:Dsk}{m:Nat}{h:Hd}{l:List Nmd}{en:Nat}(x:StoreP W base S B D m h l en){M:Nat}{cs:Array Value}{t:TypeId}(hm:W.heap[M]?=some (.cells cs t (0,0)))(ht:¬ stoT t)(ht2:¬ kinT t)(hk:ButB W.heap.size M W W'):StoreP W' base S B D m h l en:=by
 obtain⟨⟨L,o,n,c,qs,x1,x2,x3,x4,x5,x6⟩,hd,hi⟩:=x
 refine⟨⟨L,o,n,c,qs,(hk.block S (zd x1) (fun e=>?_)).trans x1,x2.keepK (zV hm ht2 hk),x3,(hk.block L (zd x4) (fun e=>?_)).trans x4,x5,x6⟩,hd.but hm (fun h=>ht (.inl (.inl h))) hk,hi⟩
 ·subst e
  rw [show W.heap[S]?=_ from x1] at hm
  simp only [Option.some.injEq,Obj.cells.injEq] at hm
  exact ht (.inr hm.2.1.symm)
 ·subst e
  rw [show W.heap[L]?=_ from x4] at hm
  simp only [Option.some.injEq,Obj.cells.injEq] at hm
  exact ht (.inl (.inr hm.2.1.symm))
theorem KeptS.stays {base:Nat}{W W':World}(hk:KeptS base W W'){b:Nat}{cs:Array Value}{t:TypeId}{fz:Nat × Nat}(hb:W.heap[b]?=some (.cells cs t fz))(ht:¬ stoT t):W'.heap[b]?=some (.cells cs t fz):=
 (hk.block b (zd hb) (.inr fun cs' t' fz' hx=>by
  rw [hb] at hx
  simp only [Option.some.injEq,Obj.cells.injEq] at hx
  rw [← hx.2.1]
  exact ht)).trans hb
theorem ButB.stays {M:Nat}{W W':World}(hk:ButB W.heap.size M W W'){b:Nat}{cs:Array Value}{t:TypeId}{fz:Nat × Nat}(hb:W.heap[b]?=some (.cells cs t fz))(hn:b≠M):W'.heap[b]?=some (.cells cs t fz):=(hk.block b (zd hb) hn).trans hb
theorem zfg:¬ stoT 39:=by unfold stoT logT diskT;decide
theorem zdc:¬ stoT 46:=by unfold stoT logT diskT;decide
def ActB (W:World)(Q:Nat)(p:ActW):Prop:=W.heap[Q]?=some (.cells p.cells.toArray 46 (0,0))
theorem ActB.new (W:World)(p:ActW):ActB (W.alloc (.cells p.cells.toArray 46)) W.heap.size p:=heap_alloc_new W _
theorem ActB.later {W W':World}{Q:Nat}{p:ActW}(h:ActB W Q p)(hb:Below W.heap.size W W'):ActB W' Q p:=(hb.block _ (zd h)).trans h
theorem ActB.keptS {W W':World}{base Q:Nat}{p:ActW}(h:ActB W Q p)(hk:KeptS base W W'):ActB W' Q p:=hk.stays h zdc
theorem ActB.ne {W:World}{Q M:Nat}{p:ActW}(h:ActB W Q p){v:Value}{us mn:Int}(hm:RstB W M v us mn):Q≠M:=fun e=>by
 subst e
 unfold ActB at h
 unfold RstB at hm
 rw [h] at hm
 simp only [Option.some.injEq,Obj.cells.injEq] at hm
 exact absurd hm.2.1 (by decide)
theorem ActB.cells {W:World}{Q:Nat}{p:ActW}(h:ActB W Q p):∀ j u,p.cells[j]?=some u→W.cell? ⟨Q,j,none⟩=some u:=fun j u hu=>by
 rw [cell_of_row W Q j _ _ _ h]
 simpa using hu
end Go.Proofs.YtnhbfehfipafoaaGreatDoor
