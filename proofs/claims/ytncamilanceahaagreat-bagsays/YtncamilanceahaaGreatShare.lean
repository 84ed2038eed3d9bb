import Derived.Test.YtncamilanceahaaGreatRefS
set_option maxRecDepth 100000
set_option maxHeartbeats 3200000
set_option linter.unusedSimpArgs false
namespace Go.Proofs.YtncamilanceahaaGreat
open Go.RowKit Limbs
variable{w:World}{v:Value}{nv:Nat}
theorem zjG {zs ys:List (List Int)}{k:Nat}(h1:k<zs.length)(h2:k<ys.length)(h:zs.take k=ys.take k)(e:zs[k]=ys[k]):zs.take (k+1)=ys.take (k+1):=by
 rw [List.take_succ_eq_append_getElem h1,List.take_succ_eq_append_getElem h2,h,e]
theorem zjh (w:World)(va vb:Value)(zss yss:List (List Int))(n m:Nat)(ha:MatN w va zss n)(hb:MatN w vb yss m)(hzl:zss.length≤100000)(hz:∀ zs∈zss,zs.length≤100000)(r:Bool)(hr:r=decide (zss=yss)):
  Calls Tryz.prog 26 #[va,vb] w fun e w'=>e=.returned (.bool r)∧Below w.heap.size w w':=by
 have HA:=hide ha;have HB:=hide hb;have HR:=hide hr;have HZ:=hide hz;clear hr hz;by_cases hl:zss.length=yss.length
 ·obtain⟨ao,acap,rfl,-,-⟩:=ha;obtain⟨bo,bcap,rfl,-,-⟩:=hb;have hl1:((zss.length:Int) ==(yss.length:Int))=true:=by rw [beq_iff_eq];omega
  have hl2:((zss.length:Int) !=(yss.length:Int))=false:=by rw [bne_eq_false_iff_eq];omega
  have HLN:=hide hl;clear hl;go_enter Tryz.func26,Tryz.ntmps26;go_wp2;go_loopw [5] (fun i wr=>∃ k:Nat,k≤zss.length∧i=.int .i64 k∧Hid (zss.take k=yss.take k)∧Below w.heap.size w wr) (fun i _=>zss.length-(intOf i).toNat)
  case atStart=>exact⟨0,Nat.zero_le _,rfl,by show _=_;simp,zB _ _⟩
  case round=>
   obtain⟨k,hk,rfl,HG,hbe⟩:=hrel;have HBE:=hide hbe;clear hbe;by_cases hkl:k<zss.length
   ·have hky:k<yss.length:=by have:=HLN.out;omega
    obtain⟨ab,aoff,_,e,la,ua,a0,na⟩:=(HA.out.below HBE.out zL).at k hkl;simp only [zV,true_and] at e;obtain⟨rfl,rfl⟩:=e;obtain⟨bb,boff,_,e,lb,ub,b0,nb⟩:=(HB.out.below HBE.out zL).at k hky;simp only [zV,true_and] at e;obtain⟨rfl,rfl⟩:=e;have NA:=hide na;have NB:=hide nb;have HTS:=hide (fun e=>zjG hkl hky HG.out e);have hzk:=HZ.out _ (List.getElem_mem hkl);have HNE:Hid (zss[k]≠yss[k]→r=false):=fun h=>by
     rw [HR.out];exact decide_eq_false fun e=>h (by simp only [e])
    clear na nb;generalize zss[k]=z at *;generalize yss[k]=y at *;obtain⟨uo1,uc1,rfl,-,-⟩:=NA.out;obtain⟨uo2,uc2,rfl,-,-⟩:=NB.out;go_wp2_with fail
    go_region_held3 (fun w'=>w'.cell? ⟨ab,aoff+k,none⟩=some (.slice uo1 z.length uc1)∧w'.cell? ⟨bb,boff+k,none⟩=some (.slice uo2 y.length uc2)) (go_keep)
     (first
      |(go_at_call 41;refine(zji _ _ _ z y n m (by exact NA.out) (by exact NB.out) hzk _ rfl).mono ?_;rintro e w1 ⟨rfl,hb1⟩;have HB1:=hide (show Below w.heap.size w w1 from HBE.out.drew.trans (hb1.mono HBE.out.size));have p0:=(hb1.cell (p:=⟨ab,aoff+k,none⟩) la).trans a0;have p1:=(hb1.cell (p:=⟨bb,boff+k,none⟩) lb).trans b0;clear hb1))
    by_cases hz:z=y
    ·have HG':=hide (HTS.out hz);have ez:decide (z=y)=true:=decide_eq_true hz;rw [ez];clear HTS HNE hz ez p0 p1 a0 b0;go_wp2;go_roundw
     case rel=>exact⟨k+1,by omega,by go_num,HG',HB1.out⟩
     case measure=>simp [intOf];omega
    ·have ez:decide (z=y)=false:=decide_eq_false hz;rw [ez];obtain rfl:r=false:=HNE.out hz;clear HTS HNE hz ez p0 p1 a0 b0;go_wp2;go_ret;exact⟨rfl,HB1.out⟩
   ·obtain rfl:k=zss.length:=by omega
    have HE:Hid (zss=yss):=by
     have:=HG.out;rw [List.take_length,List.take_of_length_le (by have:=HLN.out;omega)] at this;exact this
    obtain rfl:r=true:=by rw [HR.out];exact decide_eq_true HE.out
    clear HG HE;go_wp2;go_ret;exact⟨rfl,HBE.out⟩
 ·obtain⟨ao,acap,rfl,-,-⟩:=ha;obtain⟨bo,bcap,rfl,-,-⟩:=hb;have hl1:((zss.length:Int) ==(yss.length:Int))=false:=by rw [beq_eq_false_iff_ne];omega
  have hl2:((zss.length:Int) !=(yss.length:Int))=true:=by rw [bne_iff_ne];omega
  obtain rfl:r=false:=by rw [HR.out];exact decide_eq_false fun e=>hl (by rw [e])
  go_enter Tryz.func26,Tryz.ntmps26;go_wp2;go_ret;exact⟨rfl,zB _ _⟩
def LatN (w:World)(v:Value)(n:Nat)(hs:List (List Int))(nv:Nat):Prop:=(∃ u,v=.agg #[.int .i64 (n:Int),u]∧MatN w u hs nv)∧∃ p,FormL n hs p
theorem LatN.below{w':World}{n:Nat}{hs:List (List Int)}(h:LatN w v n hs nv)(hb:Below w.heap.size w w'):LatN w' v n hs nv:=by
 obtain⟨⟨u,e,hu⟩,hp⟩:=h;exact⟨⟨u,e,hu.below hb zL⟩,hp⟩
theorem MatN.setBasis{W:World}{B:Nat}{u:Value}{hs:List (List Int)}{x:Int}(y z:Value)(h:MatN W u hs nv)(hpos:∀ zs∈hs,0<zs.length)(c0:W.cell? ⟨B,0,none⟩=some (.int .i64 x))(c1:W.cell? ⟨B,1,none⟩=some (.slice none 0 0)):
  MatN ((W.setCell ⟨B,0,none⟩ y).setCell ⟨B,1,none⟩ z) u hs nv:=by
 have k1:(W.setCell ⟨B,0,none⟩ y).cell? ⟨B,1,none⟩=some (.slice none 0 0):=Eq.trans (World.cell?_setCell_other (h:=fun e=>by simp at e) ..) c1
 have stay:∀(b o:Nat) (v:Value),W.cell? ⟨b,o,none⟩=some v→¬(b=B∧o=0)→¬(b=B∧o=1)→((W.setCell ⟨B,0,none⟩ y).setCell ⟨B,1,none⟩ z).cell? ⟨b,o,none⟩=some v:=fun b o v hv h0 h1=>
  Eq.trans (World.cell?_setCell_other (h:=fun e=>h1 (by simp only [Addr.mk.injEq,and_true] at e;exact⟨e.1.symm,e.2.symm⟩)) ..) (Eq.trans (World.cell?_setCell_other (h:=fun e=>h0 (by simp only [Addr.mk.injEq,and_true] at e;exact⟨e.1.symm,e.2.symm⟩)) ..) hv)
 have hsz:((W.setCell ⟨B,0,none⟩ y).setCell ⟨B,1,none⟩ z).heap.size=W.heap.size:=by simp
 obtain⟨ao,cap,hv,h1,h2⟩:=h;refine⟨ao,cap,hv,h1,fun hh=>?_⟩;obtain⟨b,off,e,hlt,hc⟩:=h2 hh;refine⟨b,off,e,by rw [hsz];exact hlt,fun i zs hi=>?_⟩;obtain⟨v,cv,hv⟩:=hc i zs hi;have hzs:=hpos zs (List.mem_of_getElem? hi);obtain⟨vb,voff,vcap,rfl⟩:=hv.form hzs;refine⟨_,stay _ _ _ cv (fun⟨e1,e2⟩=>?_) (fun⟨e1,e2⟩=>?_),?_⟩
 ·rw [e1,e2,c0] at cv;cases cv
 ·rw [e1,e2,c1] at cv;cases cv
 ·have hat:=fun j (hj:j<zs.length)=>hv.at j hj;obtain⟨_,_,ev,g1,-⟩:=hv;refine⟨_,_,ev,g1,fun _=>⟨vb,voff,?_,by rw [hsz];exact(hat 0 hzs).1,fun j hj=>?_⟩⟩
  ·simp only [zV,true_and] at ev;exact ev.1.symm
  ·obtain⟨-,neg,o,l,c,d0,d1,hn⟩:=hat j hj;refine⟨neg,o,l,c,stay _ _ _ d0 (fun⟨e1,e2⟩=>?_) (fun⟨e1,e2⟩=>?_),stay _ _ _ d1 (fun⟨e1,e2⟩=>?_) (fun⟨e1,e2⟩=>?_),(hn.setCell c0 (by simp)).setCell k1 (by simp)⟩
   ·rw [e1,e2,c0] at d0;cases d0
   ·rw [e1,e2,c1] at d0;cases d0
   ·rw [e1,e2,c0] at d1;cases d1
   ·have e3:voff+j*2=0:=by omega
    rw [e1,e3,c0] at d0;cases d0
theorem zjR (w:World)(a0 a1 b0 b1:Value)(t t':TypeId):Box ((w.alloc (.cells #[a0,a1] t)).alloc (.cells #[b0,b1] t')) w.heap.size a0 a1∧Box ((w.alloc (.cells #[a0,a1] t)).alloc (.cells #[b0,b1] t')) (w.heap.size+1) b0 b1∧Below w.heap.size w ((w.alloc (.cells #[a0,a1] t)).alloc (.cells #[b0,b1] t'))∧w.heap.size+1<((w.alloc (.cells #[a0,a1] t)).alloc (.cells #[b0,b1] t')).heap.size:=
 ⟨(zl w a0 a1 t _ rfl).later ((zB (w.heap.size+1) _).alloc (by simp) _) (by omega),zl _ b0 b1 t' _ (by simp),((zB w.heap.size w).alloc zL _).alloc (by simp) _,by simp⟩
theorem zje (w:World)(va vb:Value)(n nv mv:Nat)(hs ks:List (List Int))(ha:LatN w va n hs nv)(hb:LatN w vb n ks mv)(hn:n≤1000):
  Calls Tryz.prog 12 #[va,vb] w fun e w'=>e=.returned (.bool (decide (hs=ks)))∧Below w.heap.size w w':=by
 obtain⟨⟨u,rfl,hu⟩,p,hF⟩:=ha;obtain⟨⟨v,rfl,hv⟩,q,hG⟩:=hb;have HU:=hide hu;have HV:=hide hv;have h1:=hF.short;have HLE:Hid (∀ zs∈hs,zs.length≤100000):=fun zs hz=>by have:=hF.len zs hz;omega
 obtain⟨uo,ucap,rfl,-,-⟩:=hu;obtain⟨vo,vcap,rfl,-,-⟩:=hv;clear hF hG;have HX:=hide (zjR w (.int .i64 (n:Int)) (.slice uo hs.length ucap) (.int .i64 (n:Int)) (.slice vo ks.length vcap) 33 33);obtain⟨⟨c0,c1,z0,z1⟩,⟨d0,d1,y0,y1⟩,-,-⟩:=HX.out;go_enter Tryz.func12,Tryz.ntmps12;go_wp2_with fail;clear c0 c1 z0 z1 d0 d1 y0 y1;generalize ((w.alloc (.cells #[.int .i64 (n:Int),.slice uo hs.length ucap] 33)).alloc (.cells #[.int .i64 (n:Int),.slice vo ks.length vcap] 33))=W0 at *;refine(zjh W0 _ _ hs ks nv mv (by exact HU.out.below HX.out.2.2.1 zL) (by exact HV.out.below HX.out.2.2.1 zL) (by omega) HLE.out _ rfl).mono ?_;rintro e w1 ⟨rfl,hb1⟩;have HB1:=hide (HX.out.2.2.1.trans (hb1.mono HX.out.2.2.1.size));obtain⟨c0,c1,z0,z1⟩:=HX.out.1.later hb1 (by have:=HX.out.2.2.2;omega);obtain⟨d0,d1,y0,y1⟩:=HX.out.2.1.later hb1 HX.out.2.2.2;generalize hr:decide (hs=ks)=r at *;clear hb1 HX HU HV;have HRR:=hide hr;clear hr;go_wp2;go_ret;exact⟨by rw [HRR.out];rfl,HB1.out⟩
open Digs
theorem NumR.few{z:Int}(h:NumR w v z 5)(h1:-999≤z)(h2:z≤999):NumR w v z 4:=by
 obtain⟨s,sl,ds,e,hd,hn,hz,hs,hl⟩:=h;refine⟨s,sl,ds,e,hd,hn,hz,hs,?_⟩;obtain⟨-,-,-,-,-,hb,-⟩:=hd;by_cases h5:ds.length=5
 ·match ds,h5 with
  | [a,b,c,d,f],_=>
   have b0:=hb 0;have b1:=hb 1;have b2:=hb 2;have b3:=hb 3;have b4:=hb 4;have hf:f≠0:=by
    rcases hn with hn | hn
    ·simp at hn
    ·simpa using hn
   simp only [List.getD_cons_zero,List.getD_cons_succ] at b0 b1 b2 b3 b4;simp only [dv] at hz;rcases hs with⟨h0,-⟩ |⟨-,rfl | rfl⟩
   ·simp at h0
   ·omega
   ·omega
 ·omega
theorem zer{g:List Int}{n:Int}(h:genF g n=0):(g.length:Int)=n∧∀ z∈g,-999≤z∧z≤999:=by
 obtain⟨h1,h2⟩:=zag.1 h;exact⟨h1,h2⟩
def GbPost (w:World)(x:Nmd)(e:Ending)(w':World):Prop:=
 ∃(N nv:Nat) (u:Value) (hs:List (List Int)),x.n=(N:Int)∧e=.returned u∧LatN w' u N hs nv∧Alikes N (InL hs) (InL x.gens)∧Below w.heap.size w w'
theorem zhG (w:World)(q:Nc)(hq:NcIn w q)(hok:NmOk q.x):Calls Tryz.prog 13 #[q.val] w fun e w'=>GbPost w q.x e w':=by
 obtain⟨⟨nm,n,gens⟩,go,gl,gc⟩:=q;have hin:RowsS w (.slice go gl gc) gens:=hq;have hgl:gl=gens.length:=by
  obtain⟨_,_,e,-⟩:=id hin;simp only [zV] at e;exact e.2.1
 subst hgl;obtain⟨N,hN⟩:∃ N:Nat,n=(N:Int):=⟨n.toNat,by have h2:1≤n∧n≤4:=hok.n;omega⟩;subst hN;have hn14:(1:Int)≤N∧(N:Int)≤4:=hok.n;have h1:1≤N:=by omega
 have h4:N≤4:=by omega
 have hfew:gens.length≤10:=hok.few;have HLEN:Hid (∀ us∈gens,us.length=N):=fun us hu=>by have h:(us.length:Int)=(N:Int):=(zer (hok.gens us hu)).1;omega
 have HSM:Hid (∀ us∈gens,∀ z∈us,-999≤z∧z≤999):=fun us hu=>(zer (hok.gens us hu)).2;have HDT:Hid (dT 4 (gens.length+min gens.length N+1)≤1000000000):=Nat.le_trans (zae (j:=15) (by omega)) (by decide);have HEB:Hid (eB (dT 4 (gens.length+min gens.length N)+7) N≤1000000):=by
  have h:=zae (a:=4) (i:=gens.length+min gens.length N) (j:=14) (by omega);have h':dT 4 14=196600:=by decide
  show eB _ _≤_;unfold eB;rw [h'] at h;have h5:N *(dT 4 (gens.length+min gens.length N)+7+8)≤4 *(196600+7+8):=Nat.mul_le_mul h4 (by omega);omega
 have HFIN:Hid (∀(u:Value) (hs:List (List Int)) (nv:Nat) (w':World),LatN w' u N hs nv→Alikes N (InL hs) (InL gens)→Below w.heap.size w w'→GbPost w ⟨nm,(N:Int),gens⟩ (.returned u) w'):=fun u hs nv w' a1 a2 a3=>⟨N,nv,u,hs,rfl,rfl,a1,a2,a3⟩;have HIN:=hide hin;clear hq hin hok hn14;show Calls _ _ #[.agg #[.string nm,.int .i64 (N:Int),.slice go gens.length gc]] w _;obtain⟨i0,hi,hz0,hz1,hz2⟩:=info_parts Tryz.infoRNum;obtain⟨j0,hj,hy0,hy1,hy2⟩:=info_parts Tryz.infoRRow;have hb1:=zi w (.cells #[.string nm,.int .i64 (N:Int),.slice go gens.length gc] 25);have hs1:(w.alloc (.cells #[.string nm,.int .i64 (N:Int),.slice go gens.length gc] 25)).heap.size=w.heap.size+1:=by simp
 have hb2:=zi (w.alloc (.cells #[.string nm,.int .i64 (N:Int),.slice go gens.length gc] 25)) (.cells #[.int .i64 0,.slice none 0 0] 33);have X10:=hide ((ThreeV.new w (.string nm) (.int .i64 (N:Int)) (.slice go gens.length gc) 25).later hb2);have X20:Hid (Box ((w.alloc (.cells #[.string nm,.int .i64 (N:Int),.slice go gens.length gc] 25)).alloc (.cells #[.int .i64 0,.slice none 0 0] 33)) (w.heap.size+1) (.int .i64 0) (.slice none 0 0)):=zl _ _ _ _ _ hs1.symm;have HB0:=hide (hb1.trans (hb2.mono hb1.size));have HL0:Hid (w.heap.size+1<((w.alloc (.cells #[.string nm,.int .i64 (N:Int),.slice go gens.length gc] 25)).alloc (.cells #[.int .i64 0,.slice none 0 0] 33)).heap.size):=by show _<_;simp
 clear hb1 hb2 hs1;go_enter Tryz.func13,Tryz.ntmps13;go_wp2_with fail;generalize (w.alloc (.cells #[.string nm,.int .i64 (N:Int),.slice go gens.length gc] 25)).alloc (.cells #[.int .i64 0,.slice none 0 0] 33)=W0 at *;go_loopw [3,4] (fun out i wr=>∃(k:Nat) (qs:List (Value × List Int)),k≤gens.length∧i=.int .i64 k∧GrowM wr W0.heap.size out qs 4∧Hid (qs.map (·.2)=gens.take k)∧Below W0.heap.size W0 wr) (fun _ i _=>gens.length-(intOf i).toNat)
 case atStart=>exact⟨0,[],Nat.zero_le _,rfl,⟨World.ownsRow_nil _ _ _ _,fun _ h=>by cases h⟩,by show _=_;simp,zB _ _⟩
 case round=>
  obtain⟨k,qs,hk,rfl,hgm,HQ,hbo⟩:=hrel;have HGM:=hide hgm;have HBO:=hide hbo;have HBE:=hide (HB0.out.trans (hbo.mono HB0.out.size));have HX:=hide (X10.out.later hbo);have HQL:Hid (qs.length=k):=by
   have:=congrArg List.length HQ.out;rw [zM,List.length_take] at this;show qs.length=k;omega
  obtain⟨c0,c1,c2,hlt1⟩:=HX.out;clear hgm hbo;by_cases hkl:k<gens.length
  ·obtain⟨_,_,e,-,hh⟩:=HIN.out;simp only [zV,true_and] at e;obtain⟨rfl,rfl⟩:=e;obtain⟨b,off,rfl,hblt,hc⟩:=hh (by omega);obtain⟨u,cu0,hu⟩:=hc k gens[k] (List.getElem?_eq_getElem hkl);have HUL:=hide (HLEN.out gens[k] (List.getElem_mem hkl));have HUS:=hide (HSM.out gens[k] (List.getElem_mem hkl));have HQ':Hid (∀ r:Value,(qs++[(r,gens[k])]).map (·.2)=gens.take (k+1)):=fun r=>by
    rw [List.map_append,HQ.out,List.take_succ_eq_append_getElem hkl];rfl
   obtain⟨vo,vcap,rfl⟩:=hu.form;have HU:=hide hu;clear hh hc hu;generalize gens[k]=zs at *;obtain⟨lz,hlz⟩:∃ l,zs.length=l:=⟨_,rfl⟩;have hlz1:lz≤4:=by have:=HUL.out;omega
   rw [hlz] at cu0 HU;have HLZ:=hide hlz;clear hlz;have cu:=(HBE.out.cell (p:=⟨b,off+k,none⟩) hblt).trans cu0;go_wp2;obtain⟨wo,rfl⟩:∃ wo:World,wo=wr:=⟨_,rfl⟩;go_loopw [5,6] (fun r i wr=>∃(p:Nat) (ps:List (Rn × Int)),p≤lz∧i=.int .i64 p∧GrowR wr wo.heap.size r ps 4∧Hid (ps.map (·.2)=zs.take p)∧Below wo.heap.size wo wr) (fun _ i _=>lz-(intOf i).toNat)
   case atStart=>exact⟨0,[],Nat.zero_le _,rfl,GrowR.nil _ _ _,by show _=_;simp,zB _ _⟩
   case round=>
    obtain⟨p,ps,hp,rfl,hgr,HP,hbi⟩:=hrel;have HGR:=hide hgr;have HBI:=hide hbi;have HPL:Hid (ps.length=p):=by
     have:=congrArg List.length HP.out;rw [zM,List.length_take,HLZ.out] at this;show ps.length=p;omega
    have HXI:=hide (HX.out.later hbi);have HBW:=hide (HBE.out.trans (hbi.mono HBE.out.size));clear hgr hbi c0 c1 c2;obtain⟨c0,c1,c2,hlt1⟩:=HXI.out;have cu2:=(HBW.out.cell (p:=⟨b,off+k,none⟩) hblt).trans cu0;by_cases hpl:p<lz
    ·have hpz:p<zs.length:=by have:=HLZ.out;omega
     obtain⟨_,_,e,-,hrg,hcx⟩:=HU.out.below HBW.out zL;simp only [zV,true_and,HLZ.out] at e;obtain⟨rfl,rfl⟩:=e;obtain⟨xb,xoff,rfl,hxlt,hcx⟩:=hcx (by omega);have cx:=hcx p hpz;obtain⟨zlo,zhi⟩:=hrg p;have HZS:Hid (-999≤zs.getD p 0∧zs.getD p 0≤999):=by
      rw [zG,List.getElem?_eq_getElem hpz,Option.getD_some];exact HUS.out _ (List.getElem_mem hpz)
     have HP':Hid (∀ r:Rn,(ps++[(r,zs.getD p 0)]).map (·.2)=zs.take (p+1)):=fun r=>by
      rw [List.map_append,HP.out,List.take_succ_eq_append_getElem hpz,zG,List.getElem?_eq_getElem hpz];rfl
     clear hcx hrg hpz;generalize zs.getD p 0=z at *;go_wp2_with fail;refine(zaj wr z zlo zhi).mono ?_;rintro e w3 ⟨r,rfl,hr,hb3⟩;obtain⟨rs,ro,rl,rc,rfl,-⟩:=hr.form;have HG3:=hide (HGR.out.later hb3);have HB3:=hide (HBI.out.trans (hb3.mono HBI.out.size));have HR3:Hid (NumR w3 (Rn.val ⟨rs,ro,rl,rc⟩) z 4):=NumR.few hr HZS.out.1 HZS.out.2;have hown:=HG3.out.1;clear hr hb3 HGR HBI c0 c1 c2 cu2 cx HZS HBW HXI;go_wp2_with (at_builtin;refine wpList_append_lies _ rfl _ _ 74 rfl wo.heap.size 76 i0 (.agg #[.int .i64 0,.slice none 0 0]) 2 32 (by kernel_rfl) hi hz0 hz1 hz2 rfl (by decide) u5 ps.length (ps.flatMap rcells) rfl (hown.alloc _) ⟨w3.heap.size,0,none⟩ 1 1 [.int .i64 rs,.slice ro rl rc] rfl rfl (World.news_of_block (heap_alloc_new w3 _)) (fun u hu=>by simp only [List.mem_cons,List.mem_nil_iff,or_false] at hu;rcases hu with rfl | rfl <;> rfl) (by decide) (by unfold maxLen;have:=HPL.out;omega) (by have:=HPL.out;omega) (by simp;have:=HB3.out.size;omega) (w3.heap.size+1) (by simp) ?_);intro g cap' w5 hown5 hgrow5 hat5 hlt5;have HN:=hide (zex HG3.out HR3.out hown5 hgrow5);have HB5:=hide (HB3.out.trans (zaC hown HB3.out.size hgrow5));have HP5:=hide (HP'.out ⟨rs,ro,rl,rc⟩);clear hown hown5 hgrow5 hat5 hlt5 HG3 HR3 HB3 HP' HP;go_wp2;go_roundw
     case rel=>exact⟨p+1,_,by omega,by go_num,HN.out,HP5,HB5.out⟩
     case measure=>simp [intOf];omega
    ·obtain rfl:p=lz:=by omega
     have HRR:Hid (RowR wr u5 zs 4):=by
      have:=HGR.out.row;rw [HP.out,← HLZ.out,List.take_length] at this;exact this
     have HG2:=hide (HGM.out.later HBI.out);have HB2:=hide (HBO.out.trans (HBI.out.mono HBO.out.size));obtain⟨so,sl,sc,rfl⟩:∃ so sl sc,u5=.slice so sl sc:=by
      obtain⟨so,sc,e,-⟩:=HRR.out;exact⟨_,_,_,e⟩
     have hown:=HG2.out.1;clear HGR HP HPL;go_wp2_with (at_builtin;refine wpList_append_lies _ rfl _ _ 72 rfl W0.heap.size 74 j0 (.slice none 0 0) 1 24 (by kernel_rfl) hj hy0 hy1 hy2 rfl (by decide) u3 qs.length (qs.map (·.1)) rfl (hown.alloc _) ⟨wr.heap.size,0,none⟩ 1 1 [.slice so sl sc] rfl rfl (World.news_of_block (heap_alloc_new wr _)) (fun u hu=>by rw [List.mem_singleton] at hu;rw [hu];rfl) (by decide) (by unfold maxLen;have:=HQL.out;omega) (by have:=HQL.out;omega) (by simp;have:=HB2.out.size;omega) (wr.heap.size+1) (by simp) ?_);intro g cap' w5 hown5 hgrow5 hat5 hlt5;have HN:=hide (zhM HG2.out HRR.out hown5 hgrow5);have HB5:=hide (HB2.out.trans (zaC hown HB2.out.size hgrow5));have HQ5:=hide (HQ'.out (.slice so sl sc));clear hown hown5 hgrow5 hat5 hlt5 HG2 HRR HB2 HQ' HQ cu2 c0 c1 c2;go_wp2;go_roundw
     case rel=>exact⟨k+1,_,by omega,by go_num,HN.out,HQ5,HB5.out⟩
     case measure=>simp [intOf];omega
  ·obtain rfl:k=gens.length:=by omega
   have HF:Hid (MatR wr u3 gens 4):=by
    have:=HGM.out.mat;rw [HQ.out,List.take_length] at this;exact this
   have XB:=hide (X20.out.later HBO.out HL0.out);have hlt2:w.heap.size+1<wr.heap.size:=zT HL0.out HBO.out.size;clear HGM HQ X10 X20 HX HBO HQL;go_wp2_with fail;refine zbW (A:=fun j=>decide (j=1∨j=4∨j=5∨j=6)) (S:=fun w'=>w'.cell? ⟨w.heap.size,1,none⟩=some (.int .i64 (N:Int))) (by kernel_rfl) (by exact c1) (fun hHeld=>?_);refine zcz 0 40 ?_;try simp only [zA]
   refine zcz 2 42 ?_;try simp only [zA]
   refine zcz 3 43 ?_;try simp only [zA]
   refine zk 1 41 [7,8] ?_;try simp only [zA]
   refine zk 4 44 [5,6,7,8] ?_;try simp only [zA]
   refine zo 5 (by kernel_rfl) rfl (fun K hK=>?_);go_simp;refine(zhX _ _ gens N 4 (HF.out.below (zB wr.heap.size wr).drew zL) HLEN.out h1 (by omega) (by omega) HDT.out).mono ?_;rintro e w5 ⟨u5',hs,pf,rfl,hm5,hl5,hf5,ha5,hb5'⟩;have hb5:Below wr.heap.size wr w5:=(zB _ _).drew.trans hb5';have d1:=(hb5.cell (p:=⟨w.heap.size,1,none⟩) hlt1).trans c1;have XB5:=hide (XB.out.later hb5 hlt2);have HB5:=hide (HBE.out.trans (hb5.mono HBE.out.size));have HM5:=hide hm5;have HFM:=hide hf5;have HAL:=hide ha5;have hlt5:w.heap.size+1<w5.heap.size:=zT hlt2 hb5.size;clear hm5 hf5 ha5 hb5';go_wp2_with fail;refine hK.out _ _ (fun _=>d1) ?_;clear hK K hHeld hb5;try simp only [zA]
   refine zo 6 (by kernel_rfl) rfl (fun K hK=>?_);go_simp;refine(ziq w5 _ hs _ HM5.out (by omega) (fun zs hz=>by rw [HFM.out.len zs hz];omega) HEB.out).mono ?_;rintro e w6 ⟨u6',rfl,hm6,hb6⟩;obtain⟨ao6,ac6,rfl,-,-⟩:=id hm6;have d2:=(hb6.cell (p:=⟨w.heap.size,1,none⟩) (show w.heap.size<w5.heap.size by omega)).trans d1;have XB6:=hide (XB5.out.later hb6 hlt5);have HB6:=hide (HB5.out.trans (hb6.mono HB5.out.size));have HM6:=hide hm6;clear hm6 HM5 HB5 XB5;go_wp2_with fail;refine hK.out _ _ (fun _=>d2) ?_;clear hK K hb6;try simp only [zA]
   refine zcz 7 47 ?_;try simp only [zA]
   obtain⟨x0,x1,y0,y1⟩:=XB6.out;refine zo 8 (by kernel_rfl) rfl (fun K hK=>?_);go_simp;refine hK.out _ _ (fun h=>absurd h (by decide)) ?_;clear hK K;try simp only [zA]
   refine zbV (by kernel_rfl) ?_;have HLAT:=hide (MatN.setBasis (.int .i64 (N:Int)) (.slice ao6 hs.length ac6) HM6.out (fun zs hz=>by rw [HFM.out.len zs hz];omega) x0 x1);have HBF:=hide ((HB6.out.setCell (p:=⟨w.heap.size+1,0,none⟩) (by show w.heap.size≤w.heap.size+1;omega) (.int .i64 (N:Int))).setCell (p:=⟨w.heap.size+1,1,none⟩) (by show w.heap.size≤w.heap.size+1;omega) (.slice ao6 hs.length ac6));have z0:((w6.setCell ⟨w.heap.size+1,0,none⟩ (.int .i64 (N:Int))).setCell ⟨w.heap.size+1,1,none⟩ (.slice ao6 hs.length ac6)).cell? ⟨w.heap.size+1,0,none⟩=some (.int .i64 (N:Int)):=(World.cell?_setCell_other _ _ _ _ (fun e=>by simp at e)).trans (World.cell?_setCell_same _ _ _ x0);have z1:((w6.setCell ⟨w.heap.size+1,0,none⟩ (.int .i64 (N:Int))).setCell ⟨w.heap.size+1,1,none⟩ (.slice ao6 hs.length ac6)).cell? ⟨w.heap.size+1,1,none⟩=some (.slice ao6 hs.length ac6):=World.cell?_setCell_same _ _ _ ((World.cell?_setCell_other _ _ _ _ (fun e=>by simp at e)).trans x1);go_wp2;exact bodyPost_ret (v:=.agg #[.int .i64 (N:Int),(.slice ao6 hs.length ac6)]) (by simp [results,Tryz.results13,go_sem,z0,z1]) rfl (HFIN.out _ hs _ _ ⟨⟨_,rfl,HLAT.out⟩,_,HFM.out⟩ HAL.out HBF.out)
end Go.Proofs.YtncamilanceahaaGreat
