import Derived.Test.YtdedolkgcdlmeaaGreatDoorDigs
set_option maxRecDepth 100000
set_option maxHeartbeats 1600000
namespace Go.Proofs.YtdedolkgcdlmeaaGreatDoor
open Go.RowKit Limbs Digs
variable{w wr w' w3:World}{B n C:Nat}{ds:List Int}{v u0 u1 d d':Value}{z r m X:Int}
def Dig (w:World)(v:Value)(ds:List Int):Prop:=
 ∃ ao cap,v=.slice ao ds.length cap∧ds.length≤cap∧ds.length≤1000000000000∧DB ds ∧
  (0<ds.length→∃ b off cur fz,ao=some ⟨b,off,none⟩∧w.heap[b]?=some (.cells cur 3 fz)∧∀ i,i<ds.length→w.cell? ⟨b,off+i,none⟩=some (.int .i64 (ds.getD i 0)))
theorem Dig.below(h:Dig w v ds)(hb:Below B w w')(hB:w.heap.size≤B):Dig w' v ds:=by
 obtain⟨ao,cap,hv,h1,h2,h3,h4⟩:=h;refine⟨ao,cap,hv,h1,h2,h3,fun h0=>?_⟩;obtain⟨b,off,cur,fz,e,hlt,hc⟩:=h4 h0;have hl:=zj hlt;exact⟨b,off,cur,fz,e,(hb.block b (by omega)).trans hlt,fun i hi=>(hb.cell (p:=⟨b,off+i,none⟩) (zT hl hB)).trans (hc i hi)⟩
theorem Dig.nil (w:World):Dig w (.slice none 0 0) []:=⟨none,0,rfl,Nat.le_refl _,by simp,zbc,fun h=>absurd h (by simp)⟩
theorem Dig.take{ao:Option Addr}{cap:Nat}(h:Dig w (.slice ao ds.length cap) ds)(n:Nat)(hn:n≤ds.length):Dig w (.slice ao n n) (ds.take n):=by
 obtain⟨ao',cap',hv,h1,h2,h3,h4⟩:=h;simp only [zV,true_and] at hv;obtain⟨rfl,rfl⟩:=hv;have hl:(ds.take n).length=n:=by rw [List.length_take];omega
 refine⟨ao,n,by rw [hl],by omega,by omega,zbD h3 n,fun h0=>?_⟩;obtain⟨b,off,cur,fz,e,hlt,hc⟩:=h4 (by omega);refine⟨b,off,cur,fz,e,hlt,fun i hi=>?_⟩;rw [hc i (by omega),zaC ds n i (by omega)]
theorem Dig.owns{base:Nat}(h:w.ownsRow base 3 1 v n (ds.map (Value.int .i64)))(hd:DB ds)(hl:ds.length≤1000000000000):Dig w v ds:=by
 have hn:n=ds.length:=by have:=h.1;rw [zM] at this;omega
 subst hn;rcases h.2 with⟨rfl,h0⟩ |⟨g,cap,cur,rfl,hb,hg,hc,hm,hs,ht⟩
 ·have:ds=[]:=List.eq_nil_of_length_eq_zero h0;subst this;exact Dig.nil w
 ·refine⟨_,cap,rfl,hc,hl,hd,fun h0=>⟨g,0,cur,(0,0),rfl,hg,fun i hi=>?_⟩⟩;have:=h.cellAt i (by omega);rw [Nat.zero_add,this];simp [List.getD_eq_getElem?_getD,hi]
def NumR (w:World)(v:Value)(z:Int)(n:Nat):Prop:=
 ∃(s:Int) (sl:Value) (ds:List Int),v=.agg #[.int .i64 s,sl]∧Dig w sl ds∧Nrm ds∧z=s*dv ds∧((ds.length=0∧s=0∧sl=.slice none 0 0)∨(0<ds.length∧(s=1∨s=-1)))∧ds.length≤n
theorem NumR.below(h:NumR w v z n)(hb:Below B w w')(hB:w.heap.size≤B):NumR w' v z n:=by
 obtain⟨s,sl,ds,h1,h2,h3⟩:=h;exact⟨s,sl,ds,h1,h2.below hb hB,h3⟩
theorem NumR.mono{m:Nat}(h:NumR w v z n)(hm:n≤m):NumR w v z m:=by
 obtain⟨s,sl,ds,h1,h2,h3,h4,h5,h6⟩:=h;exact⟨s,sl,ds,h1,h2,h3,h4,h5,by omega⟩
theorem NumR.zero (w:World)(n:Nat):NumR w (.agg #[.int .i64 0,.slice none 0 0]) 0 n:=
 ⟨0,_,[],rfl,Dig.nil w,.inl rfl,by simp,.inl ⟨rfl,rfl,rfl⟩,by simp⟩
def RefPost (w:World)(z:Int)(n:Nat)(e:Ending)(w':World):Prop:=
 ∃ v,e=.returned v∧NumR w' v z n∧Below w.heap.size w w'
theorem zeS(h0:0<n)(h:ds.getD (n-1) 0=0):dv (ds.take (n-1))=dv (ds.take n):=by
 have:=zaQ ds (n-1);rw [show n-1+1=n by omega,h] at this;omega
theorem zcq(h:DB ds)(hn:Nrm ds)(h0:ds.length≠0):0<dv ds:=by
 have h1:=zaP h;have h2:=zcr h hn;rcases(by omega:dv ds=0∨0<dv ds) with e | e
 ·exact absurd (h2.1 e) h0
 ·exact e
theorem zap (w:World)(s:Int)(v:Value)(ds:List Int)(h:Dig w v ds)(hs:s=1∨s=-1∨dv ds=0):
  Calls Tryz.prog 100 #[.int .i64 s,v] w fun e w'=>RefPost w (s*dv ds) ds.length e w':=by
 have HD:=hide h;have HS:=hide hs;obtain⟨ao,cap,rfl,hcap,hlen,hdb,hc⟩:=h;have hW:Below w.heap.size w (w.alloc (.cells #[.int .i64 0,.slice none 0 0] 40)):=(zB _ _).alloc zL _;have HW:=hide hW;have hc':0<ds.length→∃ b off,ao=some ⟨b,off,none⟩∧∀ i,i<ds.length→(w.alloc (.cells #[.int .i64 0,.slice none 0 0] 40)).cell? ⟨b,off+i,none⟩=some (.int .i64 (ds.getD i 0)):=fun h0=>by
  obtain⟨b,off,cur,fz,e,hlt,hc⟩:=hc h0;have hl:=zj hlt;exact⟨b,off,e,fun i hi=>(hW.cell (p:=⟨b,off+i,none⟩) hl).trans (hc i hi)⟩
 clear hc hs hW;go_enter Tryz.func100,Tryz.ntmps100;go_wp2
 go_loop [5] (fun t=>∃ n:Nat,n≤ds.length∧t=.int .i64 n∧Hid (dv (ds.take n)=dv ds)) (fun t=>(intOf t).toNat)
 case atStart=>exact⟨ds.length,Nat.le_refl _,rfl,by show dv _=_;rw [List.take_length]⟩
 case round=>
  obtain⟨n,hn,rfl,HV⟩:=hrel;by_cases h0:n=0
  ·subst h0;have HF:Hid (RefPost w (s*dv ds) ds.length (.returned (.agg #[.int .i64 0,.slice none 0 0])) (w.alloc (.cells #[.int .i64 0,.slice none 0 0] 40))):=by
    refine⟨_,rfl,?_,HW.out⟩;have e:s*dv ds=0:=by rw [← HV.out];simp [dv]
    rw [e];exact NumR.zero _ _
   clear HV;go_wp2;exact bodyPost_ret (v:=.agg #[.int .i64 0,.slice none 0 0]) (by simp [results,Tryz.results100,go_sem]) rfl HF.out
  ·obtain⟨b,off,rfl,hc⟩:=hc' (by omega);obtain⟨m,rfl⟩:∃ m,n=m+1:=⟨n-1,by omega⟩;have hcm:=hc m (by omega);clear hc;have HG:Hid (ds.getD (m+1-1) 0=ds.getD m 0):=by show _=_;rw [Nat.add_sub_cancel]
   have hzb:=hdb m;generalize hz:ds.getD m 0=z at *;by_cases hz0:z=0
   ·subst hz0;go_wp2
    go_round
    case rel=>exact⟨m,by omega,by go_num,by have:=zeS (ds:=ds) (n:=m+1) (by omega) HG.out;rw [Nat.add_sub_cancel] at this;exact this.trans HV.out⟩
    case measure=>simp [intOf]
   ·have hz1:(z==0)=false:=by simp [hz0]
    have HF:Hid (RefPost w (s*dv ds) ds.length (.returned (.agg #[.int .i64 s,.slice (some ⟨b,off,none⟩) (m+1) (m+1)])) (w.alloc (.cells #[.int .i64 s,.slice (some ⟨b,off,none⟩) (m+1) (m+1)] 40))):=by
     refine⟨_,rfl,⟨s,_,ds.take (m+1),rfl,(HD.out.take (m+1) hn).below ((zB _ _).alloc zL _) zL,zbt hn (.inr (by rw [HG.out];exact hz0)),by rw [HV.out],.inr ⟨by rw [List.length_take];omega,?_⟩,by rw [List.length_take];omega⟩,(zB _ _).alloc zL _⟩;rcases HS.out with h | h | h
     ·exact .inl h
     ·exact .inr h
     ·exfalso;have hp:=zcq (zbD hdb (m+1)) (zbt hn (.inr (by rw [HG.out];exact hz0))) (by rw [List.length_take];omega);rw [HV.out] at hp;omega
    clear HV HS HD HG;go_wp2;exact bodyPost_ret (v:=.agg #[.int .i64 s,.slice (some ⟨b,off,none⟩) (m+1) (m+1)]) (by simp [results,Tryz.results100,go_sem]) rfl HF.out
def BoxR (w:World)(B:Nat)(u0 u1:Value):Prop:=w.heap[B]?=some (.cells #[u0,u1] 40 (0,0))
theorem BoxR.box(h:BoxR w B u0 u1):Box w B u0 u1:=by
 unfold BoxR at h;simp [Box,World.cell?,World.frozen?,h]
theorem BoxR.lt(h:BoxR w B u0 u1):B<w.heap.size:=zj h
theorem BoxR.later{W w1:World}(h:BoxR W B u0 u1)(hb:Below C W w1)(hB:B<C):BoxR w1 B u0 u1:=(hb.block B hB).trans h
theorem zq (W:World)(u0 u1:Value)(B:Nat)(hB:B=W.heap.size):BoxR (W.alloc (.cells #[u0,u1] 40)) B u0 u1:=by
 subst hB;exact heap_alloc_new W _
theorem BoxR.set(h:BoxR w B u0 u1)(v0 v1:Value):BoxR ((w.setCell ⟨B,0,none⟩ v0).setCell ⟨B,1,none⟩ v1) B v0 v1:=by
 have h1:=heap_setCell_same w B 0 _ _ v0 h;have h2:=heap_setCell_same _ B 1 _ _ v1 h1;exact h2
theorem BoxR.other(h:BoxR w B u0 u1)(hne:B≠C)(k:Nat)(v:Value):BoxR (w.setCell ⟨C,k,none⟩ v) B u0 u1:=
 (heap_setCell_other w ⟨C,k,none⟩ B v hne).trans h
theorem Dig.setCell(h:Dig w v ds){c:Array Value}{t:TypeId}{fz:Nat × Nat}(hB:w.heap[B]?=some (.cells c t fz))(ht:t≠3)(k:Nat)(u:Value):Dig (w.setCell ⟨B,k,none⟩ u) v ds:=by
 obtain⟨ao,cap,hv,h1,h2,h3,h4⟩:=h;refine⟨ao,cap,hv,h1,h2,h3,fun h0=>?_⟩;obtain⟨b,off,cur,fz',e,hlt,hc⟩:=h4 h0;have hne:b≠B:=fun e=>by
  subst e;rw [hlt] at hB;simp only [Option.some.injEq,Obj.cells.injEq] at hB;exact ht hB.2.1.symm
 exact⟨b,off,cur,fz',e,(heap_setCell_other w _ b u hne).trans hlt,fun i hi=>(World.cell?_of_block (a:=⟨b,off+i,none⟩) (heap_setCell_other w ⟨B,k,none⟩ b u hne)).trans (hc i hi)⟩
theorem NumR.setCell(h:NumR w v z n)(hB:BoxR w B u0 u1)(v0 v1:Value):NumR ((w.setCell ⟨B,0,none⟩ v0).setCell ⟨B,1,none⟩ v1) v z n:=by
 obtain⟨s,sl,ds,h1,h2,h3⟩:=h;have hb:=heap_setCell_same w B 0 _ _ v0 hB;exact⟨s,sl,ds,h1,(h2.setCell hB (by decide) 0 v0).setCell hb (by decide) 1 v1,h3⟩
theorem boxedR{w2:World}{s:Int}{sl:Value}(hr:NumR w2 (.agg #[.int .i64 s,sl]) z n)(hB:BoxR w2 B u0 u1)(hb:Below w.heap.size w w2)(hle:w.heap.size≤B):
  RefPost w z n (.returned (.agg #[.int .i64 s,sl])) ((w2.setCell ⟨B,0,none⟩ (.int .i64 s)).setCell ⟨B,1,none⟩ sl):=
 ⟨_,rfl,hr.setCell hB _ _,(hb.setCell (by exact hle) _).setCell (by exact hle) _⟩
theorem NumR.form(h:NumR w v z n):∃(s:Int) (o:Option Addr) (l c:Nat),v=.agg #[.int .i64 s,.slice o l c]∧(s=0∨s=1∨s=-1):=by
 obtain⟨s,sl,ds,h1,⟨ao,cap,rfl,-⟩,-,-,hs,-⟩:=h;exact⟨s,ao,ds.length,cap,h1,by omega⟩
theorem zcQ(h:DB ds)(hr:0≤r∧r<10000):DB (ds++[r]):=by
 intro i;rw [zG];rcases Nat.lt_trichotomy i ds.length with hi | hi | hi
 ·rw [List.getElem?_append_left hi,← zG];exact h i
 ·subst hi;simp;omega
 ·rw [List.getElem?_eq_none (by simp;omega)];simp
theorem zdf (ds:List Int)(r:Int):dv (ds++[r])=dv ds+dp ds.length*r:=by
 rw [zde];simp [dv]
def NInv (w wr:World)(m X:Int)(d:Value)(ds:List Int):Prop:=
 wr.ownsRow (w.heap.size+1) 3 1 d ds.length (ds.map (Value.int .i64))∧BoxR wr w.heap.size (.int .i64 0) (.slice none 0 0)∧Below w.heap.size w wr∧DB ds∧m=dv ds+dp ds.length*X∧0≤X∧X≤9223372036854775808∧ds.length≤5
theorem NInv.few(h:NInv w wr m X d ds)(hm:m≤9223372036854775808)(hX:X≠0):ds.length<5:=by
 obtain⟨-,-,-,h4,h5,h6,-,h8⟩:=h;by_cases hk:ds.length<5
 ·exact hk
 ·have e:ds.length=5:=by omega
  rw [e] at h5;have:=zaP h4;have e5:dp 5=100000000000000000000:=by decide
  rw [e5] at h5;omega
theorem NInv.step(h:NInv w wr m X d ds)(hm:m≤9223372036854775808)(hX:X≠0)(hr:X%10000=r)
  (hown:w3.ownsRow (w.heap.size+1) 3 1 d' (ds.length+1) (ds.map (Value.int .i64)++[.int .i64 r])) (hg:(wr.alloc (.cells #[.int .i64 r] 3)).grownBy w3 d.ownBlock):NInv w w3 m (X/10000) d' (ds++[r]):=by
 have hf:=h.few hm hX;obtain⟨h1,h2,h3,h4,h5,h6,h7,h8⟩:=h;have hb:=zbH h1 (by have:=h2.lt;omega) hg;refine⟨by rw [List.length_append,List.map_append];exact hown,h2.later hb (by omega),h3.trans (hb.mono (by omega)),zcQ h4 (by omega),?_,by omega,by omega,by simp;omega⟩;rw [zdf,List.length_append,List.length_singleton,h5];simp only [dp];have e:10000*dp ds.length *(X/10000)=dp ds.length *(10000 *(X/10000)):=by rw [Int.mul_comm 10000,Int.mul_assoc]
 rw [e,Int.add_assoc,← Int.mul_add];congr 2;omega
theorem zjq (w:World)(n s m:Int)(h0:-9223372036854775808≤n)(h1:n≤9223372036854775807)(hs:s=if n<0 then -1 else 1)(hm:m=if n<0 then -n else n):
  Calls Tryz.prog 58 #[.int .i64 n] w fun e w'=>RefPost w n 5 e w':=by
 obtain⟨i0,hi,hz0,hz1,hz2⟩:=info_parts Tryz.infoInt;have HM:=hide (show n=s*m by rw [hs,hm];split <;> omega);have HS:=hide (show s=1∨s=-1 by rw [hs];split <;> simp);have hm0:0≤m:=by rw [hm];split <;> omega
 have hm1:m≤9223372036854775808:=by rw [hm];split <;> omega
 have hx:Hid (NInv w (w.alloc (.cells #[.int .i64 0,.slice none 0 0] 40)) m m (.slice none 0 0) []):=
  ⟨World.ownsRow_nil _ _ _ _,zq w _ _ _ rfl,(zB _ _).alloc zL _,zbc,by simp [dv,dp],hm0,hm1,by simp⟩
 have hw:n<0→IntKind.u64.wrap (-IntKind.u64.wrap n)=m:=fun h=>by rw [IntKind.wrap_u64,IntKind.wrap_u64,hm,if_pos h];omega
 have HW:Hid (Below w.heap.size w (w.alloc (.cells #[.int .i64 0,.slice none 0 0] 40))):=(zB _ _).alloc zL _;go_enter Tryz.func58,Tryz.ntmps58;by_cases hn:n<0
 ·have hw':=hw hn;rw [if_pos hn] at hs;subst hs;clear hm hw;go_wp2;go_loopw [4,5] (fun x d wr=>∃(X:Int) (ds:List Int),x=.int .u64 X∧NInv w wr m X d ds) (fun x _ _=>(intOf x).toNat)
  case atStart=>exact⟨m,[],rfl,hx.out⟩
  case round=>
   obtain⟨X,ds,rfl,hinv⟩:=hrel;have hX0:=hinv.2.2.2.2.2.1;have hX1:=hinv.2.2.2.2.2.2.1;by_cases hX:X=0
   ·subst hX;have HE:=hide (show m=dv ds by have:=hinv.2.2.2.2.1;simpa using this);have HD:=hide (Dig.owns hinv.1 hinv.2.2.2.1 (by have:=hinv.2.2.2.2.2.2.2;omega));have HBX:=hide hinv.2.1;have HBL:=hide hinv.2.2.1;have HL5:=hide hinv.2.2.2.2.2.2.2;clear hinv;go_wp2_with fail;refine(zap wr _ _ ds HD.out (by simp)).mono ?_;rintro e w2 ⟨r,rfl,hr,hb2⟩;have hB:=HBX.out.later hb2 HBX.out.lt;rw [← HE.out,← HM.out] at hr;have hr5:=hr.mono HL5.out;obtain⟨sr,o,l,c,rfl,-⟩:=hr.form;obtain⟨c0,c1,f0,f1⟩:=hB.box;have HF:=hide (boxedR hr5 hB (HBL.out.trans (hb2.mono HBL.out.size)) zL);clear hr hr5 hB hb2 HBX HBL HD HE HM;go_wp2;exact bodyPost_ret (v:=.agg #[.int .i64 sr,.slice o l c]) (by simp [results,Tryz.results58,go_sem,c0,c1]) rfl HF.out
   ·have hfew:=hinv.few hm1 hX;have hown:=hinv.1;have HBX:=hide hinv.2.1.lt;have HST:=hide (fun d' w3 hown' hg=>hinv.step (d':=d') (w3:=w3) hm1 hX rfl hown' hg);have hXp:0<X:=by omega
    have hmod:X%10000≤9999:=by omega
    have hmod0:0≤X%10000:=by omega
    have hdec:decide (0<X)=true:=decide_eq_true hXp;clear hinv;go_wp2_with (at_builtin;refine wpList_append_lies _ rfl _ _ 38 rfl (w.heap.size+1) 3 i0 (.int .i64 0) 1 8 Tryz.underlying38 hi hz0 hz1 hz2 rfl (by decide) u5 ds.length (ds.map (Value.int .i64)) rfl (hown.alloc _) ⟨wr.heap.size,0,none⟩ 1 1 [.int .i64 (X%10000)] rfl rfl ?c1 ?c2 (by decide) ?c3 ?c4 ?c5 (wr.heap.size+1) (by simp) ?_)
    case c1=>exact World.news_of_block (heap_alloc_new wr _)
    case c2=>intro u hu;simp at hu;subst hu;rfl
    case c3=>unfold maxLen;omega
    case c4=>omega
    case c5=>simp;have:=HBX.out;omega
    intro g cap' w3 hown3 hgrow3 hat3 hlt3;have HF:=hide (HST.out _ _ hown3 hgrow3);clear hown3 hgrow3 hat3 hown HST HBX;go_wp2;go_roundw
    case rel=>exact⟨_,_,rfl,HF.out⟩
    case measure=>simp [intOf];omega
 ·rw [if_neg hn] at hs hm;subst hs hm;clear hw;go_wp2;go_loopw [4,5] (fun x d wr=>∃(X:Int) (ds:List Int),x=.int .u64 X∧NInv w wr m X d ds) (fun x _ _=>(intOf x).toNat)
  case atStart=>exact⟨m,[],rfl,hx.out⟩
  case round=>
   obtain⟨X,ds,rfl,hinv⟩:=hrel;have hX0:=hinv.2.2.2.2.2.1;have hX1:=hinv.2.2.2.2.2.2.1;by_cases hX:X=0
   ·subst hX;have HE:=hide (show m=dv ds by have:=hinv.2.2.2.2.1;simpa using this);have HD:=hide (Dig.owns hinv.1 hinv.2.2.2.1 (by have:=hinv.2.2.2.2.2.2.2;omega));have HBX:=hide hinv.2.1;have HBL:=hide hinv.2.2.1;have HL5:=hide hinv.2.2.2.2.2.2.2;clear hinv;go_wp2_with fail;refine(zap wr _ _ ds HD.out (by simp)).mono ?_;rintro e w2 ⟨r,rfl,hr,hb2⟩;have hB:=HBX.out.later hb2 HBX.out.lt;rw [← HE.out,← HM.out] at hr;have hr5:=hr.mono HL5.out;obtain⟨sr,o,l,c,rfl,-⟩:=hr.form;obtain⟨c0,c1,f0,f1⟩:=hB.box;have HF:=hide (boxedR hr5 hB (HBL.out.trans (hb2.mono HBL.out.size)) zL);clear hr hr5 hB hb2 HBX HBL HD HE HM;go_wp2;exact bodyPost_ret (v:=.agg #[.int .i64 sr,.slice o l c]) (by simp [results,Tryz.results58,go_sem,c0,c1]) rfl HF.out
   ·have hfew:=hinv.few hm1 hX;have hown:=hinv.1;have HBX:=hide hinv.2.1.lt;have HST:=hide (fun d' w3 hown' hg=>hinv.step (d':=d') (w3:=w3) hm1 hX rfl hown' hg);have hXp:0<X:=by omega
    have hmod:X%10000≤9999:=by omega
    have hmod0:0≤X%10000:=by omega
    have hdec:decide (0<X)=true:=decide_eq_true hXp;clear hinv;go_wp2_with (at_builtin;refine wpList_append_lies _ rfl _ _ 38 rfl (w.heap.size+1) 3 i0 (.int .i64 0) 1 8 Tryz.underlying38 hi hz0 hz1 hz2 rfl (by decide) u5 ds.length (ds.map (Value.int .i64)) rfl (hown.alloc _) ⟨wr.heap.size,0,none⟩ 1 1 [.int .i64 (X%10000)] rfl rfl ?c1 ?c2 (by decide) ?c3 ?c4 ?c5 (wr.heap.size+1) (by simp) ?_)
    case c1=>exact World.news_of_block (heap_alloc_new wr _)
    case c2=>intro u hu;simp at hu;subst hu;rfl
    case c3=>unfold maxLen;omega
    case c4=>omega
    case c5=>simp;have:=HBX.out;omega
    intro g cap' w3 hown3 hgrow3 hat3 hlt3;have HF:=hide (HST.out _ _ hown3 hgrow3);clear hown3 hgrow3 hat3 hown HST HBX;go_wp2;go_roundw
    case rel=>exact⟨_,_,rfl,HF.out⟩
    case measure=>simp [intOf];omega
theorem zad (w:World)(n:Int)(h0:-9223372036854775808≤n)(h1:n≤9223372036854775807):
  Calls Tryz.prog 58 #[.int .i64 n] w fun e w'=>RefPost w n 5 e w':=zjq w n _ _ h0 h1 rfl rfl
def DigPost (w:World)(z:Int)(n:Nat)(e:Ending)(w':World):Prop:=
 ∃ v ds,e=.returned v∧Dig w' v ds∧dv ds=z∧ds.length≤n∧Below w.heap.size w w'
def AInv (w wr:World)(a b:List Int)(k:Nat)(c:Int)(d:Value)(ds:List Int):Prop:=
 wr.ownsRow w.heap.size 3 1 d ds.length (ds.map (Value.int .i64))∧Below w.heap.size w wr∧DB ds∧ds.length=k∧dv ds+dp k*c=dv (a.take k)+dv (b.take k)∧0≤c∧c≤1
theorem AInv.step{a b:List Int}{k:Nat}{c t:Int}(ha:DB a)(hb:DB b)(h:AInv w wr a b k c d ds)(ht:t=c+a.getD k 0+b.getD k 0)
  (hown:w3.ownsRow w.heap.size 3 1 d' (k+1) (ds.map (Value.int .i64)++[.int .i64 (t%10000)])) (hg:(wr.alloc (.cells #[.int .i64 (t%10000)] 3)).grownBy w3 d.ownBlock):AInv w w3 a b (k+1) (t/10000) d' (ds++[t%10000]):=by
 obtain⟨h1,h2,h3,h4,h5,h6,h7⟩:=h;have hx:=ha k;have hy:=hb k;have hbl:=zbH h1 h2.size hg;refine⟨by rw [List.length_append,List.map_append,h4];exact hown,h2.trans hbl,zcQ h3 (by omega),by simp [h4],?_,by omega,by omega⟩;rw [zdf,zaQ,zaQ,h4];simp only [dp];have e1:10000*dp k *(t/10000)=dp k *(10000 *(t/10000)):=by rw [Int.mul_comm 10000,Int.mul_assoc]
 have e2:dp k *(t%10000)+dp k *(10000 *(t/10000))=dp k*t:=by rw [← Int.mul_add];congr 1;omega
 have e3:dp k*t=dp k*c+dp k*a.getD k 0+dp k*b.getD k 0:=by rw [ht,Int.mul_add,Int.mul_add]
 rw [e1];omega
theorem zgH (w:World)(va vb:Value)(a b:List Int)(n:Nat)(ha:Dig w va a)(hb:Dig w vb b)(hla:a.length≤n)(hlb:b.length≤n)(hn:n<1000000000000):
  Calls Tryz.prog 101 #[va,vb] w fun e w'=>DigPost w (dv a+dv b) (n+1) e w':=by
 have HA:=hide ha;have HB:=hide hb;obtain⟨ao,acap,rfl,hacap,halen,hadb,-⟩:=ha;obtain⟨bo,bcap,rfl,hbcap,hblen,hbdb,-⟩:=hb;obtain⟨i0,hi,hz0,hz1,hz2⟩:=info_parts Tryz.infoInt;go_enter Tryz.func101,Tryz.ntmps101;go_wp2;go_loopw [5,6,7] (fun d cc i wr=>∃(k:Nat) (c:Int) (ds:List Int),k≤n+1∧(n<k→c=0)∧i=.int .i64 k∧cc=.int .i64 c∧AInv w wr a b k c d ds) (fun _ _ i _=>n+1-(intOf i).toNat)
 case atStart=>exact⟨0,0,[],by omega,fun _=>rfl,rfl,rfl,World.ownsRow_nil _ _ _ _,zB _ _,zbc,rfl,by simp [dv,dp],Int.le_refl _,by decide⟩
 case round=>
  obtain⟨k,c,ds,hk,hkc,rfl,rfl,hinv⟩:=hrel;have hc0:=hinv.2.2.2.2.2.1;have hc1:=hinv.2.2.2.2.2.2;have hdl:=hinv.2.2.2.1;have HBL:=hide hinv.2.1;by_cases hend:a.length≤k∧b.length≤k∧c=0
  ·obtain⟨he1,he2,rfl⟩:=hend;have HF:Hid (DigPost w (dv a+dv b) (n+1) (.returned u5) wr):=by
    obtain⟨h1,h2,h3,h4,h5,h6,h7⟩:=hinv;refine⟨_,ds,rfl,Dig.owns h1 h3 (by omega),?_,by omega,h2⟩;rw [zbM a he1,zbM b he2] at h5;omega
   clear hinv;go_wp2;go_ret;exact HF.out
  ·have hx:=hadb k;have hy:=hbdb k;have hown:=hinv.1;have HST:=hide (fun d' w3 t ht ho hg=>hinv.step (d':=d') (w3:=w3) (t:=t) hadb hbdb ht ho hg);have HA':=hide (by obtain⟨_,_,e,-,-,-,hc⟩:=HA.out.below HBL.out zL;simp only [zV,true_and] at e;obtain⟨rfl,rfl⟩:=e;exact hc);have HB':=hide (by obtain⟨_,_,e,-,-,-,hc⟩:=HB.out.below HBL.out zL;simp only [zV,true_and] at e;obtain⟨rfl,rfl⟩:=e;exact hc);have HX0:=hide (fun h=>zbP a k h);have HY0:=hide (fun h=>zbP b k h);clear hinv;generalize hxe:a.getD k 0=x at *;generalize hye:b.getD k 0=y at *;have HXE:=hide hxe;clear hxe;have HYE:=hide hye;clear hye;have hkl:k≤n:=by
    rcases Nat.lt_or_ge n k with h | h
    ·exact absurd ⟨by omega,by omega,hkc h⟩ hend
    ·exact h
   by_cases ha1:k<a.length
   ·by_cases hb1:k<b.length
    ·clear hend;obtain⟨ab,aoff,acur,afz,rfl,-,hac⟩:=HA'.out (by omega);have hca:=hac k ha1;rw [HXE.out] at hca;clear hac;obtain⟨bb,boff,bcur,bfz,rfl,-,hbc⟩:=HB'.out (by omega);have hcb:=hbc k hb1;rw [HYE.out] at hcb;clear hbc;have HS:=hide (fun d' w3 ho hg=>HST.out d' w3 (c+x+y) (by omega) ho hg);clear HST HA' HB' HX0 HY0 HXE HYE;have hm0:0≤(c+x+y)%10000:=by omega
     have hm1:(c+x+y)%10000≤9999:=by omega
     go_wp2_with (at_builtin;refine wpList_append_lies _ rfl _ _ 38 rfl w.heap.size 3 i0 (.int .i64 0) 1 8 Tryz.underlying38 hi hz0 hz1 hz2 rfl (by decide) u5 ds.length (ds.map (Value.int .i64)) rfl (hown.alloc _) ⟨wr.heap.size,0,none⟩ 1 1 [.int .i64 ((c+x+y)%10000)] rfl rfl (World.news_of_block (heap_alloc_new wr _)) (fun u hu=>by rw [List.mem_singleton] at hu;rw [hu];rfl) (by decide) (by unfold maxLen;omega) (by omega) (by simp;have:=HBL.out.size;omega) (wr.heap.size+1) (by simp) ?_);intro g cap' w3 hown3 hgrow3 hat3 hlt3;have HF:=hide (HS.out _ _ hown3 hgrow3);clear hown3 hgrow3 hat3 hown HS;go_wp2;go_roundw
     case rel=>exact⟨k+1,(c+x+y)/10000,_,by omega,by omega,by go_num,rfl,HF.out⟩
     case measure=>simp [intOf];omega
    ·clear hend;obtain⟨ab,aoff,acur,afz,rfl,-,hac⟩:=HA'.out (by omega);have hca:=hac k ha1;rw [HXE.out] at hca;clear hac;obtain rfl:y=0:=HY0.out (by omega);have HS:=hide (fun d' w3 ho hg=>HST.out d' w3 (c+x) (by omega) ho hg);clear HST HA' HB' HX0 HY0 HXE HYE;have hm0:0≤(c+x)%10000:=by omega
     have hm1:(c+x)%10000≤9999:=by omega
     go_wp2_with (at_builtin;refine wpList_append_lies _ rfl _ _ 38 rfl w.heap.size 3 i0 (.int .i64 0) 1 8 Tryz.underlying38 hi hz0 hz1 hz2 rfl (by decide) u5 ds.length (ds.map (Value.int .i64)) rfl (hown.alloc _) ⟨wr.heap.size,0,none⟩ 1 1 [.int .i64 ((c+x)%10000)] rfl rfl (World.news_of_block (heap_alloc_new wr _)) (fun u hu=>by rw [List.mem_singleton] at hu;rw [hu];rfl) (by decide) (by unfold maxLen;omega) (by omega) (by simp;have:=HBL.out.size;omega) (wr.heap.size+1) (by simp) ?_);intro g cap' w3 hown3 hgrow3 hat3 hlt3;have HF:=hide (HS.out _ _ hown3 hgrow3);clear hown3 hgrow3 hat3 hown HS;go_wp2;go_roundw
     case rel=>exact⟨k+1,(c+x)/10000,_,by omega,by omega,by go_num,rfl,HF.out⟩
     case measure=>simp [intOf];omega
   ·by_cases hb1:k<b.length
    ·clear hend;obtain⟨bb,boff,bcur,bfz,rfl,-,hbc⟩:=HB'.out (by omega);have hcb:=hbc k hb1;rw [HYE.out] at hcb;clear hbc;obtain rfl:x=0:=HX0.out (by omega);have HS:=hide (fun d' w3 ho hg=>HST.out d' w3 (c+y) (by omega) ho hg);clear HST HA' HB' HX0 HY0 HXE HYE;have hm0:0≤(c+y)%10000:=by omega
     have hm1:(c+y)%10000≤9999:=by omega
     go_wp2_with (at_builtin;refine wpList_append_lies _ rfl _ _ 38 rfl w.heap.size 3 i0 (.int .i64 0) 1 8 Tryz.underlying38 hi hz0 hz1 hz2 rfl (by decide) u5 ds.length (ds.map (Value.int .i64)) rfl (hown.alloc _) ⟨wr.heap.size,0,none⟩ 1 1 [.int .i64 ((c+y)%10000)] rfl rfl (World.news_of_block (heap_alloc_new wr _)) (fun u hu=>by rw [List.mem_singleton] at hu;rw [hu];rfl) (by decide) (by unfold maxLen;omega) (by omega) (by simp;have:=HBL.out.size;omega) (wr.heap.size+1) (by simp) ?_);intro g cap' w3 hown3 hgrow3 hat3 hlt3;have HF:=hide (HS.out _ _ hown3 hgrow3);clear hown3 hgrow3 hat3 hown HS;go_wp2;go_roundw
     case rel=>exact⟨k+1,(c+y)/10000,_,by omega,by omega,by go_num,rfl,HF.out⟩
     case measure=>simp [intOf];omega
    ·have hcp:0<c:=by omega
     clear hend;obtain rfl:x=0:=HX0.out (by omega);obtain rfl:y=0:=HY0.out (by omega);have HS:=hide (fun d' w3 ho hg=>HST.out d' w3 (c) (by omega) ho hg);clear HST HA' HB' HX0 HY0 HXE HYE;have hm0:0≤(c)%10000:=by omega
     have hm1:(c)%10000≤9999:=by omega
     have hcd:decide (0<c)=true:=decide_eq_true (by omega);go_wp2_with (at_builtin;refine wpList_append_lies _ rfl _ _ 38 rfl w.heap.size 3 i0 (.int .i64 0) 1 8 Tryz.underlying38 hi hz0 hz1 hz2 rfl (by decide) u5 ds.length (ds.map (Value.int .i64)) rfl (hown.alloc _) ⟨wr.heap.size,0,none⟩ 1 1 [.int .i64 ((c)%10000)] rfl rfl (World.news_of_block (heap_alloc_new wr _)) (fun u hu=>by rw [List.mem_singleton] at hu;rw [hu];rfl) (by decide) (by unfold maxLen;omega) (by omega) (by simp;have:=HBL.out.size;omega) (wr.heap.size+1) (by simp) ?_);intro g cap' w3 hown3 hgrow3 hat3 hlt3;have HF:=hide (HS.out _ _ hown3 hgrow3);clear hown3 hgrow3 hat3 hown HS;go_wp2;go_roundw
     case rel=>exact⟨k+1,(c)/10000,_,by omega,by omega,by go_num,rfl,HF.out⟩
     case measure=>simp [intOf];omega
end Go.Proofs.YtdedolkgcdlmeaaGreatDoor
