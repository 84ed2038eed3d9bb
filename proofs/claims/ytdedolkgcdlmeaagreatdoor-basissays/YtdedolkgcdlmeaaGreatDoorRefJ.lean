import Derived.Test.YtdedolkgcdlmeaaGreatDoorRefF
set_option maxRecDepth 100000
set_option maxHeartbeats 3200000
namespace Go.Proofs.YtdedolkgcdlmeaaGreatDoor
open Go.RowKit Limbs Digs
variable {w wr w3 w2:World}{zs ds ls ys qs:List Int}{g base n k i cap B:Nat}{d a1 vl a0 l v:Value}{A cy T s r c0 sa:Int}{neg:Bool}
theorem ziZ (n:Nat):dp n≤bp n:=by
 induction n with
 | zero=>simp [bp,dp]
 | succ n ih=>simp only [bp,dp];have:=zaE n;omega
theorem RowI.owns(h:w.ownsRow base 3 1 (.slice (some ⟨g,0,none⟩) ds.length cap) ds.length (ds.map (Value.int .i64)))(hd:DB ds):RowI w g ds:=by
 refine⟨?_,hd,fun j hj=>⟨?_,h.frozenAt j⟩⟩
 ·rcases h.2 with⟨e,-⟩ |⟨g',cap',cur,e,hb,hg,-⟩
  ·cases e
  ·simp only [zV,Option.some.injEq,Addr.mk.injEq,true_and,and_true] at e;obtain⟨rfl,rfl⟩:=e;exact⟨_,_,hg⟩
 ·rw [h.cellAt j (by omega)];simp [List.getD_eq_getElem?_getD,hj]
theorem RowI.take(h:RowI w g zs)(n:Nat):RowI w g (zs.take n):=by
 obtain⟨h1,h2,h3⟩:=h;refine⟨h1,zbM h2 n,fun j hj=>?_⟩;rw [List.length_take] at hj;rw [zaS zs n j (by omega)];exact h3 j (by omega)
theorem RowI.later{w':World}(h:RowI w g zs)(hb:Below B w w')(hg:g<B):RowI w' g zs:=by
 obtain⟨⟨cur,fz,h1⟩,h2,h3⟩:=h;exact⟨⟨cur,fz,(hb.block g hg).trans h1⟩,h2,fun j hj=>⟨(hb.cell (p:=⟨g,j,none⟩) hg).trans (h3 j hj).1,(hb.frozen (p:=⟨g,j,none⟩) hg).trans (h3 j hj).2⟩⟩
structure IBox (w W:World)(a0 a1:Value):Prop where
 fst:BoxR W w.heap.size a0 a1
 res:Box W (w.heap.size+1) (.bool false) (.slice none 0 0)
 below:Below w.heap.size w W
 size:w.heap.size+1<W.heap.size
theorem iBox (w:World)(a0 a1:Value):IBox w ((w.alloc (.cells #[a0,a1] 40)).alloc (.cells #[.bool false,.slice none 0 0] 29)) a0 a1 where
 fst:=(zw w _ _ _ rfl).later ((zB _ _).alloc (by simp) _:Below (w.heap.size+1) _ _) (by omega)
 res:=zg (w.alloc _) _ _ _ _ (by simp)
 below:=((zB _ _).alloc zL _).alloc (by simp) _
 size:=by simp
theorem IBox.later{W W':World}(h:IBox w W a0 a1)(hb:Below B W W')(hB:w.heap.size+1+1≤B):IBox w W' a0 a1 where
 fst:=h.fst.later hb (by omega)
 res:=h.res.later hb (by omega)
 below:=h.below.trans (hb.mono (by omega))
 size:=zT h.size hb.size
def IOut (w wr:World)(a0 a1:Value)(A:Int)(n:Nat)(g:Nat)(l:Value)(zs ls:List Int):Prop:=
 IBox w wr a0 a1∧RowI wr g zs∧Nrm zs∧zs.length≤n∧wr.ownsRow (g+1) 104 1 l ls.length (ls.map (Value.int .u32))∧LB ls∧A=lv ls+bp ls.length*dv zs ∧
  (dv zs=0→ls.length=0∨ls.getD (ls.length-1) 0≠0)∧g<wr.heap.size∧lenOf l=ls.length∧ls.length≤n
theorem IOut.few(h:IOut w wr a0 a1 A n g l zs ls)(hA:A<bp n)(hz:zs.length≠0):ls.length<n:=by
 obtain⟨-,h2,h3,-,-,h6,h7,-⟩:=h;have h8:=zcI h2.2.1 h3 hz;have h9:=zP h6;have h10:=zC ls.length;have e5:bp ls.length*1≤bp ls.length*dv zs:=Int.mul_le_mul_of_nonneg_left (by omega) (by omega);by_cases hk:ls.length<n
 ·exact hk
 ·have:=zaj (m:=n) (n:=ls.length) (by omega);omega
def IDiv (wr:World)(g:Nat)(zs:List Int)(p:Nat)(r:Int)(qs:List Int):Prop:=
 qs.length=zs.length∧RowI wr g qs∧qs.take p=zs.take p∧dv (zs.drop p)=4294967296*dv (qs.drop p)+r∧0≤r∧r<4294967296
theorem IDiv.start(h:RowI wr g zs):IDiv wr g zs zs.length 0 zs:=
 ⟨rfl,h,rfl,by rw [List.drop_length];simp [dv],by decide,by decide⟩
theorem IDiv.step{p:Nat}(h:IDiv wr g zs (p+1) r qs)(hp:p<zs.length)(hT:T=r*10000+qs.getD p 0):
  IDiv (wr.setCell ⟨g,p,none⟩ (.int .i64 (T/4294967296))) g zs p (T%4294967296) (qs.set p (T/4294967296)):=by
 obtain⟨h1,h2,h4,h5,h6,h7⟩:=h;have hz:=h2.2.1 p;have he:qs.getD p 0=zs.getD p 0:=zfy h4 (Nat.lt_succ_self p);refine⟨by rw [List.length_set];exact h1,h2.store (by omega) (by omega),?_,?_,by omega,by omega⟩
 ·rw [zaB _ _ _ _ zL];have:=congrArg (List.take p) h4
  rwa [List.take_take,List.take_take,Nat.min_eq_left (by omega)] at this
 ·rw [zz zs p hp,zz (qs.set p (T/4294967296)) p (by rw [List.length_set];omega),zbV qs p (p+1) _ (Nat.lt_succ_self p),zR _ _ _ _ (by omega),if_pos rfl];simp only [dv];rw [h5,← he];omega
theorem IOut.step{w1:World}{m:Nat}{l':Value}(h:IOut w wr a0 a1 A n g l zs ls)(hgw:w.heap.size+1+1≤g)(hA:A<bp n)(hz:zs.length≠0)
  (hd:IDiv w1 g zs 0 r qs) (hb1:Below g wr w1) (hg1:wr.grownBy w1 (some g))
  (hown:w3.ownsRow (g+1) 104 1 l' (ls.length+1) (ls.map (Value.int .u32)++[.int .u32 r])) (hg3:(w1.alloc (.cells #[.int .u32 r] 104)).grownBy w3 l.ownBlock)
  (hm:m≤qs.length) (hqm:dv (qs.take m)=dv qs) (hnm:Nrm (qs.take m)):IOut w w3 a0 a1 A n g l' (qs.take m) (ls++[r]):=by
 have hf:=h.few hA hz;obtain⟨h1,h2,h3,h4,h5,h6,h7,h8,h9,h10,h11⟩:=h;obtain⟨d1,d2,d3,d4,d5,d6⟩:=hd;rw [List.drop_zero,List.drop_zero] at d4;have hpos:=zcI h2.2.1 h3 hz;have hown1:=h5.kept hg1 (.inr (fun e=>by have:=h5.lt _ e;omega));have hb3:Below (g+1) w1 w3:=zbl hown1 (by have:=hg1.size;omega) hg3;refine⟨(h1.later hb1 hgw).later hb3 (by omega),(d2.take m).later hb3 (by omega),hnm,by rw [List.length_take];omega,by rw [List.length_append,List.map_append];exact hown,zhF h6 ⟨d5,d6⟩,?_,?_,?_,?_,by simp;omega⟩
 ·rw [zkk,hqm,h7,d4,List.length_append,List.length_singleton];simp only [bp];rw [Int.mul_add];have e:bp ls.length *(4294967296*dv qs)=4294967296*bp ls.length*dv qs:=by rw [Int.mul_left_comm,Int.mul_assoc]
  rw [e];omega
 ·intro h0;right;rw [hqm] at h0;rw [List.length_append,List.length_singleton,Nat.add_sub_cancel,zG,List.getElem?_append_right zL,Nat.sub_self];simp;omega
 ·have:=hb3.size;have:=hg1.size;omega
 ·rw [zdU hown];simp
theorem zlK{d:Int}(hs:(k=0∧s=0)∨(0<k∧(s=1∨s=-1)))(hk:k=0→d=0):(if decide (s<0)=true then -d else d)=s*d:=by
 rcases hs with⟨h1,h2⟩ |⟨-,h2 | h2⟩
 ·subst h2;rw [hk h1];simp
 ·subst h2;simp
 ·subst h2;simp
theorem IOut.done(h:IOut w wr (.int .i64 sa) a1 A n g l zs ls)(hn:n≤1000000)(hz:zs.length=0)(hs:(k=0∧sa=0)∨(0<k∧(sa=1∨sa=-1)))(hk:k=0→A=0)(hk':A=0→k=0):
  NumL wr (.agg #[.bool (decide (sa<0)),l]) (sa*A) n:=by
 obtain⟨h1,h2,h3,h4,h5,h6,h7,h8,h9,h10,h11⟩:=h;have e0:zs=[]:=List.eq_nil_of_length_eq_zero hz;subst e0;have e:A=lv ls:=by simpa [dv] using h7
 refine⟨_,l,ls,rfl,Lim.owns h5 h6 (by omega),h8 rfl,fun h0=>?_,?_,h11⟩
 ·have:A=0:=by rw [e,List.eq_nil_of_length_eq_zero h0];rfl
  have:=hk' this;have:sa=0:=by omega
  subst this;rfl
 ·rw [← e,zlK hs hk]
theorem zjW (w:World)(va:Value)(x:Int)(n:Nat)(ha:NumR w va x n)(hn6:n≤1000000:=by omega):
  Calls Tryz.prog 16 #[va] w fun e w'=>IntPost w x n e w':=by
 obtain⟨sa,la,a,rfl,hla,nra,hx,hsa,hna⟩:=ha;have HA:=hide hla;obtain⟨ao,acap,rfl,hacap,halen,hadb,-⟩:=hla;replace halen:a.length≤1000000:=by omega
 have HX:=hide hx;clear hx;obtain⟨i0,hi,hz0,hz1,hz2⟩:=info_parts Tryz.infoInt;obtain⟨j0,hj,hy0,hy1,hy2⟩:=info_parts Tryz.infoU32;by_cases hl0:a.length=0
 ·rcases hsa with⟨-,rfl,e⟩ |⟨h,-⟩
  ·simp only [zV] at e;obtain⟨rfl,-,rfl⟩:=e;have e0:a=[]:=List.eq_nil_of_length_eq_zero hl0;subst e0;have HF:Hid (NumPost w x n (.returned (.agg #[.bool false,.slice none 0 0])) ((w.alloc (.cells #[.int .i64 0,.slice none 0 0] 40)).alloc (.cells #[.bool false,.slice none 0 0] 29))):=
    ⟨_,rfl,⟨false,_,[],rfl,⟨none,0,rfl,Nat.le_refl _,by simp,zaM,fun h=>absurd h (by simp)⟩,.inl rfl,fun _=>rfl,by rw [HX.out];simp [dv,lv],by simp⟩,(iBox w _ _).below⟩
   clear HA HX nra;go_enter Tryz.func16,Tryz.ntmps16;go_wp2;go_loopw [3,4] (fun d l wr=>d=.slice none 0 0∧l=.slice none 0 0∧wr=(w.alloc (.cells #[.int .i64 0,.slice none 0 0] 40)).alloc (.cells #[.bool false,.slice none 0 0] 29)) (fun _ _ _=>0)
   case atStart=>exact⟨rfl,rfl,rfl⟩
   case round=>
    obtain⟨rfl,rfl,rfl⟩:=hrel;go_wp2;exact bodyPost_ret (v:=.agg #[.bool false,.slice none 0 0]) (by simp [results,Tryz.results16,go_sem]) rfl ⟨HF.out,fun neg s e a l c h=>by simp only [Ending.returned.injEq,Value.agg.injEq,Array.mk.injEq,List.cons.injEq,and_true] at e;rw [← e.2] at h;cases h⟩
  ·omega
 ·have hsa':(a.length=0∧sa=0)∨(0<a.length∧(sa=1∨sa=-1)):=by
   rcases hsa with⟨h1,h2,-⟩ |⟨h1,h2⟩
   ·omega
   ·exact .inr ⟨h1,h2⟩
  clear hsa;have HSA:=hide hsa';clear hsa';have HZ:=hide (zcK hadb nra);have hAlt:Hid (dv a<bp a.length):=by
   have h1:=zbx hadb;have h2:=ziZ a.length;exact(by omega:dv a<bp a.length)
  have HN:Hid (∀ ab aoff,ao=some ⟨ab,aoff,none⟩→∀ j u,(a.map (Value.int .i64))[j]?=some u→((w.alloc (.cells #[.int .i64 sa,.slice ao a.length acap] 40)).alloc (.cells #[.bool false,.slice none 0 0] 29)).cell? ((⟨ab,aoff,none⟩:Addr).add j)=some u):=by
   intro ab aoff hao j u hu;obtain⟨_,_,e,-,-,-,hac⟩:=HA.out.below (iBox w (.int .i64 sa) (.slice ao a.length acap)).below zL;simp only [zV,true_and] at e;obtain⟨rfl,rfl⟩:=e;obtain⟨ab',aoff',acur,afz,e,-,hac⟩:=hac (by omega);rw [hao] at e;simp only [Option.some.injEq,Addr.mk.injEq,and_true] at e;obtain⟨rfl,rfl⟩:=e;rw [List.getElem?_map] at hu;by_cases hj:j<a.length
   ·rw [List.getElem?_eq_getElem hj] at hu;simp only [Option.map_some,Option.some.injEq] at hu;subst hu;have:=hac j hj;rw [zG,List.getElem?_eq_getElem hj,Option.getD_some] at this;unfold Addr.add;split
    ·rename_i h0;subst h0;exact this
    ·exact this
   ·rw [List.getElem?_eq_none (by omega)] at hu;cases hu
  obtain⟨ab,aoff,hao⟩:∃ ab aoff,ao=some ⟨ab,aoff,none⟩:=by
   obtain⟨_,_,e,-,-,-,hac⟩:=HA.out;simp only [zV,true_and] at e;obtain⟨rfl,rfl⟩:=e;obtain⟨ab,aoff,acur,afz,e,-,hac⟩:=hac (by omega);exact⟨ab,aoff,e⟩
  subst hao;have HN':=hide (HN.out ab aoff rfl);have HIB:=hide (iBox w (.int .i64 sa) (.slice (some ⟨ab,aoff,none⟩) a.length acap));clear HN HA;go_enter Tryz.func16,Tryz.ntmps16;go_wp2_with (at_builtin;refine wpList_append_lies _ rfl _ _ 38 rfl (w.heap.size+1+1) 3 i0 (.int .i64 0) 1 8 Tryz.underlying38 hi hz0 hz1 hz2 rfl (by decide) (.slice none 0 0) 0 [] rfl (World.ownsRow_nil _ _ _ _) ⟨ab,aoff,none⟩ a.length acap (a.map (Value.int .i64)) rfl (by simp) HN'.out (fun u hu=>by obtain⟨z,-,rfl⟩:=List.mem_map.1 hu;rfl) (by omega) (by unfold maxLen;omega) (by omega) (by simp) (w.heap.size+1+1) (by simp) ?_);intro g cap w1 hown hgrow hat hlt;obtain rfl:g=w.heap.size+1+1:=by rcases hat with h | h;cases h;exact h
  have hcap:a.length≤cap:=by
   rcases hown.2 with⟨e,-⟩ |⟨_,_,_,e,-,-,hc,-⟩
   ·cases e
   ·simp only [zV] at e;rw [e.2.2];exact hc
  have HO:=hide (show IOut w w1 (.int .i64 sa) (.slice (some ⟨ab,aoff,none⟩) a.length acap) (dv a) a.length (w.heap.size+1+1) (.slice none 0 0) a [] from
   ⟨HIB.out.later (B:=w.heap.size+1+1) ((zB _ _).grown hgrow (by simp) (fun k hk=>by cases hk)) zL,RowI.owns hown hadb,nra,Nat.le_refl _,World.ownsRow_nil _ _ _ _,zaM,by simp [lv,bp],fun _=>.inl rfl,hlt,rfl,by simp⟩)
  clear hown hgrow hat hlt HN' HIB nra;go_wp2;go_loopw [3,4] (fun d l wr=>∃ zs ls:List Int,d=.slice (some ⟨w.heap.size+1+1,0,none⟩) zs.length cap∧IOut w wr (.int .i64 sa) (.slice (some ⟨ab,aoff,none⟩) a.length acap) (dv a) a.length (w.heap.size+1+1) l zs ls) (fun _ l _=>a.length-lenOf l)
  case atStart=>exact⟨a,[],by simp,HO.out⟩
  case round=>
   clear HO;obtain⟨wo,hwo⟩:∃ wo:World,wo=wr:=⟨_,rfl⟩;obtain⟨zs,ls,rfl,hout⟩:=hrel;by_cases hz:zs.length=0
   ·obtain⟨o,l,c,rfl⟩:∃ o l c,u4=.slice o l c:=by
     rcases hout.2.2.2.2.1.2 with⟨e,-⟩ |⟨_,_,_,e,-⟩
     ·exact⟨_,_,_,e⟩
     ·exact⟨_,_,_,e⟩
    have HD:=hide (hout.done (k:=a.length) (by omega) hz HSA.out HZ.out.2 HZ.out.1);obtain⟨k0,k1,-,-⟩:=hout.1.fst.box;obtain⟨c0,c1,f0,f1⟩:=hout.1.res;have HD':=hide (show NumL wr (.agg #[.bool (decide (sa<0)),.slice o l c]) x n by rw [HX.out];exact HD.out.mono hna);have HF:=hide (boxed (w:=w) HD'.out c0 c1 (by simp) (by simp) hout.1.below (by omega));have HNW:Hid (NewSl w (.slice o l c)):=fun ad l' c' h=>by
     rcases hout.2.2.2.2.1.2 with⟨e,-⟩ |⟨g',_,_,e,hbg,-⟩
     ·rw [e] at h;cases h
     ·rw [e] at h;simp only [zV,Option.some.injEq] at h;rw [← h.1];show w.heap.size≤g';omega
    clear hout HD HD' HX HZ HSA hAlt;go_wp2;exact bodyPost_ret (v:=.agg #[.bool (decide (sa<0)),.slice o l c]) (by simp [results,Tryz.results16,go_sem,c0,c1]) rfl ⟨HF.out,fun neg s e=>by simp only [Ending.returned.injEq,Value.agg.injEq,Array.mk.injEq,List.cons.injEq,and_true] at e;rw [← e.2];exact HNW.out⟩
   ·have hfew:=hout.few hAlt.out hz;have hzn:=hout.2.2.2.1;have HOUT:=hide hout;have HRI:=hide hout.2.1;clear hout;subst hwo;go_wp2;go_loopw [5,6] (fun c i w1=>∃(p:Nat) (r:Int) (qs:List Int),p≤zs.length∧i=.int .i64 ((p:Int)-1)∧c=.int .i64 r∧IDiv w1 (w.heap.size+1+1) zs p r qs∧Below (w.heap.size+1+1) wo w1∧wo.grownBy w1 (some (w.heap.size+1+1))) (fun _ i _=>(intOf i+1).toNat)
    case atStart=>exact⟨zs.length,0,zs,Nat.le_refl _,by go_num,rfl,IDiv.start HRI.out,zB _ _,World.grownBy.refl _ _⟩
    case round=>
     obtain⟨p,r,qs,hp,rfl,rfl,hd,hb1,hg1⟩:=hrel;have hr0:=hd.2.2.2.2.1;have hr1:=hd.2.2.2.2.2;by_cases hp0:p=0
     ·subst hp0;have hql:=hd.1;have hown:=HOUT.out.2.2.2.2.1.kept hg1 (.inr (fun e=>by have:=HOUT.out.2.2.2.2.1.lt _ e;omega));have HBL:Hid (w.heap.size+1+1<wr.heap.size):=by have:=zt hd.2.1.1.choose_spec.choose_spec;exact this
      have HROW:=hide hd.2.1;have HSTA:=hide (fun l' w3 m ho hg hm hqm hnm=>HOUT.out.step (l':=l') (w3:=w3) (m:=m) zL hAlt.out hz hd hb1 hg1 ho hg hm hqm hnm);have hll:=HOUT.out.2.2.2.2.2.2.2.2.2.1;clear hd hb1 hg1;go_wp2_with (at_builtin;refine wpList_append_lies _ rfl _ _ 27 rfl (w.heap.size+1+1+1) 104 j0 (.int .u32 0) 1 4 Tryz.underlying27 hj hy0 hy1 hy2 rfl (by decide) u4 ls.length (ls.map (Value.int .u32)) rfl (hown.alloc _) ⟨wr.heap.size,0,none⟩ 1 1 [.int .u32 r] rfl rfl (World.news_of_block (heap_alloc_new wr _)) (fun u hu=>by rw [List.mem_singleton] at hu;rw [hu];rfl) (by decide) (by unfold maxLen;omega) (by omega) (by simp;have:=HBL.out;omega) (wr.heap.size+1) (by simp) ?_);intro g' cap' w3 hown3 hgrow3 hat3 hlt3;have HQ3:=hide (HROW.out.later (zbl hown (by have:=HBL.out;omega) hgrow3) (by omega));have HST:=hide (fun m hm hqm hnm=>HSTA.out _ _ m hown3 hgrow3 hm hqm hnm);clear hown3 hgrow3 hat3 hlt3 hown HSTA HROW HOUT HRI;go_wp2
      go_loop [3] (fun t=>∃ m:Nat,m≤qs.length∧t=.slice (some ⟨w.heap.size+1+1,0,none⟩) m cap∧Hid (dv (qs.take m)=dv qs)) (fun t=>lenOf t)
      case atStart=>exact⟨qs.length,Nat.le_refl _,by rw [hql],by show dv _=_;rw [List.take_length]⟩
      case round=>
       obtain⟨m,hm,rfl,HV⟩:=hrel;by_cases h0:m=0
       ·subst h0;have HF:=hide (HST.out 0 hm HV.out (zbG hm (.inl rfl)));have hml:(qs.take 0).length=0:=by simp
        clear HST HV;go_wp2;go_roundw
        case rel=>exact⟨qs.take 0,ls++[r],by rw [hml],HF.out⟩
        case measure=>show a.length-(ls.length+1)<a.length-lenOf _;omega
       ·obtain⟨k,rfl⟩:∃ k,m=k+1:=⟨m-1,by omega⟩;obtain⟨hcell,-⟩:=HQ3.out.2.2 k (by omega);have hzb:=HQ3.out.2.1 k;have HG:Hid (qs.getD (k+1-1) 0=qs.getD k 0):=by show _=_;rw [Nat.add_sub_cancel]
        generalize hz:qs.getD k 0=z at *;by_cases hz0:z=0
        ·subst hz0;go_wp2
         go_round
         case rel=>exact⟨k,by omega,rfl,by have:=zfp (ds:=qs) (n:=k+1) (by omega) HG.out;rw [Nat.add_sub_cancel] at this;exact this.trans HV.out⟩
         case measure=>simp [lenOf]
        ·have hz1:(z==0)=false:=by simp [hz0]
         have HF:=hide (HST.out (k+1) hm HV.out (zbG hm (.inr (by rw [HG.out];exact hz0))));have hml:(qs.take (k+1)).length=k+1:=by rw [List.length_take];omega
         clear HST HV;go_wp2;go_roundw
         case rel=>exact⟨qs.take (k+1),ls++[r],by rw [hml],HF.out⟩
         case measure=>show a.length-(ls.length+1)<a.length-lenOf _;omega
     ·obtain⟨k,rfl⟩:∃ k,p=k+1:=⟨p-1,by omega⟩;obtain⟨hcell,hfr⟩:=hd.2.1.2.2 k (by have:=hd.1;omega);have hzb:=hd.2.1.2.1 k;have HS:=hide (hd.step (by omega) rfl);have HB1:=hide hb1;have HG1:=hide hg1;clear hd hb1 hg1 HOUT HRI;have hki:((k+1:Nat):Int)-1=(k:Int):=by omega
      rw [hki];generalize qs.getD k 0=z at *;go_wp2;go_roundw
      case rel=>exact⟨k,_,_,by omega,by go_num,rfl,HS.out,HB1.out.setCell zL _,zcP HG1.out _ _⟩
      case measure=>simp [intOf]
theorem zis{sb B:Int}(ha:(A=0∧sa=0)∨(0<A∧(sa=1∨sa=-1)))(hb:(B=0∧sb=0)∨(0<B∧(sb=1∨sb=-1)))(hne:sa≠sb):cmpI (sa*A) (sb*B)=if sa<sb then -1 else 1:=by
 unfold cmpI;rcases ha with⟨rfl,rfl⟩ |⟨h1,rfl | rfl⟩ <;> rcases hb with⟨rfl,rfl⟩ |⟨h2,rfl | rfl⟩ <;>(repeat' split) <;> omega
theorem zir{B:Int}(ha:(A=0∧s=0)∨(0<A∧(s=1∨s=-1)))(hb:(B=0∧s=0)∨(0<B∧(s=1∨s=-1))):s*cmpI A B=cmpI (s*A) (s*B):=by
 unfold cmpI;rcases ha with⟨rfl,rfl⟩ |⟨h1,rfl | rfl⟩ <;>(repeat' split) <;> omega
theorem zim (a b:Int):-1≤cmpI a b∧cmpI a b≤1:=by unfold cmpI;repeat' split;all_goals omega
theorem zbI{sl:Value}(hd:DB ds)(hn:Nrm ds)(h:(ds.length=0∧s=0∧sl=.slice none 0 0)∨(0<ds.length∧(s=1∨s=-1))):(dv ds=0∧s=0)∨(0<dv ds∧(s=1∨s=-1)):=by
 rcases h with⟨h1,h2,-⟩ |⟨h1,h2⟩
 ·exact .inl ⟨(zcK hd hn).2 h1,h2⟩
 ·exact .inr ⟨zcI hd hn (by omega),h2⟩
theorem zin (w:World)(va vb:Value)(x y:Int)(n m:Nat)(ha:NumR w va x n)(hb:NumR w vb y m):
  Calls Tryz.prog 90 #[va,vb] w fun e w'=>CmpPost w (cmpI x y) e w':=by
 obtain⟨sa,la,a,rfl,hla,nra,hx,hsa,hna⟩:=ha;obtain⟨sb,lb,b,rfl,hlb,nrb,hy,hsb,hnb⟩:=hb;have HA:=hide hla;have HB:=hide hlb;obtain⟨ao,acap,rfl,-,-,adb,-⟩:=hla;obtain⟨bo,bcap,rfl,-,-,bdb,-⟩:=hlb;have h1:=zbI adb nra hsa;have h2:=zbI bdb nrb hsb;clear hsa hsb;subst hx hy;have hW:Below w.heap.size w ((w.alloc (.cells #[.int .i64 sa,.slice ao a.length acap] 40)).alloc (.cells #[.int .i64 sb,.slice bo b.length bcap] 40)):=((zB _ _).alloc zL _).alloc (by simp) _;have HW:=hide hW;clear hW;by_cases hss:sa=sb
 ·subst hss;have HE:=hide (zir h1 h2);have hs1:sa=0∨sa=1∨sa=-1:=by omega
  clear h1 h2;go_enter Tryz.func90,Tryz.ntmps90;have b1:Box ((w.alloc (.cells #[.int .i64 sa,.slice ao a.length acap] 40)).alloc (.cells #[.int .i64 sa,.slice bo b.length bcap] 40)) w.heap.size (.int .i64 sa) (.slice ao a.length acap):=(zg w _ _ _ _ rfl).later ((zB _ _).alloc (by simp) _:Below (w.heap.size+1) _ _) (by omega);have b2:Box ((w.alloc (.cells #[.int .i64 sa,.slice ao a.length acap] 40)).alloc (.cells #[.int .i64 sa,.slice bo b.length bcap] 40)) (w.heap.size+1) (.int .i64 sa) (.slice bo b.length bcap):=zg _ _ _ _ _ (by simp);have l1:w.heap.size+1<((w.alloc (.cells #[.int .i64 sa,.slice ao a.length acap] 40)).alloc (.cells #[.int .i64 sa,.slice bo b.length bcap] 40)).heap.size:=by simp
  go_wp2_with fail;generalize (w.alloc (.cells #[.int .i64 sa,.slice ao a.length acap] 40)).alloc (.cells #[.int .i64 sa,.slice bo b.length bcap] 40)=W at *;have B1:=hide b1;have B2:=hide b2;obtain⟨k0,k1,-,-⟩:=b1;obtain⟨l0,l2,-,-⟩:=b2
  go_region_held3 (fun w'=>w'.cell? ⟨w.heap.size,0,none⟩=some (.int .i64 sa)∧w'.cell? ⟨w.heap.size,1,none⟩=some (.slice ao a.length acap)∧w'.cell? ⟨w.heap.size+1,0,none⟩=some (.int .i64 sa)∧w'.cell? ⟨w.heap.size+1,1,none⟩=some (.slice bo b.length bcap)) (go_keep)
    (first |(go_at_call 102;refine(zdr _ _ _ a b (HA.out.below HW.out.drew zL) (HB.out.below HW.out.drew zL) nra nrb).mono ?_;rintro e w1 ⟨rfl,hb1⟩;have C1:=hide (B1.out.drew.later hb1 (by show _<W.heap.size;omega));have C2:=hide (B2.out.drew.later hb1 (by show _<W.heap.size;omega));have HW1:=hide (HW.out.drew.trans (hb1.mono HW.out.size));clear hb1;obtain⟨p0,p1,-,-⟩:=C1.out;obtain⟨q0,q1,-,-⟩:=C2.out))
  have hc:=zim (dv a) (dv b);have hm:IntKind.i64.wrap (sa*cmpI (dv a) (dv b))=sa*cmpI (dv a) (dv b):=by rw [IntKind.wrap_i64];rcases hs1 with h | h | h <;> subst h <;> omega
  have HE':=hide (show CmpPost w (cmpI (sa*dv a) (sa*dv b)) (.returned (.int .i64 (sa*cmpI (dv a) (dv b)))) w1 from⟨by rw [HE.out],HW1.out⟩);clear HE;generalize cmpI (dv a) (dv b)=z at *;go_wp2;go_ret;show CmpPost _ _ (.returned (.int .i64 (IntKind.i64.wrap (sa*z)))) _;rw [hm];exact HE'.out
 ·have hd1:(sa==sb)=false:=by simp [hss]
  have hd2:(sa != sb)=true:=by simp [hss]
  have HE:=hide (zis h1 h2 hss);clear h1 h2;by_cases hlt:sa<sb
  ·rw [HE.out,if_pos hlt];clear HE;go_enter Tryz.func90,Tryz.ntmps90;go_wp2;go_ret;exact⟨rfl,HW.out⟩
  ·rw [HE.out,if_neg hlt];clear HE;go_enter Tryz.func90,Tryz.ntmps90;go_wp2;go_ret;exact⟨rfl,HW.out⟩
theorem zcR (w:World)(va vb:Value)(x y:Int)(n:Nat)(ha:NumR w va x n)(hb:NumR w vb y n)(hn:n<1000000000000):
  Calls Tryz.prog 109 #[va,vb] w fun e w'=>RefPost w (x-y) (n+1) e w':=by
 have HA:=hide ha;have HB:=hide hb;obtain⟨sa,ao,al,ac,rfl,-⟩:=ha.form;obtain⟨sb,bo,bl,bc,rfl,-⟩:=hb.form;clear ha hb;go_enter Tryz.func109,Tryz.ntmps109;go_wp2_with fail;have hT:=hide (threeR w (.int .i64 sa) (.slice ao al ac) (.int .i64 sb) (.slice bo bl bc) (.int .i64 0) (.slice none 0 0));generalize ((w.alloc (.cells #[.int .i64 sa,.slice ao al ac] 40)).alloc (.cells #[.int .i64 sb,.slice bo bl bc] 40)).alloc (.cells #[.int .i64 0,.slice none 0 0] 40)=W at *;obtain⟨k0,k1,-,-⟩:=hT.out.fst.box;obtain⟨l0,l1,-,-⟩:=hT.out.snd.box;have hn2:¬(w.heap.size+1+1=w.heap.size):=by omega
 have hn3:¬(w.heap.size=w.heap.size+1+1):=by omega
 go_region_held3 (fun w'=>w'.cell? ⟨w.heap.size,0,none⟩=some (.int .i64 sa)∧w'.cell? ⟨w.heap.size,1,none⟩=some (.slice ao al ac)∧w'.cell? ⟨w.heap.size+1,0,none⟩=some (.int .i64 sb)∧w'.cell? ⟨w.heap.size+1,1,none⟩=some (.slice bo bl bc)) (go_keep)
   (first
    |(go_at_call 60;refine(zbb _ _ y n (HB.out.below hT.out.drew.below zL)).mono ?_;rintro e w1 ⟨v1,rfl,hv1,hb1⟩;have hT1:=hide (hT.out.drew.later hb1);obtain⟨s1,o1,m1,c1,rfl,-⟩:=hv1.form;have HV:=hide hv1;clear hv1 hb1;obtain⟨p0,p1,-,-⟩:=hT1.out.fst.box;obtain⟨q0,q1,-,-⟩:=hT1.out.snd.box)
    |(go_at_call 61;refine(zdb _ _ _ x (-y) n (HA.out.below hT1.out.below zL) HV.out hn).mono ?_;rintro e w2 ⟨r,rfl,hr,hb2⟩;have hT2:=hide (hT1.out.later hb2);clear hb2;obtain⟨p0',p1',-,-⟩:=hT2.out.fst.box;obtain⟨q0',q1',-,-⟩:=hT2.out.snd.box;obtain⟨c0,c1,f0,f1⟩:=hT2.out.res.box;rw [← Int.sub_eq_add_neg] at hr;have HR:=hide hr;obtain⟨sr,o,l,c,rfl,-⟩:=hr.form;clear hr))
 have HF:=hide (boxedR (w:=w) HR.out hT2.out.res hT2.out.below (by omega));clear hT1 hT2 HR HV;go_wp2;exact bodyPost_ret (v:=.agg #[.int .i64 sr,.slice o l c]) (by simp [results,Tryz.results109,go_sem,c0,c1]) rfl HF.out
def faulty (b:Bool):Int:=if b=true then 0 else 3
theorem zjV (w:World)(neg:Bool)(s:Value)(zs:List Int)(hl:Lim w s zs):
  Calls Tryz.prog 87 #[.agg #[.bool neg,s]] w fun e w'=>e=.returned (.int .i64 (faulty (isNum neg zs)))∧Below w.heap.size w w':=by
 obtain⟨ao,acap,rfl,-,hlen,hlb,hc⟩:=hl;by_cases h0:zs.length=0
 ·have hb:((zs.length:Int)==0)=true:=by simp [h0]
  have hg:¬(0<zs.length):=by omega
  have e:isNum neg zs=!neg:=by unfold isNum;rw [if_pos h0]
  rw [e];clear hc h0 e;cases neg
  ·go_enter Tryz.func87,Tryz.ntmps87;go_wp2;go_ret;exact⟨rfl,(zB _ _).alloc zL _⟩
  ·go_enter Tryz.func87,Tryz.ntmps87;go_wp2;go_ret;exact⟨rfl,(zB _ _).alloc zL _⟩
 ·have hb:((zs.length:Int)==0)=false:=by rw [beq_eq_false_iff_ne];omega
  have hg:0<zs.length:=by omega
  obtain⟨b,off,rfl,hbb,hc⟩:=hc (by omega);have hcc:=hc (zs.length-1) (by omega);have hi:(zs.length:Int)-1=((zs.length-1:Nat):Int):=by omega
  obtain⟨k,hk⟩:∃ k,k=zs.length-1:=⟨_,rfl⟩;have hkl:k<zs.length:=by omega
  rw [← hk] at hi hcc;have e:isNum neg zs=(zs.getD k 0 != 0):=by unfold isNum;rw [if_neg h0,hk]
  rw [e];have hz:=hlb k;clear hc hk e;generalize zs.getD k 0=z at *;have hcc2:∀ o,(w.alloc o).cell? ⟨b,off+k,none⟩=some (.int .u32 z):=fun o=>((((zB w.heap.size w).alloc zL o).cell (p:=⟨b,off+k,none⟩) hbb)).trans hcc;by_cases hz0:z=0
  ·subst hz0;go_enter Tryz.func87,Tryz.ntmps87;go_wp2;go_ret;exact⟨rfl,(zB _ _).alloc zL _⟩
  ·have hz1:(z==0)=false:=by simp [hz0]
   have hz2:(z != 0)=true:=by simp [hz0]
   rw [hz2];go_enter Tryz.func87,Tryz.ntmps87;go_wp2;go_ret;exact⟨rfl,(zB _ _).alloc zL _⟩
theorem ziM (zs:List Int)(k j:Nat)(z:Int)(h:k<zs.length):(zs.set k z).getD j 0=if j=k then z else zs.getD j 0:=by
 rw [zG,List.getElem?_set];by_cases hk:k=j
 ·subst hk;simp [h]
 ·rw [if_neg hk,if_neg (fun e=>hk e.symm),zG]
def UInv (w wr:World)(base:Nat)(v:Value)(zs:List Int)(c0:Int)(k:Nat)(cy:Int)(ys:List Int):Prop:=
 wr.ownsRow base 3 1 v zs.length (ys.map (Value.int .i64))∧ys.length=zs.length∧DB ys∧ys.drop k=zs.drop k∧dv (ys.take k)+dp k*cy=4294967296*dv (zs.take k)+c0∧0≤cy∧cy<4294967296∧Below base w wr
theorem UInv.step(h:UInv w wr base (.slice (some ⟨g,0,none⟩) zs.length cap) zs c0 k cy ys)(hk:k<zs.length)(hT:T=ys.getD k 0*4294967296+cy):
  UInv w (wr.setCell ⟨g,k,none⟩ (.int .i64 (T%10000))) base (.slice (some ⟨g,0,none⟩) zs.length cap) zs c0 (k+1) (T/10000) (ys.set k (T%10000)):=by
 obtain⟨h1,h2,h3,h4,h5,h6,h7,h8⟩:=h;have hz:=h3 k;have hst:=h1.stored k (.int .i64 (T%10000));have he:ys.getD k 0=zs.getD k 0:=by
  have e1:=zz ys k (by omega);have e2:=zz zs k hk;rw [h4] at e1;rw [e1] at e2;exact(List.cons.injEq _ _ _ _ ▸ e2).1
 have hlt:=h1.lt g rfl;refine⟨by rw [List.map_set];exact hst.1,by simp [h2],zeB h3 k (by omega),?_,?_,by omega,by omega,h8.setCell (by simp;omega) _⟩
 ·rw [zbV ys k (k+1) _ (Nat.lt_succ_self k)];have e1:=congrArg (List.drop 1) h4
  rwa [List.drop_drop,List.drop_drop] at e1
 ·rw [zaF,zaB ys k k _ zL,ziM _ _ _ _ (by omega),if_pos rfl,zaF];simp only [dp];have e1:10000*dp k *(T/10000)=dp k *(10000 *(T/10000)):=by rw [Int.mul_comm 10000,Int.mul_assoc]
  have e2:dp k *(T%10000)+dp k *(10000 *(T/10000))=dp k*T:=by rw [← Int.mul_add];congr 1;omega
  have e3:dp k*T=dp k *(4294967296*ys.getD k 0)+dp k*cy:=by rw [hT,Int.mul_add,Int.mul_comm (ys.getD k 0)]
  have e4:dp k *(4294967296*ys.getD k 0)=4294967296 *(dp k*zs.getD k 0):=by rw [he,Int.mul_left_comm]
  rw [e1,Int.mul_add];omega
theorem UInv.fin(h:UInv w wr base v zs c0 zs.length cy ys):dv ys+dp zs.length*cy=4294967296*dv zs+c0:=by
 have:=h.2.2.2.2.1;rw [List.take_length,zby ys (by rw [h.2.1];exact Nat.le_refl _)] at this;exact this
def VInv (w wr:World)(base:Nat)(n:Nat)(T:Int)(cy:Int)(d:Value)(ds:List Int):Prop:=
 wr.ownsRow base 3 1 d ds.length (ds.map (Value.int .i64))∧DB ds∧T=dv ds+dp ds.length*cy∧0≤cy∧(∃ j:Nat,j≤3∧ds.length+j≤n+3∧cy<dp j)∧Below base w wr
theorem UInv.behind(h:UInv w wr base v zs c0 zs.length cy ys):VInv w wr base zs.length (4294967296*dv zs+c0) cy v ys:=by
 have hf:=h.fin;obtain⟨h1,h2,h3,h4,h5,h6,h7,h8⟩:=h;have e3:dp 3=1000000000000:=by decide
 exact⟨by rw [h2];exact h1,h3,by rw [h2];exact hf.symm,h6,⟨3,Nat.le_refl _,by omega,by omega⟩,h8⟩
theorem VInv.step{d':Value}(h:VInv w wr base n T cy d ds)(hb:base≤wr.heap.size)(hc:cy≠0)(hr:cy%10000=r)
  (hown:w3.ownsRow base 3 1 d' (ds.length+1) (ds.map (Value.int .i64)++[.int .i64 r])) (hg:(wr.alloc (.cells #[.int .i64 r] 3)).grownBy w3 d.ownBlock):VInv w w3 base n T (cy/10000) d' (ds++[r]):=by
 obtain⟨h1,h2,h3,h4,⟨j,hj,hl,hlt⟩,h6⟩:=h;have hbb:=zbl h1 hb hg;refine⟨by rw [List.length_append,List.map_append];exact hown,zcr h2 (by omega),?_,by omega,?_,h6.trans hbb⟩
 ·rw [zcJ,List.length_append,List.length_singleton,h3];simp only [dp];have e:10000*dp ds.length *(cy/10000)=dp ds.length *(10000 *(cy/10000)):=by rw [Int.mul_comm 10000,Int.mul_assoc]
  rw [e,Int.add_assoc,← Int.mul_add];congr 2;omega
 ·match j,hj,hl,hlt with
  | 0,_,_,hlt=>simp only [dp] at hlt;omega
  | j+1,hj,hl,hlt=>exact⟨j,by omega,by simp;omega,by simp only [dp] at hlt;omega⟩
theorem VInv.few(h:VInv w wr base n T cy d ds):ds.length≤n+3:=by
 obtain⟨_,_,_,_,⟨j,_,hl,_⟩,_⟩:=h;omega
def FInv (w wr:World)(vl:Value)(neg:Bool)(ls:List Int)(i:Nat)(d:Value)(ds:List Int):Prop:=
 wr.ownsRow (w.heap.size+2) 3 1 d ds.length (ds.map (Value.int .i64))∧DB ds∧dv ds=lv (ls.drop i)∧ds.length≤3 *(ls.length-i)∧Box wr w.heap.size (.bool neg) vl∧BoxR wr (w.heap.size+1) (.int .i64 0) (.slice none 0 0)∧Below w.heap.size w wr
theorem zi8 (w:World)(neg:Bool)(ao:Option Addr)(al ac:Nat)(ls:List Int):FInv w ((w.alloc (.cells #[.bool neg,.slice ao al ac] 29)).alloc (.cells #[.int .i64 0,.slice none 0 0] 40)) (.slice ao al ac) neg ls ls.length (.slice none 0 0) []:=by
 refine⟨World.ownsRow_nil _ _ _ _,zaY,by simp [dv,lv],by simp,?_,zw _ _ _ _ (by simp),((zB _ _).alloc zL _).alloc (by simp) _⟩;exact(zg w _ _ _ _ rfl).later ((zB _ _).alloc (by simp) _:Below (w.heap.size+1) _ _) (by omega)
theorem FInv.size(h:FInv w wr vl neg ls i d ds):w.heap.size+2≤wr.heap.size:=by
 have:=h.2.2.2.2.2.1.lt;omega
theorem FInv.inner(h:FInv w wr vl neg ls i d ds){c:Int}(hc:0≤c∧c<4294967296):UInv wr wr (w.heap.size+2) d ds c 0 c ds:=
 ⟨h.1,rfl,h.2.1,rfl,by simp [dv,dp],hc.1,hc.2,zB _ _⟩
theorem FInv.next{d2:Value}{ds2:List Int}(h:FInv w wr vl neg ls (i+1) d ds)(hi:i<ls.length)(hv:VInv wr w2 (w.heap.size+2) ds.length (4294967296*dv ds+ls.getD i 0) 0 d2 ds2):FInv w w2 vl neg ls i d2 ds2:=by
 have hf:=hv.few;obtain⟨h1,h2,h3,h4,h5,h6,h7⟩:=h;obtain⟨k1,k2,k3,-,-,k6⟩:=hv;refine⟨k1,k2,?_,by omega,h5.later k6 (by omega),h6.later k6 (by omega),h7.trans (k6.mono (by omega))⟩;rw [zz ls i hi];simp only [lv];rw [← h3];omega
theorem zeD{z:Int}(h:FInv w wr vl neg ls 0 d ds)(hr:RefPost wr (s*dv ds) ds.length (.returned v) w2)(hz:z=s*lv ls)(hn:ls.length≤n):
  NumR w2 v z (3*n)∧BoxR w2 (w.heap.size+1) (.int .i64 0) (.slice none 0 0)∧Below w.heap.size w w2:=by
 obtain⟨h1,h2,h3,h4,h5,h6,h7⟩:=h;obtain⟨v',e,hv,hb⟩:=hr;obtain rfl:=Ending.returned.inj e;rw [List.drop_zero] at h3;rw [h3,← hz] at hv;exact⟨hv.mono (by omega),h6.later hb h6.lt,h7.trans (hb.mono h7.size)⟩
theorem zjr (w:World)(va:Value)(z:Int)(n:Nat)(ha:NumL w va z n)(hn:n≤30000):
  Calls Tryz.prog 62 #[va] w fun e w'=>RefPost w z (3*n) e w':=by
 obtain⟨i0,hi,hz0,hz1,hz2⟩:=info_parts Tryz.infoInt;obtain⟨neg,sl,ls,rfl,hl,hnrm,hneg,hz,hln⟩:=ha;have HL:=hide hl;obtain⟨ao,cap,rfl,hcap,hlen,hlb,hc⟩:=hl;have hc':∀ i,i<ls.length→∃ b off,ao=some ⟨b,off,none⟩∧b<w.heap.size∧w.cell? ⟨b,off+i,none⟩=some (.int .u32 (ls.getD i 0)):=fun i h=>by
  obtain⟨b,off,e,hb,hc⟩:=hc (by omega);exact⟨b,off,e,hb,hc i h⟩
 have HC:=hide hc';clear hc hc';have HZ:=hide hz;have hst:=hide (zi8 w neg ao ls.length cap ls);clear hz;go_enter Tryz.func62,Tryz.ntmps62;go_wp2;go_loopw [3,4] (fun d i wr=>∃(p:Nat) (ds:List Int),p≤ls.length∧i=.int .i64 ((p:Int)-1)∧FInv w wr (.slice ao ls.length cap) neg ls p d ds) (fun _ i _=>(intOf i+1).toNat)
 case atStart=>exact⟨ls.length,[],Nat.le_refl _,rfl,hst.out⟩
 case round=>
  clear hst;obtain⟨p,ds,hp,rfl,hinv⟩:=hrel;have HI:=hide hinv;obtain⟨b0,b1,-,-⟩:=hinv.2.2.2.2.1;clear hinv
  match p,hp,HI with
  | 0,_,HI=>
   have hcut:∀ s:Int,(s=1∨s=-1)→Calls Tryz.prog 100 #[.int .i64 s,u3] wr fun e w'=>RefPost wr (s*dv ds) ds.length e w':=fun s hs=>
    zau wr s _ ds (Dig.owns HI.out.1 HI.out.2.1 (by have:=HI.out.2.2.2.1;omega)) (by omega)
   cases neg
   ·have HZ':=hide (show z=1*lv ls by have:=HZ.out;simpa using this);clear HZ;go_wp2_with fail;refine(hcut 1 (.inl rfl)).mono ?_;rintro e w2 ⟨r,rfl,hr,hb2⟩;obtain⟨hr3,hB,hbl⟩:=zeD HI.out ⟨r,rfl,hr,hb2⟩ HZ'.out hln;obtain⟨sr,o,l,c,rfl,-⟩:=hr.form;obtain⟨c0,c1,f0,f1⟩:=hB.box;have HF:=hide (boxedR hr3 hB hbl (by omega));clear hr hr3 hB hbl hb2 HI hcut HC HL HZ' b0 b1;go_wp2;exact bodyPost_ret (v:=.agg #[.int .i64 sr,.slice o l c]) (by simp [results,Tryz.results62,go_sem,c0,c1]) rfl HF.out
   ·have HZ':=hide (show z=-1*lv ls by have:=HZ.out;simpa using this);clear HZ;go_wp2_with fail;refine(hcut (-1) (.inr rfl)).mono ?_;rintro e w2 ⟨r,rfl,hr,hb2⟩;obtain⟨hr3,hB,hbl⟩:=zeD HI.out ⟨r,rfl,hr,hb2⟩ HZ'.out hln;obtain⟨sr,o,l,c,rfl,-⟩:=hr.form;obtain⟨c0,c1,f0,f1⟩:=hB.box;have HF:=hide (boxedR hr3 hB hbl (by omega));clear hr hr3 hB hbl hb2 HI hcut HC HL HZ' b0 b1;go_wp2;exact bodyPost_ret (v:=.agg #[.int .i64 sr,.slice o l c]) (by simp [results,Tryz.results62,go_sem,c0,c1]) rfl HF.out
  | i+1,hp,HI=>
   obtain⟨b,off,rfl,hbw,hcell⟩:=HC.out i (by omega);have hcell':=(HI.out.2.2.2.2.2.2.cell (p:=⟨b,off+i,none⟩) hbw).trans hcell;have hlim:=hlb i;have HU:=hide (HI.out.inner hlim);clear hcell;have hi1:((i+1:Nat):Int)-1=(i:Int):=by omega
   rw [hi1];clear hi1;have HG:=hide (show ls.getD i 0=ls.getD i 0 from rfl);generalize hlg:ls.getD i 0=c at *;have HLG:=hide hlg;clear hlg;obtain⟨od,cd,rfl⟩:∃ o cap,u3=.slice o ds.length cap:=by
    rcases HI.out.1.2 with⟨e,h0⟩ |⟨g,cap,cur,e,-⟩
    ·exact⟨none,0,by rw [h0];exact e⟩
    ·exact⟨_,cap,e⟩
   have hdl:ds.length≤90000:=by have:=HI.out.2.2.2.1;omega
   have hsz:=HI.out.size;generalize wr=W0 at *;go_wp2;go_loopw [5,6,7] (fun cy k _ w1=>∃(j:Nat) (x:Int) (ys:List Int),j≤ds.length∧k=.int .i64 j∧cy=.int .i64 x∧UInv W0 w1 (w.heap.size+2) (.slice od ds.length cd) ds c j x ys) (fun _ k _ _=>ds.length-(intOf k).toNat)
   case atStart=>exact⟨0,c,ds,Nat.zero_le _,rfl,rfl,HU.out⟩
   case round=>
    clear HU;obtain⟨j,x,ys,hj,rfl,rfl,hinv⟩:=hrel;have hc0:=hinv.2.2.2.2.2.1;have hc1:=hinv.2.2.2.2.2.2.1;by_cases hlt:j<ds.length
    ·obtain⟨g,cap',e,-,hgs⟩:=hinv.1.form (by omega);simp only [zV,true_and] at e;obtain⟨rfl,rfl⟩:=e;have hky:j<ys.length:=by have:=hinv.2.1;omega
     have hcl:=hinv.1.cellAt j (by omega);rw [List.getElem?_map,List.getElem?_eq_getElem hky,Option.map_some,show ys[j]'hky=ys.getD j 0 by rw [zG,List.getElem?_eq_getElem hky];rfl] at hcl;have hfr:=hinv.1.frozenAt j;have hz:=hinv.2.2.1 j;have HS:=hide (hinv.step hlt rfl);clear hinv hcell' b0 b1;generalize ys.getD j 0=y at *;have hm1:IntKind.i64.wrap (y*4294967296)=y*4294967296:=by rw [IntKind.wrap_i64];omega
     have hm2:IntKind.i64.wrap (y*4294967296+x)=y*4294967296+x:=by rw [IntKind.wrap_i64];omega
     have hm3:(y*4294967296+x).tmod 10000=(y*4294967296+x)%10000:=Int.tmod_eq_emod_of_nonneg (by omega);have hm4:(y*4294967296+x).tdiv 10000=(y*4294967296+x)/10000:=Int.tdiv_eq_ediv_of_nonneg (by omega);go_wp2;go_roundw
     case rel=>exact⟨j+1,_,_,by omega,by go_num,rfl,HS.out⟩
     case measure=>simp [intOf];omega
    ·obtain rfl:j=ds.length:=by omega
     have HV:=hide hinv.behind;clear hinv hcell' b0 b1;go_wp2;go_loopw [3,5] (fun d cy w2=>∃(x:Int) (es:List Int),cy=.int .i64 x∧VInv W0 w2 (w.heap.size+2) ds.length (4294967296*dv ds+c) x d es) (fun _ cy _=>(intOf cy).toNat)
     case atStart=>exact⟨x,ys,rfl,HV.out⟩
     case round=>
      clear HV;obtain⟨y,es,rfl,hv⟩:=hrel;have hy0:=hv.2.2.2.1;have hfew:=hv.few;by_cases hy:y=0
      ·subst hy;have HN:=hide (HI.out.next (by omega) (by rw [HLG.out];exact hv));clear hv HI;go_wp2;go_roundw
       case rel=>exact⟨i,es,by omega,by go_num,HN.out⟩
       case measure=>simp [intOf]
      ·have hown:=hv.1;have hbs:w.heap.size+2≤wr.heap.size:=by have:=hv.2.2.2.2.2.size;omega
       have HST:=hide (fun d' w3 hown' hg=>hv.step (d':=d') (w3:=w3) hbs hy rfl hown' hg);have hyp:0<y:=by omega
       have hy1:y≤1000000000000:=by obtain⟨_,_,_,_,⟨j,hj,_,hlt⟩,_⟩:=hv;have:=zbw hj;have e3:dp 3=1000000000000:=(by decide);omega
       have hm3:y.tmod 10000=y%10000:=Int.tmod_eq_emod_of_nonneg (by omega);have hm4:y.tdiv 10000=y/10000:=Int.tdiv_eq_ediv_of_nonneg (by omega);have hdec:decide (0<y)=true:=decide_eq_true hyp;clear hv;go_wp2_with (at_builtin;refine wpList_append_lies _ rfl _ _ 38 rfl (w.heap.size+2) 3 i0 (.int .i64 0) 1 8 Tryz.underlying38 hi hz0 hz1 hz2 rfl (by decide) u3 es.length (es.map (Value.int .i64)) rfl (hown.alloc _) ⟨wr.heap.size,0,none⟩ 1 1 [.int .i64 (y%10000)] rfl rfl (World.news_of_block (heap_alloc_new wr _)) (fun u hu=>by rw [List.mem_singleton] at hu;rw [hu];rfl) (by decide) (by unfold maxLen;omega) (by omega) (by simp;omega) (wr.heap.size+1) (by simp) ?_);intro g cap' w3 hown3 hgrow3 hat3 hlt3;have HF:=hide (HST.out _ _ hown3 hgrow3);clear hown3 hgrow3 hat3 hown HST;go_wp2;go_roundw
       case rel=>exact⟨_,_,rfl,HF.out⟩
       case measure=>simp [intOf];omega
end Go.Proofs.YtdedolkgcdlmeaaGreatDoor
