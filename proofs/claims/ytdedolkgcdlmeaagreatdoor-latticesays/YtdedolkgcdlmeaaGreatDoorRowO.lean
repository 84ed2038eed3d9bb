import Derived.Test.YtdedolkgcdlmeaaGreatDoorRefF
set_option maxRecDepth 100000
set_option maxHeartbeats 1600000
namespace Go.Proofs.YtdedolkgcdlmeaaGreatDoor
open Go.RowKit Limbs Digs
variable{n g base B cap k:Nat}{v a1 a0 l:Value}{W w W' wr w3 w':World}{zs ds ls qs:List Int}{A s z r sa:Int}
theorem zhO (n:Nat):dp n≤bp n:=by
 induction n with
 | zero=>simp [bp,dp]
 | succ n ih=>simp only [bp,dp];have:=zaq n;omega
theorem RowI.owns(h:w.ownsRow base 3 1 (.slice (some ⟨g,0,none⟩) ds.length cap) ds.length (ds.map (Value.int .i64)))(hd:DB ds):RowI w g ds:=by
 refine⟨?_,hd,fun j hj=>⟨?_,h.frozenAt j⟩⟩
 ·rcases h.2 with⟨e,-⟩ |⟨g',cap',cur,e,hb,hg,-⟩
  ·cases e
  ·simp only [zV,Option.some.injEq,Addr.mk.injEq,true_and,and_true] at e;obtain⟨rfl,rfl⟩:=e;exact⟨_,_,hg⟩
 ·rw [h.cellAt j (by omega)];simp [List.getD_eq_getElem?_getD,hj]
theorem RowI.take(h:RowI w g zs)(n:Nat):RowI w g (zs.take n):=by
 obtain⟨h1,h2,h3⟩:=h;refine⟨h1,zbD h2 n,fun j hj=>?_⟩;rw [List.length_take] at hj;rw [zaC zs n j (by omega)];exact h3 j (by omega)
theorem RowI.later(h:RowI w g zs)(hb:Below B w w')(hg:g<B):RowI w' g zs:=by
 obtain⟨⟨cur,fz,h1⟩,h2,h3⟩:=h;exact⟨⟨cur,fz,(hb.block g hg).trans h1⟩,h2,fun j hj=>⟨(hb.cell (p:=⟨g,j,none⟩) hg).trans (h3 j hj).1,(hb.frozen (p:=⟨g,j,none⟩) hg).trans (h3 j hj).2⟩⟩
structure IBox (w W:World)(a0 a1:Value):Prop where
 fst:BoxR W w.heap.size a0 a1
 res:Box W (w.heap.size+1) (.bool false) (.slice none 0 0)
 below:Below w.heap.size w W
 size:w.heap.size+1<W.heap.size
theorem iBox (w:World)(a0 a1:Value):IBox w ((w.alloc (.cells #[a0,a1] 40)).alloc (.cells #[.bool false,.slice none 0 0] 29)) a0 a1 where
 fst:=(zq w _ _ _ rfl).later ((zB _ _).alloc (by simp) _:Below (w.heap.size+1) _ _) (by omega)
 res:=zf (w.alloc _) _ _ _ _ (by simp)
 below:=((zB _ _).alloc zL _).alloc (by simp) _
 size:=by simp
theorem IBox.later(h:IBox w W a0 a1)(hb:Below B W W')(hB:w.heap.size+1+1≤B):IBox w W' a0 a1 where
 fst:=h.fst.later hb (by omega)
 res:=h.res.later hb (by omega)
 below:=h.below.trans (hb.mono (by omega))
 size:=zT h.size hb.size
def IOut (w wr:World)(a0 a1:Value)(A:Int)(n:Nat)(g:Nat)(l:Value)(zs ls:List Int):Prop:=
 IBox w wr a0 a1∧RowI wr g zs∧Nrm zs∧zs.length≤n∧wr.ownsRow (g+1) 104 1 l ls.length (ls.map (Value.int .u32))∧LB ls∧A=lv ls+bp ls.length*dv zs ∧
  (dv zs=0→ls.length=0∨ls.getD (ls.length-1) 0≠0)∧g<wr.heap.size∧lenOf l=ls.length∧ls.length≤n
theorem IOut.few(h:IOut w wr a0 a1 A n g l zs ls)(hA:A<bp n)(hz:zs.length≠0):ls.length<n:=by
 obtain⟨-,h2,h3,-,-,h6,h7,-⟩:=h;have h8:=zcq h2.2.1 h3 hz;have h9:=zD h6;have h10:=zE ls.length;have e5:bp ls.length*1≤bp ls.length*dv zs:=Int.mul_le_mul_of_nonneg_left (by omega) (by omega);by_cases hk:ls.length<n
 ·exact hk
 ·have:=zaa (m:=n) (n:=ls.length) (by omega);omega
def IDiv (wr:World)(g:Nat)(zs:List Int)(p:Nat)(r:Int)(qs:List Int):Prop:=
 qs.length=zs.length∧RowI wr g qs∧qs.take p=zs.take p∧dv (zs.drop p)=4294967296*dv (qs.drop p)+r∧0≤r∧r<4294967296
theorem IDiv.start(h:RowI wr g zs):IDiv wr g zs zs.length 0 zs:=
 ⟨rfl,h,rfl,by rw [List.drop_length];simp [dv],by decide,by decide⟩
theorem IDiv.step{p:Nat}(h:IDiv wr g zs (p+1) r qs)(hp:p<zs.length){T:Int}(hT:T=r*10000+qs.getD p 0):
  IDiv (wr.setCell ⟨g,p,none⟩ (.int .i64 (T/4294967296))) g zs p (T%4294967296) (qs.set p (T/4294967296)):=by
 obtain⟨h1,h2,h4,h5,h6,h7⟩:=h;have hz:=h2.2.1 p;have he:qs.getD p 0=zs.getD p 0:=zeW h4 (Nat.lt_succ_self p);refine⟨by rw [List.length_set];exact h1,h2.store (by omega) (by omega),?_,?_,by omega,by omega⟩
 ·rw [zaw _ _ _ _ zL];have:=congrArg (List.take p) h4
  rwa [List.take_take,List.take_take,Nat.min_eq_left (by omega)] at this
 ·rw [zz zs p hp,zz (qs.set p (T/4294967296)) p (by rw [List.length_set];omega),zco qs p (p+1) _ (Nat.lt_succ_self p),zJ _ _ _ _ (by omega),if_pos rfl];simp only [dv];rw [h5,← he];omega
theorem IOut.step{w1:World}{m:Nat}{l':Value}(h:IOut w wr a0 a1 A n g l zs ls)(hgw:w.heap.size+1+1≤g)(hA:A<bp n)(hz:zs.length≠0)
  (hd:IDiv w1 g zs 0 r qs) (hb1:Below g wr w1) (hg1:wr.grownBy w1 (some g))
  (hown:w3.ownsRow (g+1) 104 1 l' (ls.length+1) (ls.map (Value.int .u32)++[.int .u32 r])) (hg3:(w1.alloc (.cells #[.int .u32 r] 104)).grownBy w3 l.ownBlock)
  (hm:m≤qs.length) (hqm:dv (qs.take m)=dv qs) (hnm:Nrm (qs.take m)):IOut w w3 a0 a1 A n g l' (qs.take m) (ls++[r]):=by
 have hf:=h.few hA hz;obtain⟨h1,h2,h3,h4,h5,h6,h7,h8,h9,h10,h11⟩:=h;obtain⟨d1,d2,d3,d4,d5,d6⟩:=hd;rw [List.drop_zero,List.drop_zero] at d4;have hpos:=zcq h2.2.1 h3 hz;have hown1:=h5.kept hg1 (.inr (fun e=>by have:=h5.lt _ e;omega));have hb3:Below (g+1) w1 w3:=zbH hown1 (by have:=hg1.size;omega) hg3;refine⟨(h1.later hb1 hgw).later hb3 (by omega),(d2.take m).later hb3 (by omega),hnm,by rw [List.length_take];omega,by rw [List.length_append,List.map_append];exact hown,zgE h6 ⟨d5,d6⟩,?_,?_,?_,?_,by simp;omega⟩
 ·rw [zi2,hqm,h7,d4,List.length_append,List.length_singleton];simp only [bp];rw [Int.mul_add];have e:bp ls.length *(4294967296*dv qs)=4294967296*bp ls.length*dv qs:=by rw [Int.mul_left_comm,Int.mul_assoc]
  rw [e];omega
 ·intro h0;right;rw [hqm] at h0;rw [List.length_append,List.length_singleton,Nat.add_sub_cancel,zG,List.getElem?_append_right zL,Nat.sub_self];simp;omega
 ·have:=hb3.size;have:=hg1.size;omega
 ·rw [zdv hown];simp
theorem zkq{d:Int}(hs:(k=0∧s=0)∨(0<k∧(s=1∨s=-1)))(hk:k=0→d=0):(if decide (s<0)=true then -d else d)=s*d:=by
 rcases hs with⟨h1,h2⟩ |⟨-,h2 | h2⟩
 ·subst h2;rw [hk h1];simp
 ·subst h2;simp
 ·subst h2;simp
theorem IOut.done(h:IOut w wr (.int .i64 sa) a1 A n g l zs ls)(hn:n≤1000000)(hz:zs.length=0)(hs:(k=0∧sa=0)∨(0<k∧(sa=1∨sa=-1)))(hk:k=0→A=0)(hk':A=0→k=0):
  NumL wr (.agg #[.bool (decide (sa<0)),l]) (sa*A) n:=by
 obtain⟨h1,h2,h3,h4,h5,h6,h7,h8,h9,h10,h11⟩:=h;have e0:zs=[]:=List.eq_nil_of_length_eq_zero hz;subst e0;have e:A=lv ls:=by simpa [dv] using h7
 refine⟨_,l,ls,rfl,Lim.owns h5 h6 (by omega),h8 rfl,fun h0=>?_,?_,h11⟩
 ·have:A=0:=by rw [e,List.eq_nil_of_length_eq_zero h0];rfl
  have:=hk' this;have:sa=0:=by omega
  subst this;rfl
 ·rw [← e,zkq hs hk]
theorem ziv (w:World)(va:Value)(x:Int)(n:Nat)(ha:NumR w va x n)(hn6:n≤1000000:=by omega):
  Calls Tryz.prog 16 #[va] w fun e w'=>IntPost w x n e w':=by
 obtain⟨sa,la,a,rfl,hla,nra,hx,hsa,hna⟩:=ha;have HA:=hide hla;obtain⟨ao,acap,rfl,hacap,halen,hadb,-⟩:=hla;replace halen:a.length≤1000000:=by omega
 have HX:=hide hx;clear hx;obtain⟨i0,hi,hz0,hz1,hz2⟩:=info_parts Tryz.infoInt;obtain⟨j0,hj,hy0,hy1,hy2⟩:=info_parts Tryz.infoU32;by_cases hl0:a.length=0
 ·rcases hsa with⟨-,rfl,e⟩ |⟨h,-⟩
  ·simp only [zV] at e;obtain⟨rfl,-,rfl⟩:=e;have e0:a=[]:=List.eq_nil_of_length_eq_zero hl0;subst e0;have HF:Hid (NumPost w x n (.returned (.agg #[.bool false,.slice none 0 0])) ((w.alloc (.cells #[.int .i64 0,.slice none 0 0] 40)).alloc (.cells #[.bool false,.slice none 0 0] 29))):=
    ⟨_,rfl,⟨false,_,[],rfl,⟨none,0,rfl,Nat.le_refl _,by simp,zaJ,fun h=>absurd h (by simp)⟩,.inl rfl,fun _=>rfl,by rw [HX.out];simp [dv,lv],by simp⟩,(iBox w _ _).below⟩
   clear HA HX nra;go_enter Tryz.func16,Tryz.ntmps16;go_wp2;go_loopw [3,4] (fun d l wr=>d=.slice none 0 0∧l=.slice none 0 0∧wr=(w.alloc (.cells #[.int .i64 0,.slice none 0 0] 40)).alloc (.cells #[.bool false,.slice none 0 0] 29)) (fun _ _ _=>0)
   case atStart=>exact⟨rfl,rfl,rfl⟩
   case round=>
    obtain⟨rfl,rfl,rfl⟩:=hrel;go_wp2;exact bodyPost_ret (v:=.agg #[.bool false,.slice none 0 0]) (by simp [results,Tryz.results16,go_sem]) rfl ⟨HF.out,fun neg s e a l c h=>by simp only [Ending.returned.injEq,Value.agg.injEq,Array.mk.injEq,List.cons.injEq,and_true] at e;rw [← e.2] at h;cases h⟩
  ·omega
 ·have hsa':(a.length=0∧sa=0)∨(0<a.length∧(sa=1∨sa=-1)):=by
   rcases hsa with⟨h1,h2,-⟩ |⟨h1,h2⟩
   ·omega
   ·exact .inr ⟨h1,h2⟩
  clear hsa;have HSA:=hide hsa';clear hsa';have HZ:=hide (zcr hadb nra);have hAlt:Hid (dv a<bp a.length):=by
   have h1:=zbi hadb;have h2:=zhO a.length;exact(by omega:dv a<bp a.length)
  have HN:Hid (∀ ab aoff,ao=some ⟨ab,aoff,none⟩→∀ j u,(a.map (Value.int .i64))[j]?=some u→((w.alloc (.cells #[.int .i64 sa,.slice ao a.length acap] 40)).alloc (.cells #[.bool false,.slice none 0 0] 29)).cell? ((⟨ab,aoff,none⟩:Addr).add j)=some u):=by
   intro ab aoff hao j u hu;obtain⟨_,_,e,-,-,-,hac⟩:=HA.out.below (iBox w (.int .i64 sa) (.slice ao a.length acap)).below zL;simp only [zV,true_and] at e;obtain⟨rfl,rfl⟩:=e;obtain⟨ab',aoff',acur,afz,e,-,hac⟩:=hac (by omega);rw [hao] at e;simp only [Option.some.injEq,Addr.mk.injEq,and_true] at e;obtain⟨rfl,rfl⟩:=e;rw [List.getElem?_map] at hu;by_cases hj:j<a.length
   ·rw [List.getElem?_eq_getElem hj] at hu;simp only [Option.map_some,Option.some.injEq] at hu;subst hu;have:=hac j hj;rw [zG,List.getElem?_eq_getElem hj,Option.getD_some] at this;unfold Addr.add;split
    ·rename_i h0;subst h0;exact this
    ·exact this
   ·rw [List.getElem?_eq_none (by omega)] at hu;cases hu
  obtain⟨ab,aoff,hao⟩:∃ ab aoff,ao=some ⟨ab,aoff,none⟩:=by
   obtain⟨_,_,e,-,-,-,hac⟩:=HA.out;simp only [zV,true_and] at e;obtain⟨rfl,rfl⟩:=e;obtain⟨ab,aoff,acur,afz,e,-,hac⟩:=hac (by omega);exact⟨ab,aoff,e⟩
  subst hao;have HN':=hide (HN.out ab aoff rfl);have HIB:=hide (iBox w (.int .i64 sa) (.slice (some ⟨ab,aoff,none⟩) a.length acap));clear HN HA;go_enter Tryz.func16,Tryz.ntmps16;go_wp2_with (at_builtin;refine wpList_append_lies _ rfl _ _ 38 rfl (w.heap.size+1+1) 3 i0 (.int .i64 0) 1 8 Tryz.underlying38 hi hz0 hz1 hz2 rfl (by decide) (.slice none 0 0) 0 [] rfl (World.ownsRow_nil _ _ _ _) ⟨ab,aoff,none⟩ a.length acap (a.map (Value.int .i64)) rfl (by simp) HN'.out (fun u hu=>by obtain⟨z,-,rfl⟩:=List.mem_map.1 hu;rfl) (by omega) (by unfold maxLen;omega) (by omega) (by simp) (w.heap.size+1+1) (by simp) ?_);intro g cap w1 hown hgrow hat hlt;obtain rfl:g=w.heap.size+1+1:=by rcases hat with h | h;cases h;exact h
  have hcap:a.length≤cap:=by
   rcases hown.2 with⟨e,-⟩ |⟨_,_,_,e,-,-,hc,-⟩
   ·cases e
   ·simp only [zV] at e;rw [e.2.2];exact hc
  have HO:=hide (show IOut w w1 (.int .i64 sa) (.slice (some ⟨ab,aoff,none⟩) a.length acap) (dv a) a.length (w.heap.size+1+1) (.slice none 0 0) a [] from
   ⟨HIB.out.later (B:=w.heap.size+1+1) ((zB _ _).grown hgrow (by simp) (fun k hk=>by cases hk)) zL,RowI.owns hown hadb,nra,Nat.le_refl _,World.ownsRow_nil _ _ _ _,zaJ,by simp [lv,bp],fun _=>.inl rfl,hlt,rfl,by simp⟩)
  clear hown hgrow hat hlt HN' HIB nra;go_wp2;go_loopw [3,4] (fun d l wr=>∃ zs ls:List Int,d=.slice (some ⟨w.heap.size+1+1,0,none⟩) zs.length cap∧IOut w wr (.int .i64 sa) (.slice (some ⟨ab,aoff,none⟩) a.length acap) (dv a) a.length (w.heap.size+1+1) l zs ls) (fun _ l _=>a.length-lenOf l)
  case atStart=>exact⟨a,[],by simp,HO.out⟩
  case round=>
   clear HO;obtain⟨wo,hwo⟩:∃ wo:World,wo=wr:=⟨_,rfl⟩;obtain⟨zs,ls,rfl,hout⟩:=hrel;by_cases hz:zs.length=0
   ·obtain⟨o,l,c,rfl⟩:∃ o l c,u4=.slice o l c:=by
     rcases hout.2.2.2.2.1.2 with⟨e,-⟩ |⟨_,_,_,e,-⟩
     ·exact⟨_,_,_,e⟩
     ·exact⟨_,_,_,e⟩
    have HD:=hide (hout.done (k:=a.length) (by omega) hz HSA.out HZ.out.2 HZ.out.1);obtain⟨k0,k1,-,-⟩:=hout.1.fst.box;obtain⟨c0,c1,f0,f1⟩:=hout.1.res;have HD':=hide (show NumL wr (.agg #[.bool (decide (sa<0)),.slice o l c]) x n by rw [HX.out];exact HD.out.mono hna);have HF:=hide (boxed (w:=w) HD'.out c0 c1 (by simp) (by simp) hout.1.below (by omega));have HNW:Hid (NewSl w (.slice o l c)):=fun ad l' c' h=>by
     rcases hout.2.2.2.2.1.2 with⟨e,-⟩ |⟨g',_,_,e,hbg,-⟩
     ·rw [e] at h;cases h
     ·rw [e] at h;simp only [zV,Option.some.injEq] at h;rw [← h.1];show w.heap.size≤g';omega
    clear hout HD HD' HX HZ HSA hAlt;go_wp2;exact bodyPost_ret (v:=.agg #[.bool (decide (sa<0)),.slice o l c]) (by simp [results,Tryz.results16,go_sem,c0,c1]) rfl ⟨HF.out,fun neg s e=>by simp only [Ending.returned.injEq,Value.agg.injEq,Array.mk.injEq,List.cons.injEq,and_true] at e;rw [← e.2];exact HNW.out⟩
   ·have hfew:=hout.few hAlt.out hz;have hzn:=hout.2.2.2.1;have HOUT:=hide hout;have HRI:=hide hout.2.1;clear hout;subst hwo;go_wp2;go_loopw [5,6] (fun c i w1=>∃(p:Nat) (r:Int) (qs:List Int),p≤zs.length∧i=.int .i64 ((p:Int)-1)∧c=.int .i64 r∧IDiv w1 (w.heap.size+1+1) zs p r qs∧Below (w.heap.size+1+1) wo w1∧wo.grownBy w1 (some (w.heap.size+1+1))) (fun _ i _=>(intOf i+1).toNat)
    case atStart=>exact⟨zs.length,0,zs,Nat.le_refl _,by go_num,rfl,IDiv.start HRI.out,zB _ _,World.grownBy.refl _ _⟩
    case round=>
     obtain⟨p,r,qs,hp,rfl,rfl,hd,hb1,hg1⟩:=hrel;have hr0:=hd.2.2.2.2.1;have hr1:=hd.2.2.2.2.2;by_cases hp0:p=0
     ·subst hp0;have hql:=hd.1;have hown:=HOUT.out.2.2.2.2.1.kept hg1 (.inr (fun e=>by have:=HOUT.out.2.2.2.2.1.lt _ e;omega));have HBL:Hid (w.heap.size+1+1<wr.heap.size):=by have:=zj hd.2.1.1.choose_spec.choose_spec;exact this
      have HROW:=hide hd.2.1;have HSTA:=hide (fun l' w3 m ho hg hm hqm hnm=>HOUT.out.step (l':=l') (w3:=w3) (m:=m) zL hAlt.out hz hd hb1 hg1 ho hg hm hqm hnm);have hll:=HOUT.out.2.2.2.2.2.2.2.2.2.1;clear hd hb1 hg1;go_wp2_with (at_builtin;refine wpList_append_lies _ rfl _ _ 27 rfl (w.heap.size+1+1+1) 104 j0 (.int .u32 0) 1 4 Tryz.underlying27 hj hy0 hy1 hy2 rfl (by decide) u4 ls.length (ls.map (Value.int .u32)) rfl (hown.alloc _) ⟨wr.heap.size,0,none⟩ 1 1 [.int .u32 r] rfl rfl (World.news_of_block (heap_alloc_new wr _)) (fun u hu=>by rw [List.mem_singleton] at hu;rw [hu];rfl) (by decide) (by unfold maxLen;omega) (by omega) (by simp;have:=HBL.out;omega) (wr.heap.size+1) (by simp) ?_);intro g' cap' w3 hown3 hgrow3 hat3 hlt3;have HQ3:=hide (HROW.out.later (zbH hown (by have:=HBL.out;omega) hgrow3) (by omega));have HST:=hide (fun m hm hqm hnm=>HSTA.out _ _ m hown3 hgrow3 hm hqm hnm);clear hown3 hgrow3 hat3 hlt3 hown HSTA HROW HOUT HRI;go_wp2
      go_loop [3] (fun t=>∃ m:Nat,m≤qs.length∧t=.slice (some ⟨w.heap.size+1+1,0,none⟩) m cap∧Hid (dv (qs.take m)=dv qs)) (fun t=>lenOf t)
      case atStart=>exact⟨qs.length,Nat.le_refl _,by rw [hql],by show dv _=_;rw [List.take_length]⟩
      case round=>
       obtain⟨m,hm,rfl,HV⟩:=hrel;by_cases h0:m=0
       ·subst h0;have HF:=hide (HST.out 0 hm HV.out (zbt hm (.inl rfl)));have hml:(qs.take 0).length=0:=by simp
        clear HST HV;go_wp2;go_roundw
        case rel=>exact⟨qs.take 0,ls++[r],by rw [hml],HF.out⟩
        case measure=>show a.length-(ls.length+1)<a.length-lenOf _;omega
       ·obtain⟨k,rfl⟩:∃ k,m=k+1:=⟨m-1,by omega⟩;obtain⟨hcell,-⟩:=HQ3.out.2.2 k (by omega);have hzb:=HQ3.out.2.1 k;have HG:Hid (qs.getD (k+1-1) 0=qs.getD k 0):=by show _=_;rw [Nat.add_sub_cancel]
        generalize hz:qs.getD k 0=z at *;by_cases hz0:z=0
        ·subst hz0;go_wp2
         go_round
         case rel=>exact⟨k,by omega,rfl,by have:=zeS (ds:=qs) (n:=k+1) (by omega) HG.out;rw [Nat.add_sub_cancel] at this;exact this.trans HV.out⟩
         case measure=>simp [lenOf]
        ·have hz1:(z==0)=false:=by simp [hz0]
         have HF:=hide (HST.out (k+1) hm HV.out (zbt hm (.inr (by rw [HG.out];exact hz0))));have hml:(qs.take (k+1)).length=k+1:=by rw [List.length_take];omega
         clear HST HV;go_wp2;go_roundw
         case rel=>exact⟨qs.take (k+1),ls++[r],by rw [hml],HF.out⟩
         case measure=>show a.length-(ls.length+1)<a.length-lenOf _;omega
     ·obtain⟨k,rfl⟩:∃ k,p=k+1:=⟨p-1,by omega⟩;obtain⟨hcell,hfr⟩:=hd.2.1.2.2 k (by have:=hd.1;omega);have hzb:=hd.2.1.2.1 k;have HS:=hide (hd.step (by omega) rfl);have HB1:=hide hb1;have HG1:=hide hg1;clear hd hb1 hg1 HOUT HRI;have hki:((k+1:Nat):Int)-1=(k:Int):=by omega
      rw [hki];generalize qs.getD k 0=z at *;go_wp2;go_roundw
      case rel=>exact⟨k,_,_,by omega,by go_num,rfl,HS.out,HB1.out.setCell zL _,zcy HG1.out _ _⟩
      case measure=>simp [intOf]
theorem zhl{sb B:Int}(ha:(A=0∧sa=0)∨(0<A∧(sa=1∨sa=-1)))(hb:(B=0∧sb=0)∨(0<B∧(sb=1∨sb=-1)))(hne:sa≠sb):cmpI (sa*A) (sb*B)=if sa<sb then -1 else 1:=by
 unfold cmpI;rcases ha with⟨rfl,rfl⟩ |⟨h1,rfl | rfl⟩ <;> rcases hb with⟨rfl,rfl⟩ |⟨h2,rfl | rfl⟩ <;>(repeat' split) <;> omega
theorem zhk{B:Int}(ha:(A=0∧s=0)∨(0<A∧(s=1∨s=-1)))(hb:(B=0∧s=0)∨(0<B∧(s=1∨s=-1))):s*cmpI A B=cmpI (s*A) (s*B):=by
 unfold cmpI;rcases ha with⟨rfl,rfl⟩ |⟨h1,rfl | rfl⟩ <;>(repeat' split) <;> omega
theorem zhe (a b:Int):-1≤cmpI a b∧cmpI a b≤1:=by unfold cmpI;repeat' split;all_goals omega
theorem zby{sl:Value}(hd:DB ds)(hn:Nrm ds)(h:(ds.length=0∧s=0∧sl=.slice none 0 0)∨(0<ds.length∧(s=1∨s=-1))):(dv ds=0∧s=0)∨(0<dv ds∧(s=1∨s=-1)):=by
 rcases h with⟨h1,h2,-⟩ |⟨h1,h2⟩
 ·exact .inl ⟨(zcr hd hn).2 h1,h2⟩
 ·exact .inr ⟨zcq hd hn (by omega),h2⟩
theorem zhf (w:World)(va vb:Value)(x y:Int)(n m:Nat)(ha:NumR w va x n)(hb:NumR w vb y m):
  Calls Tryz.prog 90 #[va,vb] w fun e w'=>CmpPost w (cmpI x y) e w':=by
 obtain⟨sa,la,a,rfl,hla,nra,hx,hsa,hna⟩:=ha;obtain⟨sb,lb,b,rfl,hlb,nrb,hy,hsb,hnb⟩:=hb;have HA:=hide hla;have HB:=hide hlb;obtain⟨ao,acap,rfl,-,-,adb,-⟩:=hla;obtain⟨bo,bcap,rfl,-,-,bdb,-⟩:=hlb;have h1:=zby adb nra hsa;have h2:=zby bdb nrb hsb;clear hsa hsb;subst hx hy;have hW:Below w.heap.size w ((w.alloc (.cells #[.int .i64 sa,.slice ao a.length acap] 40)).alloc (.cells #[.int .i64 sb,.slice bo b.length bcap] 40)):=((zB _ _).alloc zL _).alloc (by simp) _;have HW:=hide hW;clear hW;by_cases hss:sa=sb
 ·subst hss;have HE:=hide (zhk h1 h2);have hs1:sa=0∨sa=1∨sa=-1:=by omega
  clear h1 h2;go_enter Tryz.func90,Tryz.ntmps90;have b1:Box ((w.alloc (.cells #[.int .i64 sa,.slice ao a.length acap] 40)).alloc (.cells #[.int .i64 sa,.slice bo b.length bcap] 40)) w.heap.size (.int .i64 sa) (.slice ao a.length acap):=(zf w _ _ _ _ rfl).later ((zB _ _).alloc (by simp) _:Below (w.heap.size+1) _ _) (by omega);have b2:Box ((w.alloc (.cells #[.int .i64 sa,.slice ao a.length acap] 40)).alloc (.cells #[.int .i64 sa,.slice bo b.length bcap] 40)) (w.heap.size+1) (.int .i64 sa) (.slice bo b.length bcap):=zf _ _ _ _ _ (by simp);have l1:w.heap.size+1<((w.alloc (.cells #[.int .i64 sa,.slice ao a.length acap] 40)).alloc (.cells #[.int .i64 sa,.slice bo b.length bcap] 40)).heap.size:=by simp
  go_wp2_with fail;generalize (w.alloc (.cells #[.int .i64 sa,.slice ao a.length acap] 40)).alloc (.cells #[.int .i64 sa,.slice bo b.length bcap] 40)=W at *;have B1:=hide b1;have B2:=hide b2;obtain⟨k0,k1,-,-⟩:=b1;obtain⟨l0,l2,-,-⟩:=b2
  go_region_held3 (fun w'=>w'.cell? ⟨w.heap.size,0,none⟩=some (.int .i64 sa)∧w'.cell? ⟨w.heap.size,1,none⟩=some (.slice ao a.length acap)∧w'.cell? ⟨w.heap.size+1,0,none⟩=some (.int .i64 sa)∧w'.cell? ⟨w.heap.size+1,1,none⟩=some (.slice bo b.length bcap)) (go_keep)
    (first |(go_at_call 102;refine(zcZ _ _ _ a b (HA.out.below HW.out.drew zL) (HB.out.below HW.out.drew zL) nra nrb).mono ?_;rintro e w1 ⟨rfl,hb1⟩;have C1:=hide (B1.out.drew.later hb1 (by show _<W.heap.size;omega));have C2:=hide (B2.out.drew.later hb1 (by show _<W.heap.size;omega));have HW1:=hide (HW.out.drew.trans (hb1.mono HW.out.size));clear hb1;obtain⟨p0,p1,-,-⟩:=C1.out;obtain⟨q0,q1,-,-⟩:=C2.out))
  have hc:=zhe (dv a) (dv b);have hm:IntKind.i64.wrap (sa*cmpI (dv a) (dv b))=sa*cmpI (dv a) (dv b):=by rw [IntKind.wrap_i64];rcases hs1 with h | h | h <;> subst h <;> omega
  have HE':=hide (show CmpPost w (cmpI (sa*dv a) (sa*dv b)) (.returned (.int .i64 (sa*cmpI (dv a) (dv b)))) w1 from⟨by rw [HE.out],HW1.out⟩);clear HE;generalize cmpI (dv a) (dv b)=z at *;go_wp2;go_ret;show CmpPost _ _ (.returned (.int .i64 (IntKind.i64.wrap (sa*z)))) _;rw [hm];exact HE'.out
 ·have hd1:(sa==sb)=false:=by simp [hss]
  have hd2:(sa != sb)=true:=by simp [hss]
  have HE:=hide (zhl h1 h2 hss);clear h1 h2;by_cases hlt:sa<sb
  ·rw [HE.out,if_pos hlt];clear HE;go_enter Tryz.func90,Tryz.ntmps90;go_wp2;go_ret;exact⟨rfl,HW.out⟩
  ·rw [HE.out,if_neg hlt];clear HE;go_enter Tryz.func90,Tryz.ntmps90;go_wp2;go_ret;exact⟨rfl,HW.out⟩
theorem zcz (w:World)(va vb:Value)(x y:Int)(n:Nat)(ha:NumR w va x n)(hb:NumR w vb y n)(hn:n<1000000000000):
  Calls Tryz.prog 109 #[va,vb] w fun e w'=>RefPost w (x-y) (n+1) e w':=by
 have HA:=hide ha;have HB:=hide hb;obtain⟨sa,ao,al,ac,rfl,-⟩:=ha.form;obtain⟨sb,bo,bl,bc,rfl,-⟩:=hb.form;clear ha hb;go_enter Tryz.func109,Tryz.ntmps109;go_wp2_with fail;have hT:=hide (threeR w (.int .i64 sa) (.slice ao al ac) (.int .i64 sb) (.slice bo bl bc) (.int .i64 0) (.slice none 0 0));generalize ((w.alloc (.cells #[.int .i64 sa,.slice ao al ac] 40)).alloc (.cells #[.int .i64 sb,.slice bo bl bc] 40)).alloc (.cells #[.int .i64 0,.slice none 0 0] 40)=W at *;obtain⟨k0,k1,-,-⟩:=hT.out.fst.box;obtain⟨l0,l1,-,-⟩:=hT.out.snd.box;have hn2:¬(w.heap.size+1+1=w.heap.size):=by omega
 have hn3:¬(w.heap.size=w.heap.size+1+1):=by omega
 go_region_held3 (fun w'=>w'.cell? ⟨w.heap.size,0,none⟩=some (.int .i64 sa)∧w'.cell? ⟨w.heap.size,1,none⟩=some (.slice ao al ac)∧w'.cell? ⟨w.heap.size+1,0,none⟩=some (.int .i64 sb)∧w'.cell? ⟨w.heap.size+1,1,none⟩=some (.slice bo bl bc)) (go_keep)
   (first
    |(go_at_call 60;refine(zaF _ _ y n (HB.out.below hT.out.drew.below zL)).mono ?_;rintro e w1 ⟨v1,rfl,hv1,hb1⟩;have hT1:=hide (hT.out.drew.later hb1);obtain⟨s1,o1,m1,c1,rfl,-⟩:=hv1.form;have HV:=hide hv1;clear hv1 hb1;obtain⟨p0,p1,-,-⟩:=hT1.out.fst.box;obtain⟨q0,q1,-,-⟩:=hT1.out.snd.box)
    |(go_at_call 61;refine(zcK _ _ _ x (-y) n (HA.out.below hT1.out.below zL) HV.out hn).mono ?_;rintro e w2 ⟨r,rfl,hr,hb2⟩;have hT2:=hide (hT1.out.later hb2);clear hb2;obtain⟨p0',p1',-,-⟩:=hT2.out.fst.box;obtain⟨q0',q1',-,-⟩:=hT2.out.snd.box;obtain⟨c0,c1,f0,f1⟩:=hT2.out.res.box;rw [← Int.sub_eq_add_neg] at hr;have HR:=hide hr;obtain⟨sr,o,l,c,rfl,-⟩:=hr.form;clear hr))
 have HF:=hide (boxedR (w:=w) HR.out hT2.out.res hT2.out.below (by omega));clear hT1 hT2 HR HV;go_wp2;exact bodyPost_ret (v:=.agg #[.int .i64 sr,.slice o l c]) (by simp [results,Tryz.results109,go_sem,c0,c1]) rfl HF.out
def Typed (W:World)(row:Option Nat)(ts:List TypeId):Prop:=∀ g,row=some g→∃ cur t fz,W.heap[g]?=some (.cells cur t fz)∧t ∉ ts
theorem Dig.grown{row:Option Nat}(h:Dig W v ds)(hg:W.grownBy W' row)(hr:Typed W row [3]):Dig W' v ds:=by
 obtain⟨ao,cap,hv,h1,h2,h3,h4⟩:=h;refine⟨ao,cap,hv,h1,h2,h3,fun h0=>?_⟩;obtain⟨b,off,cur,fz,e,hb,hc⟩:=h4 h0;have hne:some b≠row:=fun e=>by
  obtain⟨cur',t,fz',h5,h6⟩:=hr b e.symm;rw [hb] at h5;simp only [Option.some.injEq,Obj.cells.injEq] at h5;exact h6 (by rw [← h5.2.1];exact List.mem_singleton.2 rfl)
 exact⟨b,off,cur,fz,e,(hg.block b (zj hb) hne).trans hb,fun i hi=>hg.cell (hc i hi) hne⟩
theorem NumR.grown{row:Option Nat}(h:NumR W v z n)(hg:W.grownBy W' row)(hr:Typed W row [3]):NumR W' v z n:=by
 obtain⟨s,sl,ds,h1,h2,h3⟩:=h;exact⟨s,sl,ds,h1,h2.grown hg hr,h3⟩
structure Rn where
 s:Int
 o:Option Addr
 l:Nat
 c:Nat
def Rn.val (r:Rn):Value:=.agg #[.int .i64 r.s,.slice r.o r.l r.c]
def rcells (p:Rn × Int):List Value:=[.int .i64 p.1.s,.slice p.1.o p.1.l p.1.c]
def RowR (W:World)(v:Value)(zs:List Int)(n:Nat):Prop:=
 ∃ ao cap,v=.slice ao zs.length cap∧zs.length≤cap∧(0<zs.length→∃ b cur fz,ao=some ⟨b,0,none⟩∧W.heap[b]?=some (.cells cur 40 fz) ∧
  ∀ i,i<zs.length→∃(s:Int) (o:Option Addr) (l c:Nat),W.cell? ⟨b,i*2,none⟩=some (.int .i64 s)∧W.cell? ⟨b,i*2+1,none⟩=some (.slice o l c)∧NumR W (.agg #[.int .i64 s,.slice o l c]) (zs.getD i 0) n)
theorem RowR.below(h:RowR W v zs n)(hb:Below B W W')(hB:W.heap.size≤B):RowR W' v zs n:=by
 obtain⟨ao,cap,hv,h1,h2⟩:=h;refine⟨ao,cap,hv,h1,fun h0=>?_⟩;obtain⟨b,cur,fz,e,hh,hc⟩:=h2 h0;have hlt:=zj hh;refine⟨b,cur,fz,e,(hb.block _ (by omega)).trans hh,fun i hi=>?_⟩;obtain⟨s,o,l,c,h3,h4,h5⟩:=hc i hi;exact⟨s,o,l,c,(hb.cell (p:=⟨b,i*2,none⟩) (by show b<B;omega)).trans h3,(hb.cell (p:=⟨b,i*2+1,none⟩) (by show b<B;omega)).trans h4,h5.below hb hB⟩
theorem RowR.grown{row:Option Nat}(h:RowR W v zs n)(hg:W.grownBy W' row)(hr:Typed W row [3,40]):RowR W' v zs n:=by
 obtain⟨ao,cap,hv,h1,h2⟩:=h;refine⟨ao,cap,hv,h1,fun h0=>?_⟩;obtain⟨b,cur,fz,e,hh,hc⟩:=h2 h0;have hr':Typed W row [3]:=fun g hg=>by
  obtain⟨cur',t,fz',h5,h6⟩:=hr g hg;exact⟨cur',t,fz',h5,fun h=>h6 (by rw [List.mem_singleton] at h;rw [h];exact List.mem_cons_self)⟩
 have hne:some b≠row:=fun e=>by
  obtain⟨cur',t,fz',h5,h6⟩:=hr b e.symm;rw [hh] at h5;simp only [Option.some.injEq,Obj.cells.injEq] at h5;exact h6 (by rw [← h5.2.1];exact List.mem_cons_of_mem _ (List.mem_singleton.2 rfl))
 refine⟨b,cur,fz,e,(hg.block b (zj hh) hne).trans hh,fun i hi=>?_⟩;obtain⟨s,o,l,c,h3,h4,h5⟩:=hc i hi;exact⟨s,o,l,c,hg.cell h3 hne,hg.cell h4 hne,h5.grown hg hr'⟩
theorem RowR.at(h:RowR W v zs n)(i:Nat)(hi:i<zs.length):∃ b cap,v=.slice (some ⟨b,0,none⟩) zs.length cap∧b<W.heap.size∧∃(s:Int) (o:Option Addr) (l c:Nat),W.cell? ⟨b,i*2,none⟩=some (.int .i64 s)∧W.cell? ⟨b,i*2+1,none⟩=some (.slice o l c)∧NumR W (.agg #[.int .i64 s,.slice o l c]) (zs.getD i 0) n:=by
 obtain⟨ao,cap,rfl,-,h2⟩:=h;obtain⟨b,cur,fz,rfl,hh,hc⟩:=h2 (by omega);exact⟨b,cap,rfl,zj hh,hc i hi⟩
def GrowR (W:World)(base:Nat)(v:Value)(ps:List (Rn × Int))(n:Nat):Prop:=
 W.ownsRow base 40 2 v ps.length (ps.flatMap rcells)∧∀ p∈ps,NumR W p.1.val p.2 n
theorem GrowR.nil (W:World)(base n:Nat):GrowR W base (.slice none 0 0) [] n:=⟨World.ownsRow_nil _ _ _ _,fun _ h=>by cases h⟩
theorem zaX{e:TypeId}{size:Nat}{xs:List Value}{ts:List TypeId}(h:W.ownsRow base e size v n xs)(he:e ∉ ts):Typed W v.ownBlock ts:=fun g hg=>by
 rcases h.2 with⟨rfl,-⟩ |⟨g',cap,cur,rfl,hbg,hh,-⟩
 ·cases hg
 ·simp only [Value.ownBlock,Option.some.injEq] at hg;rw [← hg];exact⟨cur,e,_,hh,he⟩
theorem GrowR.later{ps:List (Rn × Int)}(h:GrowR W base v ps n)(hb:Below W.heap.size W W'):GrowR W' base v ps n:=
 ⟨zcI h.1 hb,fun p hp=>(h.2 p hp).below hb zL⟩
theorem Typed.alloc{row:Option Nat}{ts:List TypeId}(h:Typed W row ts)(ob:Obj):Typed (W.alloc ob) row ts:=fun g hg=>by
 obtain⟨cur,t,fz,h1,h2⟩:=h g hg;exact⟨cur,t,fz,(((zB W.heap.size W).alloc zL ob).block _ (zj h1)).trans h1,h2⟩
theorem zaU{ps:List (Rn × Int)}{r:Rn}{ob:Obj}(h:GrowR wr base v ps n)(hz:NumR wr r.val z n)
  (hown:w3.ownsRow base 40 2 (.slice (some ⟨g,0,none⟩) (ps.length+1) cap) (ps.length+1) (ps.flatMap rcells++rcells (r,z)))
  (hg:(wr.alloc ob).grownBy w3 v.ownBlock):GrowR w3 base (.slice (some ⟨g,0,none⟩) (ps.length+1) cap) (ps++[(r,z)]) n:=by
 have hty:Typed (wr.alloc ob) v.ownBlock [3]:=(zaX h.1 (by decide)).alloc ob;refine⟨by rw [List.length_append,List.length_singleton,List.flatMap_append,List.flatMap_singleton];exact hown,fun p hp=>?_⟩;rcases List.mem_append.1 hp with h' | h'
 ·exact((h.2 p h').below ((zB _ _).alloc zL ob) zL).grown hg hty
 ·rw [List.mem_singleton] at h';rw [h'];exact(hz.below ((zB _ _).alloc zL ob) zL).grown hg hty
theorem zdK (ps:List (Rn × Int)):∀ i (h:i<ps.length),(ps.flatMap rcells)[i*2]?=some (.int .i64 ps[i].1.s)∧(ps.flatMap rcells)[i*2+1]?=some (.slice ps[i].1.o ps[i].1.l ps[i].1.c):=by
 induction ps with
 | nil=>intro i h;exact absurd h (by simp)
 | cons p ps ih=>
  intro i h;rw [List.flatMap_cons];cases i with
  | zero=>exact⟨rfl,rfl⟩
  | succ i=>
   obtain⟨h1,h2⟩:=ih i (by simpa using h);have e1:(i+1)*2=i*2+2:=by omega
   rw [e1,show i*2+2+1=i*2+1+2 by omega,List.getElem?_append_right (by simp [rcells]),List.getElem?_append_right (by simp [rcells])];exact⟨h1,h2⟩
theorem GrowR.row{ps:List (Rn × Int)}(h:GrowR W base v ps n):RowR W v (ps.map (·.2)) n:=by
 obtain⟨⟨-,h1⟩,h2⟩:=h;have hlen:(ps.map (·.2)).length=ps.length:=zM ..;rcases h1 with⟨rfl,hn⟩ |⟨g,cap,cur,rfl,hb,hh,hc1,hc2,hc3,hc4⟩
 ·exact⟨none,0,by rw [hlen,hn],by rw [hlen];omega,fun h0=>absurd h0 (by rw [hlen];omega)⟩
 ·refine⟨_,cap,by rw [hlen],by rw [hlen];exact hc1,fun h0=>⟨g,cur,_,rfl,hh,fun i hi=>?_⟩⟩;rw [hlen] at hi;obtain⟨e1,e2⟩:=zdK ps i hi;have hcell:∀ k u,k<ps.length*2→(ps.flatMap rcells)[k]?=some u→W.cell? ⟨g,k,none⟩=some u:=fun k u hk hu=>by
   have:=World.news_of_block hh k u (by rw [← hc4,List.getElem?_take,if_pos hk] at hu;exact hu);have e:(⟨g,0,none⟩:Addr).add k=⟨g,k,none⟩:=by unfold Addr.add;split <;> simp_all
   rwa [e] at this
  refine⟨ps[i].1.s,ps[i].1.o,ps[i].1.l,ps[i].1.c,hcell _ _ (by omega) e1,hcell _ _ (by omega) e2,?_⟩;have e3:(ps.map (·.2)).getD i 0=ps[i].2:=by
   rw [zG,List.getElem?_map,List.getElem?_eq_getElem hi];rfl
  rw [e3];exact h2 _ (List.getElem_mem hi)
def MatR (W:World)(v:Value)(zss:List (List Int))(n:Nat):Prop:=
 ∃ ao cap,v=.slice ao zss.length cap∧zss.length≤cap∧(0<zss.length→∃ b,ao=some ⟨b,0,none⟩∧b<W.heap.size∧∀ i zs,zss[i]?=some zs→∃ u,W.cell? ⟨b,i,none⟩=some u∧RowR W u zs n)
theorem MatR.below{zss:List (List Int)}(h:MatR w v zss n)(hb:Below B w w')(hB:w.heap.size≤B):MatR w' v zss n:=by
 obtain⟨ao,cap,hv,h1,h2⟩:=h;refine⟨ao,cap,hv,h1,fun h0=>?_⟩;obtain⟨b,e,hlt,hc⟩:=h2 h0;refine⟨b,e,zT hlt hb.size,fun i zs hi=>?_⟩;obtain⟨u,h3,h4⟩:=hc i zs hi;exact⟨u,(hb.cell (p:=⟨b,i,none⟩) (zT hlt hB)).trans h3,h4.below hb hB⟩
def GrowM (W:World)(base:Nat)(v:Value)(qs:List (Value × List Int))(n:Nat):Prop:=
 W.ownsRow base 106 1 v qs.length (qs.map (·.1))∧∀ q∈qs,RowR W q.1 q.2 n
theorem GrowM.later{qs:List (Value × List Int)}(h:GrowM W base v qs n)(hb:Below W.heap.size W W'):GrowM W' base v qs n:=
 ⟨zcI h.1 hb,fun p hp=>(h.2 p hp).below hb zL⟩
theorem zbm{qs:List (Value × List Int)}{u:Value}{ob:Obj}(h:GrowM wr base v qs n)(hz:RowR wr u zs n)
  (hown:w3.ownsRow base 106 1 (.slice (some ⟨g,0,none⟩) (qs.length+1) cap) (qs.length+1) (qs.map (·.1)++[u]))
  (hg:(wr.alloc ob).grownBy w3 v.ownBlock):GrowM w3 base (.slice (some ⟨g,0,none⟩) (qs.length+1) cap) (qs++[(u,zs)]) n:=by
 have hty:Typed (wr.alloc ob) v.ownBlock [3,40]:=(zaX h.1 (by decide)).alloc ob;refine⟨by rw [List.length_append,List.length_singleton,List.map_append];exact hown,fun p hp=>?_⟩;rcases List.mem_append.1 hp with h' | h'
 ·exact((h.2 p h').below ((zB _ _).alloc zL ob) zL).grown hg hty
 ·rw [List.mem_singleton] at h';rw [h'];exact(hz.below ((zB _ _).alloc zL ob) zL).grown hg hty
theorem GrowM.mat{qs:List (Value × List Int)}(h:GrowM W base v qs n):MatR W v (qs.map (·.2)) n:=by
 obtain⟨⟨-,h1⟩,h2⟩:=h;have hlen:(qs.map (·.2)).length=qs.length:=zM ..;rcases h1 with⟨rfl,hn⟩ |⟨g,cap,cur,rfl,hb,hh,hc1,hc2,hc3,hc4⟩
 ·exact⟨none,0,by rw [hlen,hn],by rw [hlen];omega,fun h0=>absurd h0 (by rw [hlen];omega)⟩
 ·refine⟨_,cap,by rw [hlen],by rw [hlen];exact hc1,fun h0=>⟨g,rfl,zj hh,fun i zs hi=>?_⟩⟩;obtain⟨hi',e⟩:=List.getElem?_eq_some_iff.1 hi;rw [hlen] at hi';have e':zs=qs[i].2:=by rw [← e,List.getElem_map]
  have:=World.news_of_block hh i qs[i].1 (by
   have e:(qs.map (·.1))[i]?=some qs[i].1:=by rw [List.getElem?_map,List.getElem?_eq_getElem hi'];rfl
   rw [← hc4,List.getElem?_take,if_pos (by omega)] at e;exact e)
  have ea:(⟨g,0,none⟩:Addr).add i=⟨g,i,none⟩:=by unfold Addr.add;split <;> simp_all
  rw [ea] at this;exact⟨_,this,by rw [e'];exact h2 _ (List.getElem_mem hi')⟩
theorem Tryz.infoRNum:(Tryz.prog.info? 40).map (fun i=>(i.zero,i.size,i.bytes))=some (some (.agg #[.int .i64 0,.slice none 0 0]),2,32):=by kernel_rfl
theorem Tryz.infoRRow:(Tryz.prog.info? 106).map (fun i=>(i.zero,i.size,i.bytes))=some (some (.slice none 0 0),1,24):=by kernel_rfl
theorem NumR.nought (w:World)(n:Nat):NumR w (.agg #[.int .i64 0,.slice none 0 0]) 0 n:=
 ⟨0,.slice none 0 0,[],rfl,⟨none,0,rfl,Nat.le_refl _,by simp,by intro i;simp,fun h=>absurd h (by simp)⟩,.inl rfl,by simp,.inl ⟨rfl,rfl,rfl⟩,by simp⟩
theorem NumR.setTyped(h:NumR w v z n){c:Array Value}{t:TypeId}{fz:Nat × Nat}(hB:w.heap[B]?=some (.cells c t fz))(ht:t≠3)(k:Nat)(u:Value):NumR (w.setCell ⟨B,k,none⟩ u) v z n:=by
 obtain⟨s,sl,ds,h1,h2,h3⟩:=h;exact⟨s,sl,ds,h1,h2.setCell hB ht k u,h3⟩
end Go.Proofs.YtdedolkgcdlmeaaGreatDoor
