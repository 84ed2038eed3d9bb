import Derived.Test.YtdedolkgcdlmeaaGreatDoorLatA
import Derived.Lib.AppendZeros
set_option maxRecDepth 100000
set_option maxHeartbeats 1600000
namespace Go.Proofs.YtdedolkgcdlmeaaGreatDoor
open Go.RowKit Limbs
variable{W W' w w':World}{n base nv g cap:Nat}{v u:Value}{row:Option Nat}{zs:List Int}{p:Nat→Nat}
theorem ziD (w:World)(v:Value)(hs:List (List Int))(n nv:Nat)(p:Nat→Nat)(hv:MatN w v hs nv)(hF:FormL n hs p)(hn:n≤1000)(hl:hs.length≤1000):
  Calls Tryz.prog 75 #[v] w fun e w'=>e=.returned (.bool true)∧Below w.heap.size w w':=by
 have HV:=hide hv;have HF:=hide hF;obtain⟨ao,cap,rfl,-,-⟩:=hv;clear hF;go_enter Tryz.func75,Tryz.ntmps75;go_wp2;go_loopw [3,8] (fun last i wr=>∃ k:Nat,k≤hs.length∧i=.int .i64 k∧last=.int .i64 (lastP p k)∧Hid (Below w.heap.size w wr)) (fun _ i _=>hs.length-(intOf i).toNat)
 case atStart=>exact⟨0,Nat.zero_le _,rfl,rfl,hide (zB _ _)⟩
 case round=>
  obtain⟨k,hk,rfl,rfl,HBE⟩:=hrel;by_cases hkl:k<hs.length
  ·have hmat:=HV.out.below HBE.out zL;obtain⟨b,off,_,e,hlt,u,cu,hu⟩:=hmat.at k hkl;simp only [zV,true_and] at e;obtain⟨rfl,rfl⟩:=e;have HM:=hide hmat;have hcap:hs.length≤cap:=by
    obtain⟨_,_,e,h1,-⟩:=hmat;simp only [zV,true_and] at e;rw [e.2];exact h1
   clear hmat;obtain⟨f1,f2,f3⟩:=HF.out.first hkl;have hlen:=HF.out.len _ (List.getElem_mem hkl);have hlast:=HF.out.last hkl;have hrg:=ziC HF.out (Nat.le_of_lt hkl);have HNX:Hid (lastP p (k+1)=(p k:Int)):=by show _=_;unfold lastP;rw [if_neg (by omega),Nat.add_sub_cancel]
   obtain⟨rb,roff,rcap,rfl⟩:=hu.form (by omega);have HU:=hide hu;have HALL:Hid (∀ i (h:i<(hs.take k).length),p k<(hs.take k)[i].length∧0≤(hs.take k)[i].getD (p k) 0∧(hs.take k)[i].getD (p k) 0<hs[k].getD (p k) 0):=by
    intro i hi;have hik:i<k:=by rw [List.length_take] at hi;omega
    rw [List.getElem_take];have:=HF.out.red hik hkl;have h2:=HF.out.len _ (List.getElem_mem (show i<hs.length by omega));exact⟨by omega,this.1,this.2⟩
   have hlu:=(hu.at (p k) (by omega)).1;have hqz:p k<hs[k].length:=by omega
   have hzl:hs[k].length≤1000:=by omega
   generalize hq:p k=q at *;generalize hs[k]=zs at *;generalize lastP p k=lp at *;have HL:=hide hlen;have HQ:=hide hq;have HF1:=hide f1;clear hlen hq f1 hu;go_wp2_with fail;refine(zbN wr _ zs nv (by exact HU.out) (by omega)).mono ?_;rintro e w1 ⟨rfl,hb1⟩;rw [HF1.out];have HB1:=hide (HBE.out.trans (hb1.mono HBE.out.size));have HU1:=hide (HU.out.below hb1 zL);have HM1:=hide ((HM.out.below hb1 zL).take hkl);have cu1:=(hb1.cell (p:=⟨b,off+k,none⟩) hlt).trans cu;obtain⟨lu1,rn,ro,rl,rc,r0,r1,rnum⟩:=HU1.out.at q hqz;have hneg:rn=false:=by
    have:=rnum.sgn;cases rn
    ·rfl
    ·have:=this.1 rfl;omega
   subst hneg;have hlt1:b<w1.heap.size:=zT hlt hb1.size;have g1:decide ((q:Int)≤lp)=false:=decide_eq_false (by omega);have g2:decide ((q:Int)<0)=false:=decide_eq_false (by omega);have hkc:k≤cap:=by omega
   have hq1000:q≤1000:=by omega
   have HRN:=hide rnum;clear rnum hb1 HU HBE cu hlt hlu HF1 HM;go_wp2_with fail
   go_region_held3 (fun w'=>w'.cell? ⟨b,off+k,none⟩=some (.slice (some ⟨rb,roff,none⟩) zs.length rcap)∧w'.cell? ⟨rb,roff+q*2,none⟩=some (.bool false)∧w'.cell? ⟨rb,roff+q*2+1,none⟩=some (.slice ro rl rc)) (go_keep)
    (first
     |(go_at_call 110;refine(ziS _ _ (hs.take k) nv (by exact HM1.out.below (zB _ _).drew zL) q false ro rl rc (zs.getD q 0) (by exact HRN.out.below (zB _ _).drew zL) HALL.out (by rw [List.length_take];omega) hq1000).mono ?_;rintro e w2 ⟨rfl,hb2⟩;have p2:=(hb2.cell (p:=⟨b,off+k,none⟩) (by simp;omega)).trans cu1;have p3:=(hb2.cell (p:=⟨rb,roff+q*2,none⟩) (by simp;omega)).trans r0;have p4:=(hb2.cell (p:=⟨rb,roff+q*2+1,none⟩) (by simp;omega)).trans r1;have HB2:=hide (show Below w1.heap.size w1 w2 from(zB _ _).drew.trans (hb2.mono (by simp)));clear hb2))
   have HB3:=hide (HB1.out.trans (HB2.out.mono HB1.out.size));clear p2 p3 p4 r0 r1 cu1 HB2 HB1 HRN HM1 HALL;go_wp2;go_roundw
   case rel=>exact⟨k+1,by omega,by go_num,by rw [HNX.out],HB3⟩
   case measure=>simp [intOf];omega
  ·obtain rfl:k=hs.length:=by omega
   go_wp2;go_ret;exact⟨rfl,HBE.out⟩
def AllSl (W:World)(row:Option Nat):Prop:=∀ g,row=some g→∃ cur t fz,W.heap[g]?=some (.cells cur t fz)∧∀ u,u∈cur.toList→∃ o l c,u=.slice o l c
theorem zeo (W:World):AllSl W none:=fun _ h=>by cases h
theorem AllSl.cell(h:AllSl W (some g)){k:Nat}(hc:W.cell? ⟨g,k,none⟩=some u):∃ o l c,u=.slice o l c:=by
 obtain⟨cur,t,fz,hh,hs⟩:=h g rfl;rw [cell_of_row W g k cur t fz hh] at hc;refine hs u ?_;obtain⟨hk,e⟩:=Array.getElem?_eq_some_iff.1 hc;rw [← e];exact Array.getElem_mem_toList hk
theorem AllSl.later(h:AllSl W row)(hb:Below W.heap.size W W'):AllSl W' row:=fun g hg=>by
 obtain⟨cur,t,fz,hh,hs⟩:=h g hg;exact⟨cur,t,fz,(hb.block _ (zj hh)).trans hh,hs⟩
theorem Lim.grownS{s:Value}(h:Lim W s zs)(hg:W.grownBy W' row)(hr:AllSl W row):Lim W' s zs:=by
 obtain⟨ao,cap,rfl,h1,h2,h3,h4⟩:=h;refine⟨ao,cap,rfl,h1,h2,h3,fun h0=>?_⟩;obtain⟨b,off,e,hlt,hc⟩:=h4 h0;have hne:some b≠row:=fun e'=>by
  subst e';obtain⟨o,l,c,e⟩:=hr.cell (hc 0 h0);cases e
 exact⟨b,off,e,zT hlt hg.size,fun i hi=>hg.cell (hc i hi) hne⟩
theorem NumL.grownS{z:Int}(h:NumL W v z n)(hg:W.grownBy W' row)(hr:AllSl W row):NumL W' v z n:=by
 obtain⟨neg,s,zs,h1,h2,h3⟩:=h;exact⟨neg,s,zs,h1,h2.grownS hg hr,h3⟩
theorem VecN.grownS(h:VecN W v zs n)(hg:W.grownBy W' row)(hr:AllSl W row):VecN W' v zs n:=by
 obtain⟨ao,cap,hv,h1,h2⟩:=h;refine⟨ao,cap,hv,h1,fun h0=>?_⟩;obtain⟨b,off,e,hlt,hc⟩:=h2 h0;have hne:some b≠row:=fun e'=>by
  subst e';obtain⟨neg,_,_,_,h3,-⟩:=hc 0 h0;obtain⟨o,l,c,e⟩:=hr.cell h3;cases e
 refine⟨b,off,e,zT hlt hg.size,fun i hi=>?_⟩;obtain⟨neg,o,l,c,h3,h4,h5⟩:=hc i hi;exact⟨neg,o,l,c,hg.cell h3 hne,hg.cell h4 hne,h5.grownS hg hr⟩
theorem zd8 (n:Nat):∀ u,u∈(Builtin.zeroCells (Value.cells (.slice none 0 0)) n).toList→∃ o l c,u=.slice o l c:=fun u hu=>by
 simp only [Builtin.zeroCells,Array.toList_map,List.mem_map] at hu;obtain⟨i,-,rfl⟩:=hu;exact⟨none,0,0,by
  have:i%(Value.cells (.slice none 0 0)).size=0:=by simp [Value.cells,Nat.mod_one]
  rw [this];rfl⟩
theorem zfY {P:Program}(w:World)(t ty:TypeId)(base:Nat)(e:TypeId)(i:TypeInfo)(ht:P.underlying t=some (.slice e))(hi:P.info? e=some i)(hz:i.zero=some (.slice none 0 0))
  (hsize:i.size=1) (v:Value) (n:Nat) (xs:List Value) (hown:w.ownsRow base e 1 v n xs) (hall:AllSl w v.ownBlock)
  (ad:Addr) (o:Option Addr) (l c cc:Nat) (hnews:∀ j u,[Value.slice o l c][j]?=some u→w.cell? (ad.add j)=some u)
  (h63:n+1≤maxLen) (hbytes:(n+1)*i.bytes≤140737488355328) (g cap:Nat) (w':World)
  (hr:(Builtin.append_ #[t,t] ty #[v,.slice (some ad) 1 cc]).run P w=.ok (.slice (some ⟨g,0,none⟩) (n+1) cap) w'):AllSl w' (some g):=by
 have hx:∀ u,u∈xs→∃ o l c,u=.slice o l c:=by
  rcases hown.2 with⟨rfl,rfl⟩ |⟨g',cap',cur,rfl,hbg,hg,hnc,hcm,hcs,htake⟩
  ·have:xs=[]:=List.eq_nil_of_length_eq_zero (by simpa using hown.1);rw [this];exact fun _ h=>by cases h
  ·intro u hu;obtain⟨cur',t',fz',hh,hs⟩:=hall g' rfl;rw [hg] at hh;simp only [Option.some.injEq,Obj.cells.injEq] at hh;obtain⟨rfl,-,-⟩:=hh;rw [← htake] at hu;exact hs u (List.mem_of_mem_take hu)
 have hmake:∀(k:Nat) (ys:List Value),(∀ u,u∈ys→∃ o l c,u=.slice o l c)→AllSl (w.drew.alloc (.cells (ys.toArray++Builtin.zeroCells (Value.cells (.slice none 0 0)) k) e)) (some w.heap.size):=fun k ys hy g0 hg0=>by
  simp only [Option.some.injEq] at hg0;subst hg0;refine⟨_,_,_,heap_alloc_new w.drew _,fun u hu=>?_⟩;rw [Array.toList_append,List.mem_append] at hu;rcases hu with hu | hu
  ·exact hy u (by simpa using hu)
  ·exact zd8 k u hu
 have hsl:∀ u,u∈[Value.slice o l c]→∃ o l c,u=.slice o l c:=fun u hu=>by
  rw [List.mem_singleton] at hu;exact⟨o,l,c,hu⟩
 have h1c:∀ u∈[Value.slice o l c],u.oneCell'=true:=fun u hu=>by
  rw [List.mem_singleton] at hu;rw [hu];rfl
 have hsmall:n+1≤9223372036854775807:=by simp only [maxLen] at h63;omega
 rcases hown.2 with⟨rfl,rfl⟩ |⟨g',cap',cur,rfl,hbg,hg,hnc,hcm,hcs,htake⟩
 ·have hr':=run_append_nil (P:=P) w t ty e i (.slice none 0 0) ht hi hz ad 1 cc [Value.slice o l c] (by rw [hsize];rfl) hnews (by decide) (by decide) (by simp only [Nat.zero_add] at hbytes;omega);rw [hr'] at hr;simp only [Result.ok.injEq,zV,Option.some.injEq,Addr.mk.injEq,and_true] at hr;obtain⟨⟨rfl,-⟩,rfl⟩:=hr;exact hmake _ _ hsl
 ·by_cases hroom:n+1≤cap'
  ·have hr':=run_append_room (P:=P) w t ty e i ht hi g' n cap' cur hg ad 1 cc [Value.slice o l c] (by rw [hsize];rfl) hnews h1c hroom (by rw [hsize,hcs];simp;omega);rw [hr'] at hr;simp only [Result.ok.injEq,zV,Option.some.injEq,Addr.mk.injEq,and_true,true_and] at hr;obtain⟨⟨rfl,-⟩,rfl⟩:=hr;intro g0 hg0;simp only [Option.some.injEq] at hg0;subst hg0;refine⟨_,_,_,setRow_heap w g' cur _ e _ hg,fun u hu=>?_⟩;obtain⟨cur',t',fz',hh,hs⟩:=hall g' rfl;rw [hg] at hh;simp only [Option.some.injEq,Obj.cells.injEq] at hh;obtain⟨rfl,-,-⟩:=hh;simp only [List.mem_append] at hu;rcases hu with(hu | hu) | hu
   ·exact hs u (List.mem_of_mem_take hu)
   ·exact hsl u hu
   ·exact hs u (List.mem_of_mem_drop hu)
  ·have holds:∀ j u,xs[j]?=some u→w.cell? ((⟨g',0,none⟩:Addr).add j)=some u:=hown.cells (g:=g') rfl;have hr':=run_append_grow (P:=P) w t ty e i (.slice none 0 0) ht hi hz ⟨g',0,none⟩ n cap' xs (by rw [hsize];exact hown.1) holds ad 1 cc [Value.slice o l c] (by rw [hsize];rfl) hnews (by omega) (by omega) (growslice_fits (by omega) hbytes);rw [hr'] at hr;simp only [Result.ok.injEq,zV,Option.some.injEq,Addr.mk.injEq,and_true,true_and] at hr;obtain⟨⟨rfl,-⟩,rfl⟩:=hr;have:=hmake (grownCap w (n+1) cap' e-(n+1)) (xs++[Value.slice o l c]) (fun u hu=>by
    rcases List.mem_append.1 hu with h | h
    ·exact hx u h
    ·exact hsl u h)
   rwa [← List.append_toArray] at this
theorem zd7 {P:Program}{ops:Array Oper}{rest:List Oper}{op:Oper}{a:Act}{Q:Exit→Act→World→Prop}(hgd:op.guard=none)(s x:Operand)(t:TypeId)
  (ho:op.op=.call { callee:=.builtin .append,args:=#[s,x],argTypes:=#[t,t] })
  (base:Nat) (e:TypeId) (i:TypeInfo) (bytes:Nat) (ht:P.underlying t=some (.slice e)) (hi:P.info? e=some i) (hz:i.zero=some (.slice none 0 0))
  (hsize:i.size=1) (hby:i.bytes=bytes) (v:Value) (n:Nat) (xs:List Value) (hs:a.eval s=v) (hown:w.ownsRow base e 1 v n xs) (hall:AllSl w v.ownBlock)
  (ad:Addr) (cc:Nat) (o:Option Addr) (l c:Nat) (hx:a.eval x=.slice (some ad) 1 cc) (hnews:∀ j u,[Value.slice o l c][j]?=some u→w.cell? (ad.add j)=some u)
  (h63:n+1≤maxLen) (hbytes:(n+1)*bytes≤140737488355328) (hbase:base≤w.heap.size)
  (h:∀ g cap w',w'.ownsRow base e 1 (.slice (some ⟨g,0,none⟩) (n+1) cap) (n+1) (xs++[.slice o l c])→w.grownBy w' v.ownBlock→AllSl w' (some g)→wpList P ops Q rest (a.put op.dst (.slice (some ⟨g,0,none⟩) (n+1) cap)) w'):wpList P ops Q (op::rest) a w:=by
 refine wpList_plain hgd fun K hK=>?_;subst hby;obtain⟨g,cap,w',hr,h2,h3,h4,h5⟩:=run_append_lies (P:=P) w t op.type base e i (.slice none 0 0) 1 i.bytes ht hi hz hsize rfl rfl (by decide) v n xs hown ad 1 cc [.slice o l c] rfl hnews (fun u hu=>by rw [List.mem_singleton] at hu;rw [hu];rfl) (by decide) h63 hbytes hbase _ rfl;have hA:=zfY w t op.type base e i ht hi hz hsize v n xs hown hall ad o l c cc hnews h63 hbytes g cap w' hr;unfold Oper.wp execOp;simp only [ho,resolve,invoke,builtin,Sem.run_bind,Sem.run_pure,Result.andThen_ok,List.map_toArray,List.map_cons,List.map_nil,hs,hx,hr];exact hK _ _ (h g cap w' h2 h3 hA)
structure GrowV (W:World)(base:Nat)(v:Value)(qs:List (Value × List Int))(n:Nat):Prop where
 own:W.ownsRow base 72 1 v qs.length (qs.map (·.1))
 all:AllSl W v.ownBlock
 vec:∀ q∈qs,VecN W q.1 q.2 n
theorem GrowV.nil (W:World)(base n:Nat):GrowV W base (.slice none 0 0) [] n:=⟨World.ownsRow_nil _ _ _ _,zeo _,fun _ h=>by cases h⟩
theorem GrowV.later{qs:List (Value × List Int)}(h:GrowV W base v qs n)(hb:Below W.heap.size W W'):GrowV W' base v qs n:=
 ⟨zcI h.own hb,h.all.later hb,fun p hp=>(h.vec p hp).below hb zL⟩
theorem zdp{qs:List (Value × List Int)}{o:Option Addr}{l c:Nat}(h:GrowV W base v qs n)(hz:VecN W (.slice o l c) zs n)
  (hown:w'.ownsRow base 72 1 (.slice (some ⟨g,0,none⟩) (qs.length+1) cap) (qs.length+1) (qs.map (·.1)++[.slice o l c]))
  (hg:W.grownBy w' v.ownBlock) (hA:AllSl w' (some g)):GrowV w' base (.slice (some ⟨g,0,none⟩) (qs.length+1) cap) (qs++[(.slice o l c,zs)]) n:=by
 refine⟨by rw [List.length_append,List.length_singleton,List.map_append];exact hown,hA,fun p hp=>?_⟩;rcases List.mem_append.1 hp with h' | h'
 ·exact(h.vec p h').grownS hg h.all
 ·rw [List.mem_singleton] at h';rw [h'];exact hz.grownS hg h.all
theorem GrowV.mat{qs:List (Value × List Int)}(h:GrowV W base v qs n):MatN W v (qs.map (·.2)) n:=zfp h.own h.vec
theorem zdq{qs:List (Value × List Int)}(h:GrowV W base v qs n)(hB:base≤W.heap.size)(hg:W.grownBy w' v.ownBlock):Below base W w':=
 (zB _ _).grown hg hB (fun k hk=>(h.own.lt k hk).1)
theorem zj5 {P:Program}(w:World)(t ty:TypeId)(base:Nat)(e:TypeId)(i:TypeInfo)(ht:P.underlying t=some (.slice e))(hi:P.info? e=some i)(hz:i.zero=some (.slice none 0 0))
  (hsize:i.size=1) (v:Value) (n:Nat) (xs:List Value) (hown:w.ownsRow base e 1 v n xs) (hall:AllSl w v.ownBlock)
  (ad:Addr) (m cc:Nat) (news:List Value) (hl:news.length=m) (hm:0<m) (hsl:∀ u,u∈news→∃ o l c,u=.slice o l c) (hnews:∀ j u,news[j]?=some u→w.cell? (ad.add j)=some u)
  (h63:n+m≤maxLen) (hbytes:(n+m)*i.bytes≤140737488355328) (g cap:Nat) (w':World)
  (hr:(Builtin.append_ #[t,t] ty #[v,.slice (some ad) m cc]).run P w=.ok (.slice (some ⟨g,0,none⟩) (n+m) cap) w'):AllSl w' (some g):=by
 have hx:∀ u,u∈xs→∃ o l c,u=.slice o l c:=by
  rcases hown.2 with⟨rfl,rfl⟩ |⟨g',cap',cur,rfl,hbg,hg,hnc,hcm,hcs,htake⟩
  ·have:xs=[]:=List.eq_nil_of_length_eq_zero (by simpa using hown.1);rw [this];exact fun _ h=>by cases h
  ·intro u hu;obtain⟨cur',t',fz',hh,hs⟩:=hall g' rfl;rw [hg] at hh;simp only [Option.some.injEq,Obj.cells.injEq] at hh;obtain⟨rfl,-,-⟩:=hh;rw [← htake] at hu;exact hs u (List.mem_of_mem_take hu)
 have hmake:∀(k:Nat) (ys:List Value),(∀ u,u∈ys→∃ o l c,u=.slice o l c)→AllSl (w.drew.alloc (.cells (ys.toArray++Builtin.zeroCells (Value.cells (.slice none 0 0)) k) e)) (some w.heap.size):=fun k ys hy g0 hg0=>by
  simp only [Option.some.injEq] at hg0;subst hg0;refine⟨_,_,_,heap_alloc_new w.drew _,fun u hu=>?_⟩;rw [Array.toList_append,List.mem_append] at hu;rcases hu with hu | hu
  ·exact hy u (by simpa using hu)
  ·exact zd8 k u hu
 have h1c:∀ u∈news,u.oneCell'=true:=fun u hu=>by
  obtain⟨o,l,c,rfl⟩:=hsl u hu;rfl
 have hl1:news.length=m*i.size:=by rw [hsize,hl,Nat.mul_one]
 have hsmall:n+m≤9223372036854775807:=by simp only [maxLen] at h63;omega
 rcases hown.2 with⟨rfl,rfl⟩ |⟨g',cap',cur,rfl,hbg,hg,hnc,hcm,hcs,htake⟩
 ·have hr':=run_append_nil (P:=P) w t ty e i (.slice none 0 0) ht hi hz ad m cc news hl1 hnews hm (by omega) (by simp only [Nat.zero_add] at hbytes;omega);rw [hr'] at hr;simp only [Result.ok.injEq,zV,Option.some.injEq,Addr.mk.injEq,and_true] at hr;obtain⟨⟨rfl,-⟩,rfl⟩:=hr;exact hmake _ _ hsl
 ·by_cases hroom:n+m≤cap'
  ·have hr':=run_append_room (P:=P) w t ty e i ht hi g' n cap' cur hg ad m cc news hl1 hnews h1c hroom (by rw [hsize,hcs,hl];omega);rw [hr'] at hr;simp only [Result.ok.injEq,zV,Option.some.injEq,Addr.mk.injEq,and_true,true_and] at hr;obtain⟨⟨rfl,-⟩,rfl⟩:=hr;intro g0 hg0;simp only [Option.some.injEq] at hg0;subst hg0;refine⟨_,_,_,setRow_heap w g' cur _ e _ hg,fun u hu=>?_⟩;obtain⟨cur',t',fz',hh,hs⟩:=hall g' rfl;rw [hg] at hh;simp only [Option.some.injEq,Obj.cells.injEq] at hh;obtain⟨rfl,-,-⟩:=hh;simp only [List.mem_append] at hu;rcases hu with(hu | hu) | hu
   ·exact hs u (List.mem_of_mem_take hu)
   ·exact hsl u hu
   ·exact hs u (List.mem_of_mem_drop hu)
  ·have holds:∀ j u,xs[j]?=some u→w.cell? ((⟨g',0,none⟩:Addr).add j)=some u:=hown.cells (g:=g') rfl;have hr':=run_append_grow (P:=P) w t ty e i (.slice none 0 0) ht hi hz ⟨g',0,none⟩ n cap' xs (by rw [hsize];exact hown.1) holds ad m cc news hl1 hnews (by omega) (by omega) (growslice_fits (by omega) hbytes);rw [hr'] at hr;simp only [Result.ok.injEq,zV,Option.some.injEq,Addr.mk.injEq,and_true,true_and] at hr;obtain⟨⟨rfl,-⟩,rfl⟩:=hr;have:=hmake (grownCap w (n+m) cap' e-(n+m)) (xs++news) (fun u hu=>by
    rcases List.mem_append.1 hu with h | h
    ·exact hx u h
    ·exact hsl u h)
   rwa [← List.append_toArray] at this
theorem MatN.heads{b off:Nat}{yss:List (List Int)}(h:MatN W (.slice (some ⟨b,off,none⟩) yss.length cap) yss n)(h0:0<yss.length):
  ∃ qs:List (Value × List Int),qs.map (·.2)=yss∧(∀ u,u∈qs.map (·.1)→∃ o l c,u=.slice o l c)∧(∀ j u,(qs.map (·.1))[j]?=some u→W.cell? ((⟨b,off,none⟩:Addr).add j)=some u)∧∀ q∈qs,VecN W q.1 q.2 n:=by
 obtain⟨ao,cap',e,-,h2⟩:=h;simp only [zV,true_and] at e;obtain⟨rfl,rfl⟩:=e;obtain⟨b',off',e,hlt,hc⟩:=h2 h0;simp only [Option.some.injEq,Addr.mk.injEq,and_true] at e;obtain⟨rfl,rfl⟩:=e;have key:∀ k,k≤yss.length→∃ qs:List (Value × List Int),qs.map (·.2)=yss.take k∧(∀ u,u∈qs.map (·.1)→∃ o l c,u=.slice o l c)∧(∀ j u,(qs.map (·.1))[j]?=some u→W.cell? ⟨b,off+j,none⟩=some u)∧∀ q∈qs,VecN W q.1 q.2 n:=by
  intro k
  induction k with
  | zero=>exact fun _=>⟨[],(by simp),(fun u h=>by cases h),(fun j u h=>by simp at h),(fun q h=>by cases h)⟩
  | succ k ih=>
   intro hk;obtain⟨qs,e1,e2,e3,e4⟩:=ih (by omega);obtain⟨u,cu,hu⟩:=hc k yss[k] (by simp);have hlen:(qs.map (·.1)).length=k:=by
    have:=congrArg List.length e1;rw [zM,List.length_take] at this;rw [zM];omega
   refine⟨qs++[(u,yss[k])],by rw [List.map_append,e1,List.take_succ_eq_append_getElem (by omega)];rfl,fun x hx=>?_,fun j x hx=>?_,fun q hq=>?_⟩
   ·rw [List.map_append,List.mem_append] at hx;rcases hx with hx | hx
    ·exact e2 x hx
    ·have:x=u:=by simpa using hx
     obtain⟨o,c,eu,-⟩:=hu;exact⟨_,_,_,this.trans eu⟩
   ·rw [List.map_append] at hx;by_cases hj:j<k
    ·rw [List.getElem?_append_left (by omega)] at hx;exact e3 j x hx
    ·rw [List.getElem?_append_right (by omega),hlen] at hx;have h0:j-k=0:=by
      have:=(List.getElem?_eq_some_iff.1 hx).1;simpa using this
     rw [h0] at hx;have:x=u:=by simpa using hx.symm
     obtain rfl:j=k:=by omega
     rw [this];exact cu
   ·rcases List.mem_append.1 hq with h | h
    ·exact e4 q h
    ·rw [List.mem_singleton] at h;rw [h];exact hu
 obtain⟨qs,e1,e2,e3,e4⟩:=key yss.length zL;rw [List.take_length] at e1;refine⟨qs,e1,e2,fun j u h=>?_,e4⟩;have ea:(⟨b,off,none⟩:Addr).add j=⟨b,off+j,none⟩:=by unfold Addr.add;split <;> simp_all
 rw [ea];exact e3 j u h
theorem zgw {P:Program}{ops:Array Oper}{rest:List Oper}{op:Oper}{a:Act}{Q:Exit→Act→World→Prop}(hgd:op.guard=none)(s x:Operand)(t:TypeId)
  (ho:op.op=.call { callee:=.builtin .append,args:=#[s,x],argTypes:=#[t,t] })
  (base:Nat) (i:TypeInfo) (ht:P.underlying t=some (.slice 72)) (hi:P.info? 72=some i) (hz:i.zero=some (.slice none 0 0))
  (hsize:i.size=1) (hby:i.bytes=24) (v:Value) (qs:List (Value × List Int)) (nv:Nat) (hg:GrowV w base v qs nv) (hs:a.eval s=v)
  (y:Value) (yss:List (List Int)) (hx:a.eval x=y) (hy:MatN w y yss nv) (h1000:qs.length+yss.length≤1000000) (hbase:base≤w.heap.size)
  (h:∀ v' w' qs',GrowV w' base v' (qs++qs') nv→qs'.map (·.2)=yss→Below base w w'→wpList P ops Q rest (a.put op.dst v') w'):wpList P ops Q (op::rest) a w:=by
 refine wpList_plain hgd fun K hK=>?_;by_cases h0:yss.length=0
 ·obtain⟨yo,yc,rfl,-,-⟩:=hy;rw [h0] at hx;have hnil:yss=[]:=List.eq_nil_of_length_eq_zero h0;have hr:(Builtin.append_ #[t,t] op.type #[v,.slice yo 0 yc]).run P w=.ok v w:=by
   rcases hg.own.2 with⟨rfl,-⟩ |⟨g,cap,cur,rfl,hb,hh,hc1,-⟩
   ·cases yo <;> simp [Builtin.append_,run_underlying ht,sizeOf,typeInfo,hi,Builtin.lenOf,Builtin.firstCells,loadCells,loadCellsFrom]
   ·cases yo <;> simp [Builtin.append_,run_underlying ht,sizeOf,typeInfo,hi,Builtin.lenOf,Builtin.firstCells,loadCells,loadCellsFrom,hc1,storeCells]
  unfold Oper.wp execOp;simp only [ho,resolve,invoke,builtin,Sem.run_bind,Sem.run_pure,Result.andThen_ok,List.map_toArray,List.map_cons,List.map_nil,hs,hx,hr];exact hK _ _ (h v w [] (by rw [List.append_nil];exact hg) hnil.symm (zB _ _))
 ·have hy':=hy;obtain⟨yo,yc,rfl,-,h2⟩:=hy;obtain⟨b,off,rfl,-,-⟩:=h2 (by omega);obtain⟨qs',e1,e2,e3,e4⟩:=hy'.heads (by omega);have hlen:(qs'.map (·.1)).length=yss.length:=by rw [zM,← e1,zM]
  obtain⟨g,cap,w',hr,k2,k3,k4,k5⟩:=run_append_lies (P:=P) w t op.type base 72 i (.slice none 0 0) 1 24 ht hi hz hsize hby rfl (by decide) v qs.length (qs.map (·.1)) hg.own ⟨b,off,none⟩ yss.length yc (qs'.map (·.1)) (by rw [hlen,Nat.mul_one]) e3 (fun u hu=>by obtain⟨o,l,c,rfl⟩:=e2 u hu;rfl) (by omega) (by unfold maxLen;omega) (by omega) hbase _ rfl;have hA:=zj5 w t op.type base 72 i ht hi hz hsize v qs.length (qs.map (·.1)) hg.own hg.all ⟨b,off,none⟩ yss.length yc (qs'.map (·.1)) hlen (by omega) e2 e3 (by unfold maxLen;omega) (by rw [hby];omega) g cap w' hr;have hg':GrowV w' base (.slice (some ⟨g,0,none⟩) (qs.length+yss.length) cap) (qs++qs') nv:=by
   refine⟨?_,hA,fun p hp=>?_⟩
   ·rw [List.length_append,List.map_append];have:qs'.length=yss.length:=by rw [← hlen,zM]
    rw [this];exact k2
   ·rcases List.mem_append.1 hp with h' | h'
    ·exact(hg.vec p h').grownS k3 hg.all
    ·exact(e4 p h').grownS k3 hg.all
  unfold Oper.wp execOp;simp only [ho,resolve,invoke,builtin,Sem.run_bind,Sem.run_pure,Result.andThen_ok,List.map_toArray,List.map_cons,List.map_nil,hs,hx,hr];exact hK _ _ (h _ w' qs' hg' e1 ((zB _ _).grown k3 hbase (fun k hk=>(hg.own.lt k hk).1)))
theorem FormL.short{hs:List (List Int)}(h:FormL n hs p):hs.length≤n:=by
 have hrm:∀ k,k<hs.length→k≤p k:=fun k=>by
  induction k with
  | zero=>exact fun _=>Nat.zero_le _
  | succ k ih=>intro hk;have:=ih (by omega);have:=h.form.inc k (k+1) (by omega) hk;omega
 by_cases h0:hs.length=0
 ·omega
 ·have:=hrm (hs.length-1) (by omega);have:=h.form.lt (hs.length-1) (by omega);omega
theorem zdj{hs l:List (List Int)}(h:FormL n hs p)(ha:Alikes n (InL hs) (InL l))(hl:∀ us∈l,us.length=n)(hb:∀ us∈l,∀ j,j<n→ab (us.getD j 0)<bp nv)(hn:n≤16):
  ∀ r∈hs,∀ j,j<r.length→ab (r.getD j 0)<bp (n*nv+2):=by
 obtain⟨C,hC⟩:=zaY (r:=hs.length) (n:=n) (mm:=l.length) (H:=fun k b=>(hs.getD k []).getD b 0) (M:=fun k b=>(l.getD k []).getD b 0) (fun a haa=>zas ((ha _).1 (.base (zF haa) (h.len _ (zF haa)))));obtain⟨T,hT⟩:=zaY (r:=l.length) (n:=n) (mm:=hs.length) (H:=fun k b=>(l.getD k []).getD b 0) (M:=fun k b=>(hs.getD k []).getD b 0) (fun a haa=>zas ((ha _).2 (.base (zF haa) (hl _ (zF haa)))));intro r hr j hj;obtain⟨k,hk,e⟩:=List.getElem_of_mem hr;have hlen:=h.len r hr;have h1:=zeV hs.length l.length n _ _ C T p (bp nv) (by have:=zE nv;omega) h.form.lt (fun i k hi hki=>h.form.zero i (p k) hi (h.form.inc k i hki hi)) (fun i hi=>h.form.pos i hi) (fun i k hi hk hik=>⟨(h.form.red i k hik hk).1,Int.le_of_lt (h.form.red i k hik hk).2⟩) hC hT (fun a b ha hb'=>Int.le_of_lt (hb _ (zF ha) b hb')) k j hk (by omega);have h2:=zeT (v:=nv) h.short hn;rw [zl hk,e] at h1;exact Int.lt_of_le_of_lt h1 h2
theorem MatN.tight{zss:List (List Int)}{m:Nat}(h:MatN w v zss n)(hz:∀ zs∈zss,∀ j,j<zs.length→ab (zs.getD j 0)<bp m):MatN w v zss m:=by
 obtain⟨ao,cap,hv,h1,h2⟩:=h;refine⟨ao,cap,hv,h1,fun h0=>?_⟩;obtain⟨b,off,e,hlt,hc⟩:=h2 h0;refine⟨b,off,e,hlt,fun i zs hi=>?_⟩;obtain⟨u,cu,hu⟩:=hc i zs hi;exact⟨u,cu,hu.tight (hz zs (List.mem_of_getElem? hi))⟩
theorem MatN.abs{ms:List (List Int)}(h:MatN w v ms nv):∀ us∈ms,∀ j,j<us.length→ab (us.getD j 0)<bp nv:=fun us hus j hj=>by
 obtain⟨i,hi,e⟩:=List.getElem_of_mem hus;obtain⟨b,off,cap',e1,hlt,u,hc,hu⟩:=h.at i hi;rw [e] at hu;obtain⟨b',off',cap2,e2⟩:=hu.form (by omega);subst e2;obtain⟨-,neg,o,l,c,-,-,hz⟩:=hu.at j hj;exact hz.ab_lt
theorem zif (w:World)(m nv:Nat)(hm:m≤1000):
  Calls Tryz.prog 133 #[.slice none 0 0,.int .i64 (m:Int)] w fun e w'=>∃ v,e=.returned v∧GrowV w' w.heap.size v [] nv∧Below w.heap.size w w':=by
 obtain⟨j0,hj,hy0,hy1,hy2⟩:=info_parts Tryz.infoVec;by_cases h0:m=0
 ·subst h0;clear hj hy0 hy1 hy2;go_enter Tryz.func133,Tryz.ntmps133;go_wp2;go_ret;exact⟨_,rfl,GrowV.nil _ _ _,zB _ _⟩
 ·have HR:=hide (fun ty=>Lib.run_append_nil_zeros (P:=Tryz.prog) w 23 3 ty 72 j0 (.slice none 0 0) .i64 .i64 (by kernel_rfl) (by kernel_rfl) hj hy0 m (by omega) (by omega) (by omega) (by rw [hy2];omega));have hge:=grownCap_ge w m 0 72;have hle:=grownCap_le_maxLen w m 0 72 (by unfold maxLen;omega);clear hj hy0 hy1 hy2;have HG:Hid (GrowV (w.drew.alloc (.cells (Builtin.zeroCells (Value.cells (.slice none 0 0)) m++Builtin.zeroCells (Value.cells (.slice none 0 0)) (grownCap w m 0 72-m)) 72)) w.heap.size (.slice (some ⟨w.heap.size,0,none⟩) 0 (grownCap w m 0 72)) [] nv):=by
   refine⟨⟨rfl,.inr ⟨w.heap.size,_,_,rfl,Nat.le_refl _,heap_alloc_new w.drew _,Nat.zero_le _,hle,?_,by simp⟩⟩,fun g hg=>?_,fun _ h=>by cases h⟩
   ·rw [Array.size_append,size_zeroCells,size_zeroCells];show m*1+_*1=_*1;omega
   ·simp only [Value.ownBlock,Option.some.injEq] at hg;subst hg;refine⟨_,_,_,heap_alloc_new w.drew _,fun u hu=>?_⟩;rw [Array.toList_append,List.mem_append] at hu;rcases hu with hu | hu <;> exact zd8 _ u hu
  have HB:=hide ((zB w.heap.size w).drew.alloc zL (.cells (Builtin.zeroCells (Value.cells (.slice none 0 0)) m++Builtin.zeroCells (Value.cells (.slice none 0 0)) (grownCap w m 0 72-m)) 72));generalize w.drew.alloc (.cells (Builtin.zeroCells (Value.cells (.slice none 0 0)) m++Builtin.zeroCells (Value.cells (.slice none 0 0)) (grownCap w m 0 72-m)) 72)=W1 at *;generalize grownCap w m 0 72=cp at *;unfold maxLen at hle;go_enter Tryz.func133,Tryz.ntmps133;go_wp2_with (at_builtin;refine Lib.wpList_append_run _ rfl _ _ _ _ rfl _ _ rfl rfl _ _ (HR.out _) ?_);go_wp2;go_ret;exact⟨_,rfl,HG.out,HB.out⟩
def TwoM (w:World)(rb:Nat)(va vb:Value)(xs ys:List (List Int))(nv:Nat):Prop:=
 rb<w.heap.size∧w.cell? ⟨rb,0,none⟩=some va∧w.cell? ⟨rb,1,none⟩=some vb∧MatN w va xs nv∧MatN w vb ys nv
theorem TwoM.below{rb:Nat}{va vb:Value}{xs ys:List (List Int)}(h:TwoM w rb va vb xs ys nv)(hb:Below w.heap.size w w'):TwoM w' rb va vb xs ys nv:=
 ⟨zT h.1 hb.size,(hb.cell (p:=⟨rb,0,none⟩) h.1).trans h.2.1,(hb.cell (p:=⟨rb,1,none⟩) h.1).trans h.2.2.1,h.2.2.2.1.below hb zL,h.2.2.2.2.below hb zL⟩
def upTo (xs ys:List (List Int)):Nat→List (List Int)
 | 0=>[]
 | 1=>xs
 | _+2=>xs++ys
theorem zhr (w:World)(rb:Nat)(va vb:Value)(xs ys:List (List Int))(nv:Nat)(h:TwoM w rb va vb xs ys nv)(hl:xs.length+ys.length≤1000):
  Calls Tryz.prog 113 #[.slice (some ⟨rb,0,none⟩) 2 2] w fun e w'=>∃ v,e=.returned v∧MatN w' v (xs++ys) nv∧Below w.heap.size w w':=by
 obtain⟨j0,hj,hy0,hy1,hy2⟩:=info_parts Tryz.infoVec;have HJ:=hide hj;have HY0:=hide hy0;have HY1:=hide hy1;have HY2:=hide hy2;have HT:=hide h;obtain⟨hlt,c0,c1,⟨ao,acap,rfl,-,-⟩,⟨bo,bcap,rfl,-,-⟩⟩:=h;clear hj hy0 hy1 hy2;go_enter Tryz.func113,Tryz.ntmps113;go_wp2;go_loopw [3,11] (fun s i wr=>∃ k:Nat,k≤2∧i=.int .i64 k∧s=.int .i64 ((upTo xs ys k).length:Nat)∧w=wr) (fun _ i _=>2-(intOf i).toNat)
 case atStart=>exact⟨0,Nat.zero_le _,rfl,rfl,rfl⟩
 case round=>
  obtain⟨k,hk,rfl,rfl,rfl⟩:=hrel
  match k,hk with
  | 0,_=>
   have e0:(upTo xs ys 0).length=0:=rfl;rw [e0];go_wp2;go_roundw
   case rel=>exact⟨1,by omega,by go_num,(by simp [upTo]),(by first | rfl | trivial)⟩
   case measure=>simp [intOf]
  | 1,_=>
   have e0:(upTo xs ys 1).length=xs.length:=rfl;rw [e0];go_wp2;go_roundw
   case rel=>exact⟨2,by omega,by go_num,(by simp [upTo]),(by first | rfl | trivial)⟩
   case measure=>simp [intOf]
  | 2,_=>
   have e0:(upTo xs ys 2).length=xs.length+ys.length:=by simp [upTo]
   rw [e0];go_wp2_with fail;refine(zif w (xs.length+ys.length) nv hl).mono ?_;rintro e w1 ⟨v,rfl,hg,hb⟩;have HG:=hide hg;have HB:=hide hb;have HL1:=hide hb.size;clear hg hb c0 c1;go_wp2;go_loopw [6,27] (fun s i wo=>∃(k:Nat) (qs:List (Value × List Int)),k≤2∧i=.int .i64 k∧qs.map (·.2)=upTo xs ys k∧GrowV wo w.heap.size s qs nv∧Hid (Below w.heap.size w wo)) (fun _ i _=>2-(intOf i).toNat)
   case atStart=>exact⟨0,[],Nat.zero_le _,rfl,rfl,HG.out,HB⟩
   case round=>
    obtain⟨k,qs,hk,rfl,hqs,hgv,HBO⟩:=hrel;obtain⟨hlt2,d0,d1,ha,hb⟩:=HT.out.below HBO.out;have HA:=hide ha;have HBB:=hide hb;have HGV:=hide hgv;have hsz:=HBO.out.size;have hql:=congrArg List.length hqs;rw [zM] at hql;clear ha hb hgv
    match k,hk with
    | 0,_=>
     have hq0:qs.length=0:=hql;go_wp2_with (at_builtin;refine zgw rfl _ _ 23 rfl w.heap.size j0 (by kernel_rfl) HJ.out HY0.out HY1.out HY2.out _ qs nv HGV.out rfl _ xs rfl HA.out (by omega) hsz ?_);rintro v' w' qs' hg' hq' hb';have HG':=hide hg';have HB':=hide (HBO.out.trans hb');clear hg' hb';go_wp2;go_roundw
     case rel=>exact⟨1,qs++qs',by omega,by go_num,(by rw [List.map_append,hqs,hq'];rfl),HG'.out,HB'⟩
     case measure=>simp [intOf]
    | 1,_=>
     have hq0:qs.length=xs.length:=hql;go_wp2_with (at_builtin;refine zgw rfl _ _ 23 rfl w.heap.size j0 (by kernel_rfl) HJ.out HY0.out HY1.out HY2.out _ qs nv HGV.out rfl _ ys rfl HBB.out (by omega) hsz ?_);rintro v' w' qs' hg' hq' hb';have HG':=hide hg';have HB':=hide (HBO.out.trans hb');clear hg' hb';go_wp2;go_roundw
     case rel=>exact⟨2,qs++qs',by omega,by go_num,(by rw [List.map_append,hqs,hq'];rfl),HG'.out,HB'⟩
     case measure=>simp [intOf]
    | 2,_=>
     have HM:=hide HGV.out.mat;rw [hqs] at HM;go_wp2;go_ret;exact⟨_,rfl,HM.out,HBO.out⟩
def GenPost (w:World)(n nv:Nat)(ms:List (List Int))(e:Ending)(w':World):Prop:=
 ∃ u hs p,e=.returned (.agg #[.int .i64 (n:Int),u])∧MatN w' u hs (n*nv+2)∧Below w.heap.size w w'∧FormL n hs p∧Alikes n (InL hs) (InL ms)∧Fresh w.heap.size u
theorem MatN.setBasis{B:Nat}{hs:List (List Int)}{x:Int}(y z:Value)(h:MatN W u hs nv)(hpos:∀ zs∈hs,0<zs.length)(c0:W.cell? ⟨B,0,none⟩=some (.int .i64 x))(c1:W.cell? ⟨B,1,none⟩=some (.slice none 0 0)):
  MatN ((W.setCell ⟨B,0,none⟩ y).setCell ⟨B,1,none⟩ z) u hs nv:=by
 have k1:(W.setCell ⟨B,0,none⟩ y).cell? ⟨B,1,none⟩=some (.slice none 0 0):=Eq.trans (World.cell?_setCell_other (h:=fun e=>by simp at e) ..) c1
 have stay:∀(b o:Nat) (v:Value),W.cell? ⟨b,o,none⟩=some v→¬(b=B∧o=0)→¬(b=B∧o=1)→((W.setCell ⟨B,0,none⟩ y).setCell ⟨B,1,none⟩ z).cell? ⟨b,o,none⟩=some v:=fun b o v hv h0 h1=>
  Eq.trans (World.cell?_setCell_other (h:=fun e=>h1 (by simp only [Addr.mk.injEq,and_true] at e;exact⟨e.1.symm,e.2.symm⟩)) ..) (Eq.trans (World.cell?_setCell_other (h:=fun e=>h0 (by simp only [Addr.mk.injEq,and_true] at e;exact⟨e.1.symm,e.2.symm⟩)) ..) hv)
 have hsz:((W.setCell ⟨B,0,none⟩ y).setCell ⟨B,1,none⟩ z).heap.size=W.heap.size:=by simp
 obtain⟨ao,cap,hv,h1,h2⟩:=h;refine⟨ao,cap,hv,h1,fun hh=>?_⟩;obtain⟨b,off,e,hlt,hc⟩:=h2 hh;refine⟨b,off,e,by rw [hsz];exact hlt,fun i zs hi=>?_⟩;obtain⟨v,cv,hv⟩:=hc i zs hi;have hzs:=hpos zs (List.mem_of_getElem? hi);obtain⟨vb,voff,vcap,rfl⟩:=hv.form hzs;refine⟨_,stay _ _ _ cv (fun⟨e1,e2⟩=>?_) (fun⟨e1,e2⟩=>?_),?_⟩
 ·rw [e1,e2,c0] at cv;cases cv
 ·rw [e1,e2,c1] at cv;cases cv
 ·have hat:=fun j (hj:j<zs.length)=>hv.at j hj;obtain⟨_,_,ev,g1,-⟩:=hv;refine⟨_,_,ev,g1,fun _=>⟨vb,voff,?_,by rw [hsz];exact(hat 0 hzs).1,fun j hj=>?_⟩⟩
  ·simp only [zV,true_and] at ev;exact ev.1.symm
  ·obtain⟨-,neg,o,l,c,d0,d1,hn⟩:=hat j hj;refine⟨neg,o,l,c,stay _ _ _ d0 (fun⟨e1,e2⟩=>?_) (fun⟨e1,e2⟩=>?_),stay _ _ _ d1 (fun⟨e1,e2⟩=>?_) (fun⟨e1,e2⟩=>?_),(hn.setCell c0 (by simp)).setCell k1 (by simp)⟩
   ·rw [e1,e2,c0] at d0;cases d0
   ·rw [e1,e2,c1] at d0;cases d0
   ·rw [e1,e2,c0] at d1;cases d1
   ·have e3:voff+j*2=0:=by omega
    rw [e1,e3,c0] at d0;cases d0
theorem zdl (w:World)(rb:Nat)(va vb:Value)(xs ys:List (List Int))(n nv:Nat)(h:TwoM w rb va vb xs ys nv)(hl:xs.length+ys.length≤12)(hn1:1≤n)(hn:n≤8)(hr:∀ us∈xs++ys,us.length=n)(hN:nbK n (n*nv+2) nv n≤100000):
  Calls Tryz.prog 81 #[.int .i64 (n:Int),.slice (some ⟨rb,0,none⟩) 2 2] w fun e w'=>GenPost w n nv (xs++ys) e w':=by
 have HT:=hide h;have HR:=hide hr;have HN:=hide hN;have HB0:=hide ((zB w.heap.size w).alloc zL (.cells #[.int .i64 0,.slice none 0 0] 55));have HC:=hide (zf w (.int .i64 0) (.slice none 0 0) 55 _ rfl);have HSZ:Hid (w.heap.size<(w.alloc (.cells #[.int .i64 0,.slice none 0 0] 55)).heap.size):=by show _<_;simp
 clear h hr hN;go_enter Tryz.func81,Tryz.ntmps81;go_wp2_with fail;generalize w.alloc (.cells #[.int .i64 0,.slice none 0 0] 55)=W0 at *;refine(zhr W0 rb va vb xs ys nv (HT.out.below HB0.out) (by omega)).mono ?_;rintro e w1 ⟨v,rfl,hv,hb1⟩;have HV:=hide hv;have HB1:=hide (HB0.out.trans (hb1.mono HB0.out.size));have HD:=hide (HC.out.later hb1 HSZ.out);have HS1:=hide (zT HSZ.out hb1.size);clear hv hb1 HC HSZ HB0;go_wp2_with fail;refine(zio w1 v (xs++ys) n nv HV.out HR.out hn1 hn (by rw [List.length_append];exact hl) HN.out).mono ?_;rintro e w2 ⟨u,hs,p,rfl,hu,hlen,hb2,hF,hA,hfr⟩;have hpos:∀ zs∈hs,0<zs.length:=fun zs hz=>by rw [hF.len zs hz];omega
 obtain⟨c0,c1,z0,z1⟩:=HD.out.later hb2 HS1.out;have HB2:=hide (HB1.out.trans (hb2.mono HB1.out.size));have HP:Hid (GenPost w n nv (xs++ys) (.returned (.agg #[.int .i64 (n:Int),u])) ((w2.setCell ⟨w.heap.size,0,none⟩ (.int .i64 (n:Int))).setCell ⟨w.heap.size,1,none⟩ u)):=⟨u,hs,p,rfl,hu.setBasis _ _ hpos c0 c1,(HB2.out.setCell (by simp) _).setCell (by simp) _,hF,hA,hfr.mono HB1.out.size⟩;obtain⟨uo,ucap,rfl,-,-⟩:=hu;clear hF hA hfr hpos hb2 HB1 HD HV HT HR HN;go_wp2;exact bodyPost_ret (v:=.agg #[.int .i64 (n:Int),.slice uo hs.length ucap]) (by simp [results,Tryz.results81,go_sem,c0,c1]) rfl HP.out
end Go.Proofs.YtdedolkgcdlmeaaGreatDoor
