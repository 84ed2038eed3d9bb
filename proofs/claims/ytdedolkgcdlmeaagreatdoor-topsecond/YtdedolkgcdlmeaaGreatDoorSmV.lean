import Derived.Test.YtdedolkgcdlmeaaGreatDoorHermite
import Derived.Test.YtdedolkgcdlmeaaGreatDoorVecX
import Derived.Test.YtdedolkgcdlmeaaGreatDoorKerT
import Derived.Test.YtdedolkgcdlmeaaGreatDoorGcdA
import Derived.Test.YtdedolkgcdlmeaaGreatDoorSmU
namespace Go.Proofs.YtdedolkgcdlmeaaGreatDoor
open Go.RowKit Limbs
def AllSl (W:World)(row:Option Nat):Prop:=∀ g,row=some g→∃ cur t fz,W.heap[g]?=some (.cells cur t fz)∧∀ u,u∈cur.toList→∃ o l c,u=.slice o l c
theorem zev (W:World):AllSl W none:=fun _ h=>by cases h
theorem AllSl.cell {W:World}{g:Nat}(h:AllSl W (some g)){k:Nat}{u:Value}(hc:W.cell? ⟨g,k,none⟩=some u):∃ o l c,u=.slice o l c:=by
 obtain⟨cur,t,fz,hh,hs⟩:=h g rfl
 rw [cell_of_row W g k cur t fz hh] at hc
 refine hs u ?_
 obtain⟨hk,e⟩:=Array.getElem?_eq_some_iff.1 hc
 rw [← e]
 exact Array.getElem_mem_toList hk
theorem AllSl.later {W W':World}{row:Option Nat}(h:AllSl W row)(hb:Below W.heap.size W W'):AllSl W' row:=fun g hg=>by
 obtain⟨cur,t,fz,hh,hs⟩:=h g hg
 exact⟨cur,t,fz,(hb.block _ (zw hh)).trans hh,hs⟩
theorem Lim.grownS {W W':World}{row:Option Nat}{s:Value}{zs:List Int}(h:Lim W s zs)(hg:W.grownBy W' row)(hr:AllSl W row):Lim W' s zs:=by
 obtain⟨ao,cap,rfl,h1,h2,h3,h4⟩:=h
 refine⟨ao,cap,rfl,h1,h2,h3,fun h0=>?_⟩
 obtain⟨b,off,e,hlt,hc⟩:=h4 h0
 have hne:some b≠row:=fun e'=>by
  subst e'
  obtain⟨o,l,c,e⟩:=hr.cell (hc 0 h0)
  cases e
 exact⟨b,off,e,zT hlt hg.size,fun i hi=>hg.cell (hc i hi) hne⟩
theorem NumL.grownS {W W':World}{row:Option Nat}{v:Value}{z:Int}{n:Nat}(h:NumL W v z n)(hg:W.grownBy W' row)(hr:AllSl W row):NumL W' v z n:=by
 obtain⟨neg,s,zs,h1,h2,h3⟩:=h
 exact⟨neg,s,zs,h1,h2.grownS hg hr,h3⟩
theorem VecN.grownS {W W':World}{row:Option Nat}{v:Value}{zs:List Int}{n:Nat}(h:VecN W v zs n)(hg:W.grownBy W' row)(hr:AllSl W row):VecN W' v zs n:=by
 obtain⟨ao,cap,hv,h1,h2⟩:=h
 refine⟨ao,cap,hv,h1,fun h0=>?_⟩
 obtain⟨b,off,e,hlt,hc⟩:=h2 h0
 have hne:some b≠row:=fun e'=>by
  subst e'
  obtain⟨neg,_,_,_,h3,-⟩:=hc 0 h0
  obtain⟨o,l,c,e⟩:=hr.cell h3
  cases e
 refine⟨b,off,e,zT hlt hg.size,fun i hi=>?_⟩
 obtain⟨neg,o,l,c,h3,h4,h5⟩:=hc i hi
 exact⟨neg,o,l,c,hg.cell h3 hne,hg.cell h4 hne,h5.grownS hg hr⟩
theorem zec (n:Nat):∀ u,u∈(Builtin.zeroCells (Value.cells (.slice none 0 0)) n).toList→∃ o l c,u=.slice o l c:=fun u hu=>by
 simp only [Builtin.zeroCells,Array.toList_map,List.mem_map] at hu
 obtain⟨i,-,rfl⟩:=hu
 exact⟨none,0,0,by
  have:i % (Value.cells (.slice none 0 0)).size=0:=by simp [Value.cells,Nat.mod_one]
  rw [this];rfl⟩
theorem zgo {P:Program}(w:World)(t ty:TypeId)(base:Nat)(e:TypeId)(i:TypeInfo)(ht:P.underlying t=some (.slice e))(hi:P.info? e=some i)(hz:i.zero=some (.slice none 0 0))
  (hsize:i.size=1) (v:Value) (n:Nat) (xs:List Value) (hown:w.ownsRow base e 1 v n xs) (hall:AllSl w v.ownBlock)
  (ad:Addr) (o:Option Addr) (l c cc:Nat) (hnews:∀ j u,[Value.slice o l c][j]?=some u→w.cell? (ad.add j)=some u)
  (h63:n+1≤maxLen) (hbytes:(n+1) * i.bytes≤140737488355328) (g cap:Nat) (w':World)
  (hr:(Builtin.append_ #[t,t] ty #[v,.slice (some ad) 1 cc]).run P w=.ok (.slice (some ⟨g,0,none⟩) (n+1) cap) w'):AllSl w' (some g):=by
 have hx:∀ u,u∈xs→∃ o l c,u=.slice o l c:=by
  rcases hown.2 with⟨rfl,rfl⟩ |⟨g',cap',cur,rfl,hbg,hg,hnc,hcm,hcs,htake⟩
  ·have:xs=[]:=List.eq_nil_of_length_eq_zero (by simpa using hown.1)
   rw [this]
   exact fun _ h=>by cases h
  ·intro u hu
   obtain⟨cur',t',fz',hh,hs⟩:=hall g' rfl
   rw [hg] at hh
   simp only [Option.some.injEq,Obj.cells.injEq] at hh
   obtain⟨rfl,-,-⟩:=hh
   rw [← htake] at hu
   exact hs u (List.mem_of_mem_take hu)
 have hmake:∀(k:Nat) (ys:List Value),(∀ u,u∈ys→∃ o l c,u=.slice o l c)→AllSl (w.drew.alloc (.cells (ys.toArray ++ Builtin.zeroCells (Value.cells (.slice none 0 0)) k) e)) (some w.heap.size):=fun k ys hy g0 hg0=>by
  simp only [Option.some.injEq] at hg0
  subst hg0
  refine⟨_,_,_,heap_alloc_new w.drew _,fun u hu=>?_⟩
  rw [Array.toList_append,List.mem_append] at hu
  rcases hu with hu | hu
  ·exact hy u (by simpa using hu)
  ·exact zec k u hu
 have hsl:∀ u,u∈[Value.slice o l c]→∃ o l c,u=.slice o l c:=fun u hu=>by
  rw [List.mem_singleton] at hu
  exact⟨o,l,c,hu⟩
 have h1c:∀ u∈[Value.slice o l c],u.oneCell'=true:=fun u hu=>by
  rw [List.mem_singleton] at hu
  rw [hu];rfl
 have hsmall:n+1≤9223372036854775807:=by simp only [maxLen] at h63;omega
 rcases hown.2 with⟨rfl,rfl⟩ |⟨g',cap',cur,rfl,hbg,hg,hnc,hcm,hcs,htake⟩
 ·have hr':=run_append_nil (P:=P) w t ty e i (.slice none 0 0) ht hi hz ad 1 cc [Value.slice o l c] (by rw [hsize];rfl) hnews (by decide) (by decide) (by simp only [Nat.zero_add] at hbytes;omega)
  rw [hr'] at hr
  simp only [Result.ok.injEq,Value.slice.injEq,Option.some.injEq,Addr.mk.injEq,and_true] at hr
  obtain⟨⟨rfl,-⟩,rfl⟩:=hr
  exact hmake _ _ hsl
 ·by_cases hroom:n+1≤cap'
  ·have hr':=run_append_room (P:=P) w t ty e i ht hi g' n cap' cur hg ad 1 cc [Value.slice o l c] (by rw [hsize];rfl) hnews h1c hroom (by rw [hsize,hcs];simp;omega)
   rw [hr'] at hr
   simp only [Result.ok.injEq,Value.slice.injEq,Option.some.injEq,Addr.mk.injEq,and_true,true_and] at hr
   obtain⟨⟨rfl,-⟩,rfl⟩:=hr
   intro g0 hg0
   simp only [Option.some.injEq] at hg0
   subst hg0
   refine⟨_,_,_,setRow_heap w g' cur _ e _ hg,fun u hu=>?_⟩
   obtain⟨cur',t',fz',hh,hs⟩:=hall g' rfl
   rw [hg] at hh
   simp only [Option.some.injEq,Obj.cells.injEq] at hh
   obtain⟨rfl,-,-⟩:=hh
   simp only [List.mem_append] at hu
   rcases hu with(hu | hu) | hu
   ·exact hs u (List.mem_of_mem_take hu)
   ·exact hsl u hu
   ·exact hs u (List.mem_of_mem_drop hu)
  ·have holds:∀ j u,xs[j]?=some u→w.cell? ((⟨g',0,none⟩:Addr).add j)=some u:=hown.cells (g:=g') rfl
   have hr':=run_append_grow (P:=P) w t ty e i (.slice none 0 0) ht hi hz ⟨g',0,none⟩ n cap' xs (by rw [hsize];exact hown.1) holds ad 1 cc [Value.slice o l c] (by rw [hsize];rfl) hnews (by omega) (by omega) (growslice_fits (by omega) hbytes)
   rw [hr'] at hr
   simp only [Result.ok.injEq,Value.slice.injEq,Option.some.injEq,Addr.mk.injEq,and_true,true_and] at hr
   obtain⟨⟨rfl,-⟩,rfl⟩:=hr
   have:=hmake (grownCap w (n+1) cap' e - (n+1)) (xs ++ [Value.slice o l c]) (fun u hu=>by
    rcases List.mem_append.1 hu with h | h
    ·exact hx u h
    ·exact hsl u h)
   rwa [← List.append_toArray] at this
theorem zlJ {P:Program}{w:World}{ops:Array Oper}{rest:List Oper}{op:Oper}{a:Act}{Q:Exit→Act→World→Prop}(hgd:op.guard=none)(s x:Operand)(t:TypeId)
  (ho:op.op=.call { callee:=.builtin .append,args:=#[s,x],argTypes:=#[t,t] })
  (base:Nat) (e:TypeId) (i:TypeInfo) (bytes:Nat) (ht:P.underlying t=some (.slice e)) (hi:P.info? e=some i) (hz:i.zero=some (.slice none 0 0))
  (hsize:i.size=1) (hby:i.bytes=bytes) (v:Value) (n:Nat) (xs:List Value) (hs:a.eval s=v) (hown:w.ownsRow base e 1 v n xs) (hall:AllSl w v.ownBlock)
  (ad:Addr) (cc:Nat) (o:Option Addr) (l c:Nat) (hx:a.eval x=.slice (some ad) 1 cc) (hnews:∀ j u,[Value.slice o l c][j]?=some u→w.cell? (ad.add j)=some u)
  (h63:n+1≤maxLen) (hbytes:(n+1) * bytes≤140737488355328) (hbase:base≤w.heap.size)
  (h:∀ g cap w',w'.ownsRow base e 1 (.slice (some ⟨g,0,none⟩) (n+1) cap) (n+1) (xs ++ [.slice o l c])→w.grownBy w' v.ownBlock→AllSl w' (some g)→wpList P ops Q rest (a.put op.dst (.slice (some ⟨g,0,none⟩) (n+1) cap)) w'):wpList P ops Q (op :: rest) a w:=by
 refine wpList_plain hgd fun K hK=>?_
 subst hby
 obtain⟨g,cap,w',hr,h2,h3,h4,h5⟩:=run_append_lies (P:=P) w t op.type base e i (.slice none 0 0) 1 i.bytes ht hi hz hsize rfl rfl (by decide) v n xs hown ad 1 cc [.slice o l c] rfl hnews (fun u hu=>by rw [List.mem_singleton] at hu;rw [hu];rfl) (by decide) h63 hbytes hbase _ rfl
 have hA:=zgo w t op.type base e i ht hi hz hsize v n xs hown hall ad o l c cc hnews h63 hbytes g cap w' hr
 unfold Oper.wp execOp
 simp only [ho,resolve,invoke,builtin,Sem.run_bind,Sem.run_pure,Result.andThen_ok,List.map_toArray,List.map_cons,List.map_nil,hs,hx,hr]
 exact hK _ _ (h g cap w' h2 h3 hA)
structure GrowV (W:World)(base:Nat)(v:Value)(qs:List (Value × List Int))(n:Nat):Prop where
 own:W.ownsRow base 72 1 v qs.length (qs.map (·.1))
 all:AllSl W v.ownBlock
 vec:∀ q∈qs,VecN W q.1 q.2 n
theorem GrowV.nil (W:World)(base n:Nat):GrowV W base (.slice none 0 0) [] n:=⟨World.ownsRow_nil _ _ _ _,zev _,fun _ h=>by cases h⟩
theorem GrowV.later {W W':World}{base:Nat}{v:Value}{qs:List (Value × List Int)}{n:Nat}(h:GrowV W base v qs n)(hb:Below W.heap.size W W'):GrowV W' base v qs n:=
 ⟨zcH h.own hb,h.all.later hb,fun p hp=>(h.vec p hp).below hb zL⟩
theorem GrowV.mono {W:World}{base:Nat}{v:Value}{qs:List (Value × List Int)}{n m:Nat}(h:GrowV W base v qs n)(hm:n≤m):GrowV W base v qs m:=
 ⟨h.own,h.all,fun p hp=>(h.vec p hp).mono hm⟩
theorem zi1 {base:Nat}{W w':World}{v:Value}{qs:List (Value × List Int)}{n:Nat}{o:Option Addr}{l c:Nat}{zs:List Int}{g cap:Nat}(h:GrowV W base v qs n)(hz:VecN W (.slice o l c) zs n)
  (hown:w'.ownsRow base 72 1 (.slice (some ⟨g,0,none⟩) (qs.length+1) cap) (qs.length+1) (qs.map (·.1) ++ [.slice o l c]))
  (hg:W.grownBy w' v.ownBlock) (hA:AllSl w' (some g)):GrowV w' base (.slice (some ⟨g,0,none⟩) (qs.length+1) cap) (qs ++ [(.slice o l c,zs)]) n:=by
 refine⟨by rw [List.length_append,List.length_singleton,List.map_append];exact hown,hA,fun p hp=>?_⟩
 rcases List.mem_append.1 hp with h' | h'
 ·exact(h.vec p h').grownS hg h.all
 ·rw [List.mem_singleton] at h'
  rw [h']
  exact hz.grownS hg h.all
theorem GrowV.mat {W:World}{base:Nat}{v:Value}{qs:List (Value × List Int)}{n:Nat}(h:GrowV W base v qs n):MatN W v (qs.map (·.2)) n:=zfJ h.own h.vec
theorem zi5 {base:Nat}{W w':World}{v:Value}{qs:List (Value × List Int)}{n:Nat}(h:GrowV W base v qs n)(hB:base≤W.heap.size)(hg:W.grownBy w' v.ownBlock):Below base W w':=
 (Below.refl _ _).grown hg hB (fun k hk=>(h.own.lt k hk).1)
theorem VecN.drop {W:World}{b off cap:Nat}{us:List Int}{nv n m:Nat}(h:VecN W (.slice (some ⟨b,off,none⟩) us.length cap) us nv)(hn:n+m=us.length)(hm:0 < m):VecN W (.slice (some ⟨b,off+n * 2,none⟩) m (cap - n)) (us.drop n) nv:=by
 have hc:us.length≤cap:=by
  obtain⟨_,_,e,h1,-⟩:=h
  simp only [Value.slice.injEq,true_and] at e
  rw [e.2];exact h1
 have hl:(us.drop n).length=m:=by rw [List.length_drop];omega
 refine⟨_,_,by rw [hl],by rw [hl];omega,fun _=>⟨b,off+n * 2,rfl,(h.at 0 (by omega)).1,fun i hi=>?_⟩⟩
 rw [hl] at hi
 obtain⟨-,neg,o,l,c,h1,h2,h3⟩:=h.at (n+i) (by omega)
 refine⟨neg,o,l,c,?_,?_,?_⟩
 ·rw [show off+n * 2+i * 2=off+(n+i) * 2 by omega];exact h1
 ·rw [show off+n * 2+i * 2+1=off+(n+i) * 2+1 by omega];exact h2
 ·rw [zbU];exact h3
theorem zhq (n:Nat)(ts:List (List Int))(k:Nat)(hk:k < ts.length):behindL n (ts.take (k+1))=behindL n (ts.take k) ++(if (n:Int)≤first ts[k] then [ts[k].drop n] else []):=by
 unfold behindL
 rw [List.take_succ_eq_append_getElem hk,List.filter_append,List.map_append]
 by_cases h:(n:Int)≤first ts[k]
 ·rw [if_pos h,List.filter_cons_of_pos (by simpa using h)];rfl
 ·rw [if_neg h,List.filter_cons_of_neg (by simpa using h)];rfl
theorem zhp (n:Nat)(ts:List (List Int))(k:Nat):(behindL n (ts.take k)).length≤k:=by
 unfold behindL
 rw [List.length_map]
 exact Nat.le_trans (List.length_filter_le _ _) (by rw [List.length_take];omega)
theorem VecN.drop0 {W:World}{b off cap:Nat}{us:List Int}{nv n m:Nat}(h:VecN W (.slice (some ⟨b,off,none⟩) us.length cap) us nv)(hn:n+m=us.length):VecN W (.slice (some ⟨b,off+n * 2,none⟩) m (cap - n)) (us.drop n) nv:=by
 by_cases hm:0 < m
 ·exact h.drop hn hm
 ·have hl:(us.drop n).length=m:=by rw [List.length_drop];omega
  exact⟨_,_,by rw [hl],by rw [hl];omega,fun h0=>absurd h0 (by rw [hl];exact hm)⟩
def aloneTo (hs:List (List Int))(p:Nat→Nat)(n k:Nat):Prop:=∀ i,i < k→∀ b,p i < b→b < n→ent hs i b=0
theorem zhk {us:List Int}{f n:Nat}(hl:us.length=n):first (us.drop (f+1)) < 0↔∀ b,f < b→b < n→us.getD b 0=0:=by
 rw [zdq]
 constructor
 ·intro h b h1 h2
  have:=h (b - (f+1)) (by rw [List.length_drop];omega)
  rw [zbU,show f+1+(b - (f+1))=b by omega] at this
  exact this
 ·intro h b hb
  rw [List.length_drop] at hb
  rw [zbU]
  exact h _ (by omega) (by omega)
set_option linter.unusedSimpArgs false in
set_option maxRecDepth 100000 in
set_option maxHeartbeats 3200000 in
theorem zgb (w:World)(va:Value)(n nv:Nat)(hs:List (List Int))(p:Nat→Nat)(ha:MatN w va hs nv)(F:FormL n hs p)(hn:n≤100)(hm:hs.length≤100):
  Calls Tryz.prog 64 #[va] w fun e w'=>∃ r:Bool,e=.returned (.bool r)∧(r=true↔aloneTo hs p n hs.length)∧Below w.heap.size w w':=by
 have HA:=hide ha;have HF:=hide F
 obtain⟨ao,acap,rfl,-,-⟩:=ha
 clear F
 go_enter Tryz.func64,Tryz.ntmps64
 go_wp2
 go_loopw [6] (fun x wr=>∃ k:Nat,k≤hs.length∧x=.int .i64 k∧Hid (aloneTo hs p n k)∧Hid (Below w.heap.size w wr)) (fun x _=>hs.length - (intOf x).toNat)
 case atStart=>exact⟨0,Nat.zero_le _,rfl,hide (fun i hi=>absurd hi (Nat.not_lt_zero i)),hide (Below.refl _ _)⟩
 case round=>
  obtain⟨k,hk,rfl,HAL,HBE⟩:=hrel
  by_cases hkl:k < hs.length
  ·obtain⟨rb,roff,_,e,lr,ru,cu,hru⟩:=HA.out.at k hkl
   simp only [Value.slice.injEq,true_and] at e
   obtain⟨rfl,rfl⟩:=e
   have hul:hs[k].length=n:=HF.out.len _ (List.getElem_mem hkl)
   obtain⟨hf1,hf2,hf3⟩:=HF.out.first hkl
   have HE:Hid (∀ b,ent hs k b=hs[k].getD b 0):=fun b=>by unfold ent;rw [zp hkl]
   have hpn:p k < n:=hf2
   generalize hs[k]=us at *
   obtain⟨vb,voff,vcap,rfl⟩:=hru.form (by omega)
   have hcap:n≤vcap:=by
    obtain⟨_,_,e,h1,-⟩:=hru
    simp only [Value.slice.injEq,true_and] at e
    omega
   have HU:=hide ((hru.below HBE.out zL).below (Below.refl wr.heap.size wr).drew zL)
   have HD:Hid (VecN wr.drew (.slice (if vcap=p k+1 then some ⟨vb,voff,none⟩ else some ⟨vb,voff+(p k+1) * 2,none⟩) (n - (p k+1)) (vcap - (p k+1))) (us.drop (p k+1)) nv):=by
    by_cases hvc:vcap=p k+1
    ·rw [if_pos hvc]
     have hl:(us.drop (p k+1)).length=n - (p k+1):=by rw [List.length_drop];omega
     exact⟨_,_,by rw [hl],by rw [hl];omega,fun h0=>absurd h0 (by rw [hl];omega)⟩
    ·rw [if_neg hvc]
     exact HU.out.drop0 (n:=p k+1) (m:=n - (p k+1)) (by omega)
   have HDL:Hid ((us.drop (p k+1)).length≤100):=by
    show _≤_
    rw [List.length_drop];omega
   have HAD:=hide (zhk (us:=us) (f:=p k) hul)
   have c1:=(HBE.out.cell (p:=⟨rb,roff+k,none⟩) lr).trans cu
   have HFI:=hide (zbl wr.drew _ us nv HU.out (by omega))
   rw [hf1,hul] at HFI
   have hrb:rb < wr.heap.size:=zT lr HBE.out.size
   rw [hul] at c1
   clear hru cu hf1 hf2 hf3 hul HU
   generalize hpk:p k=f at *
   obtain⟨f1,hf1⟩:∃ f1:Nat,f1=f+1:=⟨_,rfl⟩
   have g1:f1≤n:=by omega
   have g2:IntKind.i64.wrap ((f:Int)+1)=(f1:Int):=by rw [IntKind.wrap_i64];omega
   rw [← hf1] at HD HAD HDL
   have HF1:=hide hf1;have HPK:=hide hpk
   clear hf1 hpk
   go_wp2_with fail
   refine zt (S:=(fun w'=>w'.cell? ⟨rb,roff+k,none⟩=some (.slice (some ⟨vb,voff,none⟩) n vcap))) (k:=13) (by kernel_rfl) (by exact c1) (fun hHeld=>?_)
   refine ze 0 9 [] ?_
   try simp only [zA]
   refine ze 1 10 [] ?_
   try simp only [zA]
   refine ze 2 11 [] ?_
   try simp only [zA]
   refine ze 3 12 [] ?_
   try simp only [zA]
   refine ze 4 13 [] ?_
   try simp only [zA]
   refine ze 5 14 [] ?_
   try simp only [zA]
   refine ze 6 15 [] ?_
   try simp only [zA]
   refine ze 7 16 [] ?_
   try simp only [zA]
   refine zf 8 (by kernel_rfl) rfl (fun K hK=>?_)
   go_simp
   refine HFI.out.mono ?_
   rintro e w1 ⟨rfl,hb1⟩
   have hb1':Below wr.heap.size wr w1:=(Below.refl _ _).drew.trans hb1
   have c2:=(hb1'.cell (p:=⟨rb,roff+k,none⟩) hrb).trans c1
   have HD1:=hide (HD.out.below hb1 zL)
   have HB1:=hide (HBE.out.trans (hb1'.mono HBE.out.size))
   clear hb1 hb1' HFI HD
   go_wp2_with fail
   refine hK.out _ _ (fun _=>c2) ?_
   clear hK K hHeld
   try simp only [zA]
   have hHeld1:(fun w'=>w'.cell? ⟨rb,roff+k,none⟩=some (.slice (some ⟨vb,voff,none⟩) n vcap)) w1:=c2
   refine ze 9 18 [] ?_
   try simp only [zA]
   refine ze 10 19 [] ?_
   try simp only [zA]
   generalize (if vcap=f1 then some (⟨vb,voff,none⟩:Addr) else some ⟨vb,voff+f1 * 2,none⟩)=ad at *
   refine zf 11 (by kernel_rfl) rfl (fun K hK=>?_)
   go_simp
   refine(zg1 w1 _ _ nv (by exact HD1.out) (by have:=HDL.out;omega)).mono ?_
   rintro e w2 ⟨rfl,hb2⟩
   have c3:=(hb2.cell (p:=⟨rb,roff+k,none⟩) (zT lr HB1.out.size)).trans c2
   have HB2:=hide (HB1.out.trans (hb2.mono HB1.out.size))
   clear hb2
   go_wp2_with fail
   refine hK.out _ _ (fun _=>c3) ?_
   clear hK K hHeld1
   try simp only [zA]
   have hHeld2:(fun w'=>w'.cell? ⟨rb,roff+k,none⟩=some (.slice (some ⟨vb,voff,none⟩) n vcap)) w2:=c3
   refine ze 12 21 [] ?_
   try simp only [zA]
   refine zq (by kernel_rfl) ?_
   clear c1 c2 c3 hHeld2 HB1 HD1
   generalize hbz:decide (first (us.drop f1) < 0)=bz
   cases bz with
   | true=>
    have HAL':Hid (aloneTo hs p n (k+1)):=fun i hi b h1 h2=>by
     by_cases e:i=k
     ·subst e
      rw [HE.out b]
      exact HAD.out.1 (of_decide_eq_true hbz) b (by have:=HPK.out;omega) h2
     ·exact HAL.out i (by omega) b h1 h2
    clear hbz
    go_wp2
    go_roundw
    case rel=>exact⟨k+1,by omega,by go_num,HAL',HB2⟩
    case measure=>simp [intOf];omega
   | false=>
    have HNO:Hid (¬ aloneTo hs p n hs.length):=fun h=>of_decide_eq_false hbz (HAD.out.2 fun b h1 h2=>by
     have:=h k hkl b (by have:=HPK.out;omega) h2
     rwa [HE.out b] at this)
    clear hbz
    go_wp2
    go_ret
    exact⟨false,rfl,⟨fun h=>(by cases h),fun h=>absurd h HNO.out⟩,HB2.out⟩
  ·obtain rfl:k=hs.length:=by omega
   go_wp2
   go_ret
   exact⟨true,rfl,⟨fun _=>HAL.out,fun _=>rfl⟩,HBE.out⟩
def pivL (hs:List (List Int))(p:Nat→Nat):List Int:=(List.range hs.length).map fun k=>ent hs k (p k)
theorem zcJ (hs:List (List Int))(p:Nat→Nat):(pivL hs p).length=hs.length:=by simp [pivL]
theorem zcb (hs:List (List Int))(p:Nat→Nat)(k:Nat)(hk:k < hs.length):(pivL hs p).getD k 0=ent hs k (p k):=zac _ _ k hk
theorem zkA (m:Nat)(hm:m≤1000)(W:World):(Instr.makeSlice 46 (.int .i64 (m:Int)) (.int .i64 (m:Int))).run Tryz.prog W=.ok (.slice (some ⟨W.heap.size,0,none⟩) m m) (W.alloc (.cells (madeCells #[.bool false,.slice none 0 0] (m * 2)) 29)):=by
 obtain⟨i0,hi,hz0,hz1,hz2⟩:=info_parts Tryz.infoNum
 have h:=run_make (P:=Tryz.prog) W 46 29 i0 (.agg #[.bool false,.slice none 0 0]) (by kernel_rfl) hi hz0 .i64 .i64 m m (by omega) (by omega) (by rw [hz2];omega) (by omega)
 rw [hz1,Int.toNat_natCast] at h
 exact h
set_option linter.unusedSimpArgs false in
set_option maxRecDepth 100000 in
set_option maxHeartbeats 3200000 in
theorem zgc (w:World)(va:Value)(n nv:Nat)(hs:List (List Int))(p:Nat→Nat)(ha:MatN w va hs nv)(F:FormL n hs p)(hn:n≤100)(hm:hs.length≤100):
  Calls Tryz.prog 67 #[va] w fun e w'=>VecPost w (pivL hs p) nv e w':=by
 have HA:=hide ha;have HF:=hide F
 obtain⟨ao,acap,rfl,-,-⟩:=ha
 have hpl:=zcJ hs p
 have hmk:=zkA hs.length (by omega)
 have HI:=hide (VecO.made w w (Below.refl _ _) (pivL hs p).length nv)
 rw [hpl] at HI
 clear F
 go_enter Tryz.func67,Tryz.ntmps67
 go_wp2
 clear hmk
 go_loopw [10] (fun x wr=>∃ k:Nat,k≤hs.length∧x=.int .i64 k∧Hid (VecO w wr w.heap.size ((pivL hs p).take k ++ List.replicate ((pivL hs p).length - k) 0) nv)) (fun x _=>hs.length - (intOf x).toNat)
 case atStart=>exact⟨0,Nat.zero_le _,rfl,hide (by rw [hpl];exact HI.out)⟩
 case round=>
  clear HI
  obtain⟨k,hk,rfl,HI⟩:=hrel
  by_cases hkl:k < hs.length
  ·obtain⟨rb,roff,_,e,lr,ru,cu,hru⟩:=HA.out.at k hkl
   simp only [Value.slice.injEq,true_and] at e
   obtain⟨rfl,rfl⟩:=e
   have hul:hs[k].length=n:=HF.out.len _ (List.getElem_mem hkl)
   obtain⟨hf1,hf2,hf3⟩:=HF.out.first hkl
   have hz:(pivL hs p).getD k 0=hs[k].getD (p k) 0:=by rw [zcb hs p k hkl];unfold ent;rw [zp hkl]
   have HFS:=hide (zbk (pivL hs p) k (by omega))
   rw [hz] at HFS
   have hfl:=zaW (pivL hs p) k (by omega)
   clear hz
   generalize hs[k]=us at *
   obtain⟨vb,voff,vcap,rfl⟩:=hru.form (by omega)
   obtain⟨lv,neg,lo,ll,lc,z0,z1,nz⟩:=hru.at (p k) (by omega)
   have hb0:=HI.out.below
   have HU:=hide ((hru.below hb0 zL).below (Below.refl wr.heap.size wr).drew zL)
   have c1:=(hb0.cell (p:=⟨rb,roff+k,none⟩) lr).trans cu
   have c2:=(hb0.cell (p:=⟨vb,voff+p k * 2,none⟩) lv).trans z0
   have c3:=(hb0.cell (p:=⟨vb,voff+p k * 2+1,none⟩) lv).trans z1
   have HNZ:=hide (nz.below hb0 zL)
   have HFI:=hide (zbl wr.drew _ us nv HU.out (by omega))
   rw [hf1,hul] at HFI
   have hrb:rb < wr.heap.size:=zT lr hb0.size
   have hvb:vb < wr.heap.size:=zT lv hb0.size
   rw [hul] at c1
   have hpn:p k < n:=hf2
   clear hru cu z0 z1 nz hf1 hf2 hf3 hul HU hb0
   generalize us.getD (p k) 0=z at *
   generalize hpk:p k=f at *
   go_wp2_with fail
   refine zt (S:=(fun w'=>w'.cell? ⟨rb,roff+k,none⟩=some (.slice (some ⟨vb,voff,none⟩) n vcap)∧w'.cell? ⟨vb,voff+f * 2,none⟩=some (.bool neg)∧w'.cell? ⟨vb,voff+f * 2+1,none⟩=some (.slice lo ll lc))) (k:=14) (by kernel_rfl) (by exact⟨c1,c2,c3⟩) (fun hHeld=>?_)
   refine zn (v:=?_) 0 13 [14] rfl rfl (by kernel_rfl) (by kernel_rfl) (by kernel_rfl) (by kernel_rfl) (by kernel_rfl) (fun _ _ _ h=>h) (by rfl) ?_ (by assumption) ?_
   rotate_left
   ·(intro w hSw;(try dsimp only at hSw);obtain⟨hS1,hS2,hS3⟩:=hSw;go_simp;with_reducible rfl)
   try simp only [zA]
   refine zn (v:=?_) 1 14 [14] rfl rfl (by kernel_rfl) (by kernel_rfl) (by kernel_rfl) (by kernel_rfl) (by kernel_rfl) (fun _ _ _ h=>h) (by rfl) ?_ (by assumption) ?_
   rotate_left
   ·(intro w hSw;(try dsimp only at hSw);obtain⟨hS1,hS2,hS3⟩:=hSw;go_simp;with_reducible rfl)
   try simp only [zA]
   refine zn (v:=?_) 2 15 [14] rfl rfl (by kernel_rfl) (by kernel_rfl) (by kernel_rfl) (by kernel_rfl) (by kernel_rfl) (fun _ _ _ h=>h) (by rfl) ?_ (by assumption) ?_
   rotate_left
   ·(intro w hSw;(try dsimp only at hSw);obtain⟨hS1,hS2,hS3⟩:=hSw;go_simp;with_reducible rfl)
   try simp only [zA]
   refine zn (v:=?_) 3 16 [14] rfl rfl (by kernel_rfl) (by kernel_rfl) (by kernel_rfl) (by kernel_rfl) (by kernel_rfl) (fun _ _ _ h=>h) (by rfl) ?_ (by assumption) ?_
   rotate_left
   ·(intro w hSw;(try dsimp only at hSw);obtain⟨hS1,hS2,hS3⟩:=hSw;go_simp;with_reducible rfl)
   try simp only [zA]
   refine zn (v:=?_) 4 17 [14] rfl rfl (by kernel_rfl) (by kernel_rfl) (by kernel_rfl) (by kernel_rfl) (by kernel_rfl) (fun _ _ _ h=>h) (by rfl) ?_ (by assumption) ?_
   rotate_left
   ·(intro w hSw;(try dsimp only at hSw);obtain⟨hS1,hS2,hS3⟩:=hSw;go_simp;with_reducible rfl)
   try simp only [zA]
   refine zn (v:=?_) 5 18 [14] rfl rfl (by kernel_rfl) (by kernel_rfl) (by kernel_rfl) (by kernel_rfl) (by kernel_rfl) (fun _ _ _ h=>h) (by rfl) ?_ (by assumption) ?_
   rotate_left
   ·(intro w hSw;(try dsimp only at hSw);obtain⟨hS1,hS2,hS3⟩:=hSw;go_simp;with_reducible rfl)
   try simp only [zA]
   refine zn (v:=?_) 6 19 [14] rfl rfl (by kernel_rfl) (by kernel_rfl) (by kernel_rfl) (by kernel_rfl) (by kernel_rfl) (fun _ _ _ h=>h) (by rfl) ?_ (by assumption) ?_
   rotate_left
   ·(intro w hSw;(try dsimp only at hSw);obtain⟨hS1,hS2,hS3⟩:=hSw;go_simp;with_reducible rfl)
   try simp only [zA]
   refine zn (v:=?_) 7 20 [14] rfl rfl (by kernel_rfl) (by kernel_rfl) (by kernel_rfl) (by kernel_rfl) (by kernel_rfl) (fun _ _ _ h=>h) (by rfl) ?_ (by assumption) ?_
   rotate_left
   ·(intro w hSw;(try dsimp only at hSw);obtain⟨hS1,hS2,hS3⟩:=hSw;go_simp;with_reducible rfl)
   try simp only [zA]
   refine zn (v:=?_) 8 21 [14] rfl rfl (by kernel_rfl) (by kernel_rfl) (by kernel_rfl) (by kernel_rfl) (by kernel_rfl) (fun _ _ _ h=>h) (by rfl) ?_ (by assumption) ?_
   rotate_left
   ·(intro w hSw;(try dsimp only at hSw);obtain⟨hS1,hS2,hS3⟩:=hSw;go_simp;with_reducible rfl)
   try simp only [zA]
   refine zn (v:=?_) 9 22 [14] rfl rfl (by kernel_rfl) (by kernel_rfl) (by kernel_rfl) (by kernel_rfl) (by kernel_rfl) (fun _ _ _ h=>h) (by rfl) ?_ (by assumption) ?_
   rotate_left
   ·(intro w hSw;(try dsimp only at hSw);obtain⟨hS1,hS2,hS3⟩:=hSw;go_simp;with_reducible rfl)
   try simp only [zA]
   refine zf 10 (by kernel_rfl) rfl (fun K hK=>?_)
   go_simp
   refine HFI.out.mono ?_
   rintro e w1 ⟨rfl,hb1⟩
   have hb1':Below wr.heap.size wr w1:=(Below.refl _ _).drew.trans hb1
   have d1:=(hb1'.cell (p:=⟨rb,roff+k,none⟩) hrb).trans c1
   have d2:=(hb1'.cell (p:=⟨vb,voff+f * 2,none⟩) hvb).trans c2
   have d3:=(hb1'.cell (p:=⟨vb,voff+f * 2+1,none⟩) hvb).trans c3
   have HI2:=hide (HI.out.later hb1')
   have HN1:=hide (HNZ.out.below hb1' zL)
   clear hb1 hb1' HFI HI HNZ
   go_wp2_with fail
   refine hK.out _ _ (fun _=>⟨d1,d2,d3⟩) ?_
   clear hK K hHeld
   try simp only [zA]
   have hHeld1:(fun w'=>w'.cell? ⟨rb,roff+k,none⟩=some (.slice (some ⟨vb,voff,none⟩) n vcap)∧w'.cell? ⟨vb,voff+f * 2,none⟩=some (.bool neg)∧w'.cell? ⟨vb,voff+f * 2+1,none⟩=some (.slice lo ll lc)) w1:=⟨d1,d2,d3⟩
   refine zn (v:=?_) 11 24 [14] rfl rfl (by kernel_rfl) (by kernel_rfl) (by kernel_rfl) (by kernel_rfl) (by kernel_rfl) (fun _ _ _ h=>h) (by rfl) ?_ (by assumption) ?_
   rotate_left
   ·(intro w hSw;(try dsimp only at hSw);obtain⟨hS1,hS2,hS3⟩:=hSw;go_simp;with_reducible rfl)
   try simp only [zA]
   refine zn (v:=?_) 12 25 [14] rfl rfl (by kernel_rfl) (by kernel_rfl) (by kernel_rfl) (by kernel_rfl) (by kernel_rfl) (fun _ _ _ h=>h) (by rfl) ?_ (by assumption) ?_
   rotate_left
   ·(intro w hSw;(try dsimp only at hSw);obtain⟨hS1,hS2,hS3⟩:=hSw;go_simp;with_reducible rfl)
   try simp only [zA]
   refine zn (v:=?_) 13 26 [14] rfl rfl (by kernel_rfl) (by kernel_rfl) (by kernel_rfl) (by kernel_rfl) (by kernel_rfl) (fun _ _ _ h=>h) (by rfl) ?_ (by assumption) ?_
   rotate_left
   ·(intro w hSw;(try dsimp only at hSw);obtain⟨hS1,hS2,hS3⟩:=hSw;go_simp;with_reducible rfl)
   try simp only [zA]
   obtain⟨neg0,o0,l0,c0',k0,k1,-⟩:=HI2.out.at k (by omega)
   have f0:=HI2.out.thaw (k * 2)
   have f1:=HI2.out.thaw (k * 2+1)
   have hP:=HI2.out.lt
   have HN:=hide (HI2.out.set (k:=k) (by omega) HN1.out)
   rw [HFS.out] at HN
   refine zf 14 (by kernel_rfl) rfl (fun K hK=>?_)
   go_simp
   refine hK.out _ _ (fun h=>absurd h (by decide)) ?_
   clear hK K
   try simp only [zA]
   refine zq (by kernel_rfl) ?_
   clear c1 c2 c3 d1 d2 d3 k0 k1 f0 f1 hHeld1 HI2 HN1 HFS
   go_wp2
   go_roundw
   case rel=>exact⟨k+1,by omega,by go_num,HN⟩
   case measure=>simp [intOf];omega
  ·obtain rfl:k=hs.length:=by omega
   rw [← hpl] at HI
   have HFF:=hide HI.out.full
   rw [hpl] at HI
   clear HI
   go_wp2
   go_ret
   exact⟨_,by rw [hpl];rfl,HFF.out⟩
structure TurnF (n:Nat)(hs fs:List (List Int)):Prop where
 len:fs.length=hs.length
 lens:∀ u∈fs,u.length=hs.length
 free:FreeM hs.length (ent fs)
 alike:Alikes hs.length (InL fs) (InL (colsL hs n))
def dgL (r:Nat)(f:Nat→Int):List (List Int):=(List.range r).map fun i=>(List.range r).map fun j=>dgM f i j
theorem zcs (r:Nat)(f:Nat→Int):(dgL r f).length=r:=by simp [dgL]
theorem zij (r:Nat)(f:Nat→Int):∀ u∈dgL r f,u.length=r:=fun u hu=>by
 obtain⟨i,-,rfl⟩:=List.mem_map.1 hu
 simp
theorem zeW (r:Nat)(f:Nat→Int)(i:Nat)(hi:i < r):(dgL r f).getD i []=(List.range r).map fun j=>dgM f i j:=by
 rw [zp (by rw [zcs];exact hi)]
 simp [dgL]
theorem zdi (r:Nat)(f:Nat→Int):EqM r (ent (dgL r f)) (dgM f):=fun i j hi hj=>by
 show((dgL r f).getD i []).getD j 0=_
 rw [zeW r f i hi,zac _ _ j hj]
theorem zhl {n:Nat}{hs:List (List Int)}{p:Nat→Nat}(F:FormL n hs p)(h:aloneTo hs p n hs.length):∃ gs,TurnF n hs gs∧Equ hs.length (ent gs) (dgM fun i=>(pivL hs p).getD i 0):=by
 have h0:∀ i b,i < hs.length→b < n→b≠p i→ent hs i b=0:=fun i b hi hb hne=>by
  rcases Nat.lt_or_gt_of_ne hne with hl | hl
  ·exact F.form.zero i b hi hl
  ·exact h i hi b hl hb
 have hcol:∀ i,i < hs.length→(colsL hs n).getD (p i) []=(dgL hs.length (fun k=>ent hs k (p k))).getD i []:=fun i hi=>by
  have hp:=F.form.lt i hi
  rw [zaR hs n _ hp,zeW _ _ i hi]
  refine zy (by simp) fun k hk=>?_
  rw [List.length_map] at hk
  rw [zbs _ _ _ hk,zac _ _ k hk]
  show ent hs k (p i)=dgM (fun k=>ent hs k (p k)) i k
  unfold dgM
  by_cases e:i=k
  ·rw [if_pos e,e]
  ·rw [if_neg e]
   refine h0 k (p i) hk hp fun e2=>e ?_
   rcases Nat.lt_trichotomy i k with hlt | hlt | hlt
   ·have:=F.form.inc i k hlt hk;omega
   ·exact hlt
   ·have:=F.form.inc k i hlt hi;omega
 refine⟨dgL hs.length (fun k=>ent hs k (p k)),⟨zcs _ _,zij _ _,?_,?_⟩,.of ((zdi _ _).trans fun i j hi hj=>?_)⟩
 ·refine zfe (fun i j hi hj hji=>?_) fun i hi=>?_
  ·rw [zdi _ _ i j hi hj,dgM,if_neg (by omega)]
  ·rw [zdi _ _ i i hi hi,dgM,if_pos rfl]
   have:0 < ent hs i (p i):=F.form.pos i hi
   omega
 ·refine Alikes.of (fun v hv hl=>?_) fun v hv hl=>?_
  ·obtain⟨i,hi,e⟩:=List.getElem_of_mem hv
   have hi':i < hs.length:=by rw [zcs] at hi;exact hi
   have hm:(colsL hs n).getD (p i) []∈colsL hs n:=zr (by rw [zQ];exact F.form.lt i hi')
   rw [hcol i hi',zp hi,e] at hm
   exact .base hm hl
  ·obtain⟨j,hj,e⟩:=List.getElem_of_mem hv
   have hj':j < n:=by rw [zQ] at hj;exact hj
   by_cases hp:∃ i,i < hs.length∧j=p i
   ·obtain⟨i,hi,rfl⟩:=hp
    have hm:(dgL hs.length (fun k=>ent hs k (p k))).getD i []∈dgL hs.length (fun k=>ent hs k (p k)):=zr (by rw [zcs];exact hi)
    rw [← hcol i hi,zp hj,e] at hm
    exact .base hm hl
   ·have e2:v=List.replicate hs.length 0:=by
     rw [← e,← zp hj,zaR hs n j hj']
     refine zy (by simp) fun k hk=>?_
     rw [List.length_map] at hk
     rw [zbs _ _ _ hk]
     have:=h0 k j hk hj' fun e3=>hp ⟨k,hk,e3⟩
     unfold ent at this
     rw [this]
     simp [List.getD_eq_getElem?_getD,hk]
    rw [e2]
    exact .zero
 ·unfold dgM
  split
  ·exact(zcb hs p i hi).symm
  ·rfl
theorem ziD {r:Nat}{H:List (List Int)}{A:Nat→Nat→Int}(S:Sq r H)(al:∀ k,k < r→∀ b,k < b→b < r→ent H k b=0)(h:Equ r A (ent H)∨Equ r (trM A) (ent H)):Equ r A (dgM fun i=>(pivL H fun k=>k).getD i 0):=by
 have e:EqM r (ent H) (dgM fun i=>(pivL H fun k=>k).getD i 0):=fun i j hi hj=>by
  unfold dgM
  by_cases hij:i=j
  ·rw [if_pos hij]
   refine Eq.trans ?_ (zcb H _ i (by rw [S.len];exact hi)).symm
   rw [hij]
  ·rw [if_neg hij]
   rcases Nat.lt_or_gt_of_ne hij with hl | hl
   ·exact al i hi j hl hj
   ·exact S.low hi hl
 rcases h with h | h
 ·exact h.trans (.of e)
 ·have:=(h.trans (.of e)).tr
  rw [zls] at this
  exact this
theorem ziE {n:Nat}{hs H fs:List (List Int)}(S:Sq hs.length H)(S':Sq hs.length fs)(a:Alikes hs.length (InL fs) (InL (colsL H hs.length)))(h:∃ gs,TurnF n hs gs∧(Equ hs.length (ent gs) (ent H)∨Equ hs.length (trM (ent gs)) (ent H))):
  ∃ gs,TurnF n hs gs∧(Equ hs.length (ent gs) (ent fs)∨Equ hs.length (trM (ent gs)) (ent fs)):=by
 obtain⟨gs,hg,h⟩:=h
 refine⟨gs,hg,?_⟩
 rcases h with h | h
 ·exact .inr (h.tr.trans (S.cols_equ S' a))
 ·exact .inl (h.tr.trans (S.cols_equ S' a))
end Go.Proofs.YtdedolkgcdlmeaaGreatDoor
