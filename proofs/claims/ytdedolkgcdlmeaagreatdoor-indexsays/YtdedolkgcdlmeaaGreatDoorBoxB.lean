import Derived.Test.YtdedolkgcdlmeaaGreatDoorSmW
import Derived.Laws.BitsLemmas
set_option maxRecDepth 100000
set_option maxHeartbeats 3200000
set_option linter.unusedSimpArgs false
namespace Go.Proofs.YtdedolkgcdlmeaaGreatDoor
open Go.RowKit Limbs
variable {m n k base B:Nat}{v:Value}{W W':World}{x g:Int}{ds:List Int}{f:Nat→Nat}
def Inc (k m:Nat)(f:Nat→Nat):Prop:=(∀ i,i+1<k→f i<f (i+1))∧∀ i,i<k→f i<m
def muF (k:Nat)(f:Nat→Nat):Int:=sumN k (fun i=>((k-i:Nat):Int) *(f i:Int))
theorem zk3 (n:Nat)(f:Nat→Int)(h:∀ i,i<n→0≤f i):0≤sumN n f:=by
 induction n with
 | zero=>exact Int.le_refl 0
 | succ n ih=>have h1:=ih fun i hi=>h i (by omega);have h2:=h n (by omega);rw [sumN];omega
theorem zdC (k:Nat)(f:Nat→Nat):0≤muF k f:=zk3 k _ fun _ _=>Int.mul_nonneg (Int.natCast_nonneg _) (Int.natCast_nonneg _)
theorem zjD{i:Nat}(hi:i+1<k)(h:f (i+1)<f i):muF k (fun a=>f (sw i (i+1) a))<muF k f:=by
 have e1:muF k (fun a=>f (sw i (i+1) a))+- muF k f=sumN k (fun a=>((k-a:Nat):Int) *(f (sw i (i+1) a):Int)+- (((k-a:Nat):Int) *(f a:Int))):=by
  unfold muF
  rw [← zch,← zbg]
 have e2:=zcR k i (i+1) (by omega) hi (fun a=>((k-a:Nat):Int) *(f (sw i (i+1) a):Int)+- (((k-a:Nat):Int) *(f a:Int))) fun a _ h1 h2=>by
  have:sw i (i+1) a=a:=by unfold sw;rw [if_neg h1,if_neg h2]
  rw [this];omega
 have s1:sw i (i+1) i=i+1:=by unfold sw;rw [if_pos rfl]
 have s2:sw i (i+1) (i+1)=i:=by unfold sw;rw [if_neg (by omega),if_pos rfl]
 rw [s1,s2] at e2
 obtain⟨q,hq⟩:∃ q:Nat,k-i=q+1:=⟨k-i-1,by omega⟩
 have hq2:k-(i+1)=q:=by omega
 rw [hq,hq2,Int.natCast_add,Int.add_mul,Int.add_mul] at e2
 omega
theorem zgu{A:Nat→Nat→Int}(h:∀ f,Inc k m f→x∣det k (fun a b=>A (f a) b)):∀(N:Nat) (f:Nat→Nat),muF k f<N→(∀ i,i<k→f i<m)→x∣det k (fun a b=>A (f a) b):=fun N=>by
 induction N with
 | zero=>intro f hN _;have:=zdC k f;omega
 | succ N ih=>
  intro f hN hf
  by_cases h1:∃ i,i+1<k∧f (i+1)<f i
  ·obtain⟨i,hi,hlt⟩:=h1
   have h2:=ih (fun a=>f (sw i (i+1) a)) (by have:=zjD hi hlt;omega) fun a ha=>hf _ (by unfold sw;split <;>(try split) <;> omega)
   have e:det k (fun a b=>A (f (sw i (i+1) a)) b)=- det k (fun a b=>A (f a) b):=by
    rw [← zbN k _ i (i+1) (by omega) hi]
    exact zn fun a b _ _=>by rw [zdZ]
   rw [e] at h2
   exact Int.dvd_neg.1 h2
  ·by_cases h2:∃ i,i+1<k∧f i=f (i+1)
   ·obtain⟨i,hi,e⟩:=h2
    rw [zaL k _ i (i+1) (by omega) hi fun b=>by rw [e]]
    exact Int.dvd_zero x
   ·exact h f ⟨fun i hi=>by
     rcases Nat.lt_trichotomy (f i) (f (i+1)) with q | q | q
     ·exact q
     ·exact absurd ⟨i,hi,q⟩ h2
     ·exact absurd ⟨i,hi,q⟩ h1,hf⟩
theorem zid{A:Nat→Nat→Int}(h:∀ f c,Inc k m f→Inc k n c→x∣det k (fun a b=>A (f a) (c b))):Dv k m n A x:=fun f c hf hc=>by
 refine zgu (A:=fun a b=>A a (c b)) (fun f' hf'=>?_) ((muF k f).toNat+1) f (by have:=zdC k f;omega) hf
 have e:∀ c':Nat→Nat,det k (fun a b=>A (f' a) (c' b))=det k (fun a b=>A (f' b) (c' a)):=fun c'=>(zeK k (fun a b=>A (f' a) (c' b))).symm
 rw [e]
 refine zgu (A:=fun a b=>A (f' b) a) (fun c' hc'=>?_) ((muF k c).toNat+1) c (by have:=zdC k c;omega) hc
 rw [← e]
 exact h f' c' hf' hc'
def bitsL (m b:Nat):List Nat:=(List.range m).filter fun i=>b/2 ^ i%2==1
def chooseL (k m:Nat):List (List Nat):=((List.range (2 ^ m)).map (bitsL m)).filter fun l=>l.length==k
def incB:List Nat→Bool
 | a::b::t=>decide (a<b) && incB (b::t)
 | _=>true
def listsL (m:Nat):Nat→List (List Nat)
 | 0=>[[]]
 | k+1=>(List.range m).flatMap fun a=>(listsL m k).map fun l=>a::l
theorem zjB (m:Nat):∀(l:List Nat),(∀ a∈l,a<m)→l∈listsL m l.length:=fun l=>by
 induction l with
 | nil=>intro _;exact List.mem_singleton.2 rfl
 | cons a t ih=>intro h;exact List.mem_flatMap.2 ⟨a,List.mem_range.2 (h a (List.mem_cons_self ..)),List.mem_map.2 ⟨t,ih fun b hb=>h b (List.mem_cons_of_mem _ hb),rfl⟩⟩
theorem zew:∀ m,m<5→∀ k,k<5→(listsL m k).all (fun l=>!(incB l) ||(chooseL k m).contains l)=true∧(chooseL k m).all (fun l=>incB l && decide (l.length=k) && l.all fun a=>decide (a<m))=true:=by decide +kernel
theorem zfh (f:Nat→Nat):∀(n s:Nat),(∀ i,s≤i→i+1<s+n→f i<f (i+1))→incB ((List.range' s n).map f)=true
 | 0,_,_=>rfl
 | 1,_,_=>rfl
 | n+2,s,h=>by
  show(decide (f s<f (s+1)) && incB ((List.range' (s+1) (n+1)).map f))=true
  rw [Bool.and_eq_true]
  exact⟨decide_eq_true (h s (Nat.le_refl s) (by omega)),zfh f (n+1) (s+1) fun i h1 h2=>h i (by omega) (by omega)⟩
theorem zfi(hm:m<5)(hk:k<5)(h:Inc k m f):(List.range k).map f∈chooseL k m:=by
 have h1:=(zew m hm k hk).1
 have hmem:(List.range k).map f∈listsL m k:=by
  have:=zjB m ((List.range k).map f) fun a ha=>by
   obtain⟨i,hi,rfl⟩:=List.mem_map.1 ha
   exact h.2 i (List.mem_range.1 hi)
  rwa [List.length_map,List.length_range] at this
 have h2:=List.all_eq_true.1 h1 _ hmem
 have h3:incB ((List.range k).map f)=true:=by
  rw [List.range_eq_range']
  exact zfh f k 0 fun i _ h5=>h.1 i (by omega)
 rw [h3] at h2
 simpa using h2
theorem zfg:∀(l:List Nat),incB l=true→∀ i,i+1<l.length→l.getD i 0<l.getD (i+1) 0
 | [],_,i,h=>absurd h (Nat.not_lt_zero _)
 | [a],_,i,h=>absurd h (by simp)
 | a::b::t,hl,i,h=>by
  have h1:decide (a<b)=true∧incB (b::t)=true:=by
   have:(decide (a<b) && incB (b::t))=true:=hl
   rwa [Bool.and_eq_true] at this
  cases i with
  | zero=>exact of_decide_eq_true h1.1
  | succ i=>exact zfg (b::t) h1.2 i (by simpa using h)
theorem zcG(hm:m<5)(hk:k<5){l:List Nat}(h:l∈chooseL k m):l.length=k∧Inc k m (fun i=>l.getD i 0):=by
 have h1:=List.all_eq_true.1 (zew m hm k hk).2 l h
 rw [Bool.and_eq_true,Bool.and_eq_true] at h1
 obtain⟨⟨h2,h3⟩,h4⟩:=h1
 have hl:=of_decide_eq_true h3
 refine⟨hl,fun i hi=>zfg l h2 i (by omega),fun i hi=>?_⟩
 have h5:i<l.length:=by omega
 have h6:=List.all_eq_true.1 h4 (l[i]) (List.getElem_mem h5)
 show l.getD i 0<m
 rw [List.getD_eq_getElem?_getD,List.getElem?_eq_getElem h5]
 exact of_decide_eq_true h6
def subL (ms:List (List Int))(k:Nat)(r c:List Nat):List (List Int):=(List.range k).map fun a=>(List.range k).map fun b=>ent ms (r.getD a 0) (c.getD b 0)
theorem zgz (ms:List (List Int))(k:Nat)(r c:List Nat)(a b:Nat)(ha:a<k)(hb:b<k):ent (subL ms k r c) a b=ent ms (r.getD a 0) (c.getD b 0):=by
 unfold subL
 show(((List.range k).map fun a=>(List.range k).map fun b=>ent ms (r.getD a 0) (c.getD b 0)).getD a []).getD b 0=_
 rw [List.getD_eq_getElem?_getD (l:=(List.range k).map _),List.getElem?_map,List.getElem?_range ha]
 exact zaE k _ b hb
theorem zh9(hm:m<5)(hn:n<5)(hk:k<5){ms:List (List Int)}(h:∀ r∈chooseL k m,∀ c∈chooseL k n,x∣det k (ent (subL ms k r c))):Dv k m n (ent ms) x:=zid fun f c hf hc=>by
 have h1:=h _ (zfi hm hk hf) _ (zfi hn hk hc)
 have e:det k (ent (subL ms k ((List.range k).map f) ((List.range k).map c)))=det k (fun a b=>ent ms (f a) (c b)):=zn fun a b ha hb=>by
  rw [zgz ms k _ _ a b ha hb]
  have g:∀(q:Nat→Nat) (i:Nat),i<k→((List.range k).map q).getD i 0=q i:=fun q i hi=>by
   rw [List.getD_eq_getElem?_getD,List.getElem?_map,List.getElem?_range hi];rfl
  rw [g f a ha,g c b hb]
 rwa [e] at h1
theorem zhq(hm:m<5)(hn:n<5)(hk:k<5){ms:List (List Int)}(h:Dv k m n (ent ms) x):∀ r∈chooseL k m,∀ c∈chooseL k n,x∣det k (ent (subL ms k r c)):=fun r hr c hc=>by
 rw [zn fun a b ha hb=>zgz ms k r c a b ha hb]
 exact h (fun a=>r.getD a 0) (fun b=>c.getD b 0) (zcG hm hk hr).2.2 (zcG hn hk hc).2.2
open Digs
theorem Tryz.infoInts:(Tryz.prog.info? 38).map (fun i=>(i.zero,i.size,i.bytes))=some (some (.slice none 0 0),1,24):=by kernel_rfl
def RowC (W:World)(v:Value)(l:List Nat):Prop:=
 ∃ ao cap,v=.slice ao l.length cap∧(0<l.length→∃ b cur fz,ao=some ⟨b,0,none⟩∧W.heap[b]?=some (.cells cur 3 fz)∧∀ j,j<l.length→W.cell? ⟨b,j,none⟩=some (.int .i64 ((l.getD j 0:Nat):Int)))
theorem RowC.below{l:List Nat}(h:RowC W v l)(hb:Below B W W')(hB:W.heap.size≤B):RowC W' v l:=by
 obtain⟨ao,cap,hv,h2⟩:=h
 refine⟨ao,cap,hv,fun h0=>?_⟩
 obtain⟨b,cur,fz,e,hh,hc⟩:=h2 h0
 have hlt:=zq hh
 exact⟨b,cur,fz,e,(hb.block _ (by omega)).trans hh,fun j hj=>(hb.cell (p:=⟨b,j,none⟩) (by show b<B;omega)).trans (hc j hj)⟩
theorem RowC.grown{row:Option Nat}{l:List Nat}(h:RowC W v l)(hg:W.grownBy W' row)(hr:Typed W row [3]):RowC W' v l:=by
 obtain⟨ao,cap,hv,h2⟩:=h
 refine⟨ao,cap,hv,fun h0=>?_⟩
 obtain⟨b,cur,fz,e,hh,hc⟩:=h2 h0
 have hne:some b≠row:=fun e=>by
  obtain⟨cur',t,fz',h5,h6⟩:=hr b e.symm
  rw [hh] at h5
  simp only [Option.some.injEq,Obj.cells.injEq] at h5
  exact h6 (by rw [← h5.2.1];exact List.mem_singleton.2 rfl)
 exact⟨b,cur,fz,e,(hg.block b (zq hh) hne).trans hh,fun j hj=>hg.cell (hc j hj) hne⟩
def GrowC (W:World)(base:Nat)(v:Value)(l:List Nat):Prop:=W.ownsRow base 3 1 v l.length (l.map fun a=>Value.int .i64 ((a:Nat):Int))
theorem GrowC.row{l:List Nat}(h:GrowC W base v l):RowC W v l:=by
 obtain⟨-,h1⟩:=h
 rcases h1 with⟨rfl,hn⟩ |⟨g,cap,cur,rfl,hb,hh,hc1,hc2,hc3,hc4⟩
 ·exact⟨none,0,by rw [hn],fun h0=>absurd h0 (by omega)⟩
 ·refine⟨_,cap,rfl,fun h0=>⟨g,cur,_,rfl,hh,fun j hj=>?_⟩⟩
  have e1:(l.map fun a=>Value.int .i64 ((a:Nat):Int))[j]?=some (.int .i64 ((l.getD j 0:Nat):Int)):=by
   rw [List.getElem?_map,List.getElem?_eq_getElem hj,List.getD_eq_getElem?_getD,List.getElem?_eq_getElem hj];rfl
  have:=World.news_of_block hh j _ (by rw [← hc4,List.getElem?_take,if_pos (by omega)] at e1;exact e1)
  have e:(⟨g,0,none⟩:Addr).add j=⟨g,j,none⟩:=by unfold Addr.add;split <;> simp_all
  rwa [e] at this
def MatC2 (W:World)(v:Value)(ls:List (List Nat)):Prop:=
 ∃ ao cap,v=.slice ao ls.length cap∧(0<ls.length→∃ b,ao=some ⟨b,0,none⟩∧b<W.heap.size∧∀ i l,ls[i]?=some l→∃ u,W.cell? ⟨b,i,none⟩=some u∧RowC W u l)
theorem MatC2.below{w w':World}{ls:List (List Nat)}(h:MatC2 w v ls)(hb:Below B w w')(hB:w.heap.size≤B):MatC2 w' v ls:=by
 obtain⟨ao,cap,hv,h2⟩:=h
 refine⟨ao,cap,hv,fun h0=>?_⟩
 obtain⟨b,e,hlt,hc⟩:=h2 h0
 refine⟨b,e,zT hlt hb.size,fun i zs hi=>?_⟩
 obtain⟨u,h3,h4⟩:=hc i zs hi
 exact⟨u,(hb.cell (p:=⟨b,i,none⟩) (zT hlt hB)).trans h3,h4.below hb hB⟩
def GrowL (W:World)(base:Nat)(v:Value)(qs:List (Value × List Nat)):Prop:=
 W.ownsRow base 38 1 v qs.length (qs.map (·.1))∧∀ q∈qs,RowC W q.1 q.2
theorem GrowL.later{qs:List (Value × List Nat)}(h:GrowL W base v qs)(hb:Below W.heap.size W W'):GrowL W' base v qs:=
 ⟨zcK h.1 hb,fun p hp=>(h.2 p hp).below hb zL⟩
theorem ziJ{wr w3:World}{qs:List (Value × List Nat)}{u:Value}{zs:List Nat}{g cap:Nat}{ob:Obj}(h:GrowL wr base v qs)(hz:RowC wr u zs)
  (hown:w3.ownsRow base 38 1 (.slice (some ⟨g,0,none⟩) (qs.length+1) cap) (qs.length+1) (qs.map (·.1)++[u]))
  (hg:(wr.alloc ob).grownBy w3 v.ownBlock):GrowL w3 base (.slice (some ⟨g,0,none⟩) (qs.length+1) cap) (qs++[(u,zs)]):=by
 have hty:Typed (wr.alloc ob) v.ownBlock [3]:=(zbd h.1 (by decide)).alloc ob
 refine⟨by rw [List.length_append,List.length_singleton,List.map_append];exact hown,fun p hp=>?_⟩
 rcases List.mem_append.1 hp with h' | h'
 ·exact((h.2 p h').below ((Below.refl _ _).alloc zL ob) zL).grown hg hty
 ·rw [List.mem_singleton] at h'
  rw [h']
  exact(hz.below ((Below.refl _ _).alloc zL ob) zL).grown hg hty
theorem GrowL.mat{qs:List (Value × List Nat)}(h:GrowL W base v qs):MatC2 W v (qs.map (·.2)):=by
 obtain⟨⟨-,h1⟩,h2⟩:=h
 have hlen:(qs.map (·.2)).length=qs.length:=List.length_map ..
 rcases h1 with⟨rfl,hn⟩ |⟨g,cap,cur,rfl,hb,hh,hc1,hc2,hc3,hc4⟩
 ·exact⟨none,0,by rw [hlen,hn],fun h0=>absurd h0 (by rw [hlen];omega)⟩
 ·refine⟨_,cap,by rw [hlen],fun h0=>⟨g,rfl,zq hh,fun i zs hi=>?_⟩⟩
  obtain⟨hi',e⟩:=List.getElem?_eq_some_iff.1 hi
  rw [hlen] at hi'
  have e':zs=qs[i].2:=by rw [← e,List.getElem_map]
  have:=World.news_of_block hh i qs[i].1 (by
   have e:(qs.map (·.1))[i]?=some qs[i].1:=by rw [List.getElem?_map,List.getElem?_eq_getElem hi'];rfl
   rw [← hc4,List.getElem?_take,if_pos (by omega)] at e
   exact e)
  have ea:(⟨g,0,none⟩:Addr).add i=⟨g,i,none⟩:=by unfold Addr.add;split <;> simp_all
  rw [ea] at this
  exact⟨qs[i].1,this,by rw [e'];exact h2 _ (List.getElem_mem hi')⟩
def choTo (k m b:Nat):List (List Nat):=((List.range b).map (bitsL m)).filter fun l=>l.length==k
theorem zhp (k m b:Nat):choTo k m (b+1)=choTo k m b++if (bitsL m b).length=k then [bitsL m b] else []:=by
 unfold choTo
 rw [List.range_succ,List.map_append,List.filter_append]
 congr 1
 rw [List.map_singleton,List.filter_cons,List.filter_nil]
 by_cases h:(bitsL m b).length=k
 ·rw [if_pos h,if_pos (by rw [h];exact beq_self_eq_true k)]
 ·rw [if_neg h,if_neg (by rw [beq_eq_false_iff_ne.2 h];decide)]
def bitsTo (i b:Nat):List Nat:=(List.range i).filter fun i=>b/2 ^ i%2==1
theorem zg9 (i b:Nat):bitsTo (i+1) b=bitsTo i b++if b/2 ^ i%2=1 then [i] else []:=by
 unfold bitsTo
 rw [List.range_succ,List.filter_append]
 congr 1
 rw [List.filter_cons,List.filter_nil]
 by_cases h:b/2 ^ i%2=1
 ·rw [if_pos h,if_pos (by rw [h];rfl)]
 ·rw [if_neg h,if_neg (by rw [beq_eq_false_iff_ne.2 h];decide)]
theorem zen (i b:Nat):(bitsTo i b).length≤i:=by
 unfold bitsTo
 exact Nat.le_trans (List.length_filter_le ..) (by rw [List.length_range];exact Nat.le_refl i)
theorem zc9 (k m b:Nat):(choTo k m b).length≤b:=by
 unfold choTo
 exact Nat.le_trans (List.length_filter_le ..) (by rw [List.length_map,List.length_range];exact Nat.le_refl b)
theorem andOne (q:Nat):bits .and .i64 (q:Int) 1=((q%2:Nat):Int):=by
 have h:(BitVec.ofInt 64 1).toNat=2 ^ 1-1:=by decide
 have key:(BitVec.ofInt 64 (q:Int) &&& BitVec.ofInt 64 1).toNat=((q:Int)%((2 ^ 64:Nat):Int)).toNat%2 ^ 1:=by
  rw [BitVec.toNat_and,BitVec.toNat_ofInt,h,Nat.and_two_pow_sub_one_eq_mod]
 show IntKind.i64.wrap ((BitVec.ofInt 64 (q:Int) &&& BitVec.ofInt 64 1).toNat:Nat)=_
 rw [key,IntKind.wrap_i64]
 omega
theorem zex (w:World)(k m:Nat)(hk:k≤4)(hm:m≤4):
  Calls Tryz.prog 68 #[.int .i64 (k:Int),.int .i64 (m:Int)] w fun e w'=>∃ u,e=.returned u∧MatC2 w' u (chooseL k m)∧Below w.heap.size w w':=by
 obtain⟨i0,hi,hz0,hz1,hz2⟩:=info_parts Tryz.infoInt
 obtain⟨j0,hj,hy0,hy1,hy2⟩:=info_parts Tryz.infoInts
 obtain⟨p,hp⟩:∃ p:Nat,2 ^ m=p:=⟨_,rfl⟩
 have hp16:p≤16:=by rw [← hp];exact Nat.le_trans (Nat.pow_le_pow_right (by decide) hm) (by decide)
 have HP:=hide hp
 have hsh:wrap64 ((2:Int) ^ m)=(p:Int):=by
  have e:((2:Int) ^ m)=((2 ^ m:Nat):Int):=by rw [Int.natCast_pow];rfl
  rw [e,hp]
  unfold wrap64
  omega
 clear hp
 go_enter Tryz.func68,Tryz.ntmps68
 go_wp2
 go_loopw [5,6] (fun out x wr=>∃(b:Nat) (qs:List (Value × List Nat)),b≤p∧x=.int .i64 b∧Hid (GrowL wr w.heap.size out qs)∧Hid (qs.map (·.2)=choTo k m b)∧Hid (Below w.heap.size w wr)) (fun _ x _=>p-(intOf x).toNat)
 case atStart=>exact⟨0,[],Nat.zero_le _,rfl,hide ⟨World.ownsRow_nil _ _ _ _,fun _ h=>by cases h⟩,hide rfl,hide (Below.refl _ _)⟩
 case round=>
  obtain⟨b,qs,hb,rfl,HG,HQ,HBW⟩:=hrel
  by_cases hbp:b<p
  ·generalize wr=wo at *
   go_wp2
   rw [hsh]
   go_loopw [7,8] (fun l x wr=>∃(i:Nat),i≤m∧x=.int .i64 i∧Hid (GrowC wr wo.heap.size l (bitsTo i b))∧Hid (Below wo.heap.size wo wr)) (fun _ x _=>m-(intOf x).toNat)
   case atStart=>exact⟨0,Nat.zero_le _,rfl,hide (World.ownsRow_nil _ _ _ _),hide (Below.refl _ _)⟩
   case round=>
    obtain⟨i,him,rfl,HC,HBI⟩:=hrel
    by_cases hil:i<m
    ·obtain⟨q,hq⟩:∃ q:Nat,b/2 ^ i=q:=⟨_,rfl⟩
     have hsr:(b:Int)/2 ^ i=(q:Int):=by
      rw [← hq,Int.natCast_ediv,Int.natCast_pow];rfl
     have han:=andOne q
     have HBS:=hide (zg9 i b)
     rw [hq] at HBS
     have hlen:=zen i b
     have HQ2:=hide hq
     clear hq
     by_cases hbit:q%2=1
     ·rw [if_pos hbit] at HBS
      have g1:(((q%2:Nat):Int)==1)=true:=by rw [beq_iff_eq];omega
      have hown:=HC.out
      have hbs:=HBI.out.size
      unfold GrowC at hown
      go_wp2_with (at_builtin;refine wpList_append_lies _ rfl _ _ 38 rfl wo.heap.size 3 i0 (.int .i64 0) 1 8 (by kernel_rfl) hi hz0 hz1 hz2 rfl (by decide) u7 (bitsTo i b).length ((bitsTo i b).map fun a=>Value.int .i64 ((a:Nat):Int)) rfl (hown.alloc _) ⟨wr.heap.size,0,none⟩ 1 1 [.int .i64 (i:Int)] rfl rfl (World.news_of_block (heap_alloc_new wr _)) (fun u hu=>by rw [List.mem_singleton] at hu;subst hu;rfl) (by decide) (by unfold maxLen;omega) (by omega) (by simp;omega) (wr.heap.size+1) (by simp) ?_)
      intro g cap' w5 hown5 hgrow5 hat5 hlt5
      have HN:Hid (GrowC w5 wo.heap.size (.slice (some ⟨g,0,none⟩) ((bitsTo i b).length+1) cap') (bitsTo (i+1) b)):=by
       show GrowC _ _ _ _
       unfold GrowC
       rw [HBS.out,List.length_append,List.length_singleton,List.map_append]
       exact hown5
      have HB5:=hide (HBI.out.trans (zaa HC.out HBI.out.size hgrow5))
      clear hown hown5 hgrow5 hat5 hlt5 HC HBI HBS g1 han hsr
      go_wp2
      go_roundw
      case rel=>exact⟨i+1,by omega,by go_num,HN,HB5⟩
      case measure=>simp [intOf];omega
     ·rw [if_neg hbit,List.append_nil] at HBS
      have g1:(((q%2:Nat):Int)==1)=false:=by rw [beq_eq_false_iff_ne];omega
      have HN:Hid (GrowC wr wo.heap.size u7 (bitsTo (i+1) b)):=by
       show GrowC _ _ _ _
       rw [HBS.out];exact HC.out
      clear HC HBS
      go_wp2
      go_roundw
      case rel=>exact⟨i+1,by omega,by go_num,HN,HBI⟩
      case measure=>simp [intOf];omega
    ·obtain rfl:i=m:=by omega
     have HRC:Hid (RowC wr u7 (bitsL i b)):=HC.out.row
     have HCS:=hide (zhp k i b)
     have HGX:=hide (HG.out.later HBI.out)
     have HBX:=hide (HBW.out.trans (HBI.out.mono HBW.out.size))
     have HQL:Hid (qs.length≤16):=by
      have h:=congrArg List.length HQ.out
      rw [List.length_map] at h
      have:=zc9 k i b
      show _≤_
      omega
     obtain⟨so,sc,e,-⟩:=id HRC.out
     subst e
     have hll:(bitsL i b).length≤4:=Nat.le_trans (zen i b) hm
     generalize hL:bitsL i b=bl at *
     by_cases hlk:bl.length=k
     ·rw [if_pos hlk] at HCS
      subst hlk
      have hown:=HGX.out.1
      have hbs:=HBX.out.size
      go_wp2_with (at_builtin;refine wpList_append_lies _ rfl _ _ 51 rfl w.heap.size 38 j0 (.slice none 0 0) 1 24 (by kernel_rfl) hj hy0 hy1 hy2 rfl (by decide) u5 qs.length (qs.map (·.1)) rfl (hown.alloc _) ⟨wr.heap.size,0,none⟩ 1 1 [.slice so bl.length sc] rfl rfl (World.news_of_block (heap_alloc_new wr _)) (fun u hu=>by rw [List.mem_singleton] at hu;subst hu;rfl) (by decide) (by unfold maxLen;have:=HQL.out;omega) (by have:=HQL.out;omega) (by simp;omega) (wr.heap.size+1) (by simp) ?_)
      intro g cap' w5 hown5 hgrow5 hat5 hlt5
      have HN:=hide (ziJ HGX.out HRC.out hown5 hgrow5)
      have HB5:=hide (HBX.out.trans (zaa hown HBX.out.size hgrow5))
      have HQ5:Hid ((qs++[(Value.slice so bl.length sc,bl)]).map (·.2)=choTo bl.length i (b+1)):=by
       show _=_
       rw [List.map_append,HQ.out,HCS.out];rfl
      clear hown hown5 hgrow5 hat5 hlt5 HGX HRC HBX HQ HCS HC
      go_wp2
      go_roundw
      case rel=>exact⟨b+1,_,by omega,by go_num,HN,HQ5,HB5⟩
      case measure=>simp [intOf];omega
     ·rw [if_neg hlk,List.append_nil] at HCS
      have g1:((bl.length:Int) ==(k:Int))=false:=by rw [beq_eq_false_iff_ne];omega
      have HQ5:Hid (qs.map (·.2)=choTo k i (b+1)):=by
       show _=_
       rw [HQ.out,HCS.out]
      clear HQ HCS HRC
      go_wp2
      go_roundw
      case rel=>exact⟨b+1,_,by omega,by go_num,HGX,HQ5,HBX⟩
      case measure=>simp [intOf];omega
  ·obtain rfl:b=p:=by omega
   have HM:Hid (MatC2 wr u5 (chooseL k m)):=by
    have h:=HG.out.mat
    rw [HQ.out,← HP.out] at h
    exact h
   go_wp2
   go_ret
   exact⟨_,rfl,HM.out,HBW.out⟩
structure GcdOf (l:List Int)(g:Int):Prop where
 pos:0≤g
 into:∀ y∈l,g∣y
 great:∀ x,(∀ y∈l,x∣y)→x∣g
theorem GcdOf.nil:GcdOf [] 0:=⟨Int.le_refl 0,fun _ h=>(by cases h),fun x _=>Int.dvd_zero x⟩
theorem GcdOf.snoc{l:List Int}{d k y:Int}(h:GcdOf l g)(h0:0≤k)(e:k=x*g+y*d)(h1:k∣g)(h2:k∣d):GcdOf (l++[d]) k where
 pos:=h0
 into:=fun z hz=>by
  rcases List.mem_append.1 hz with hz | hz
  ·exact Int.dvd_trans h1 (h.into z hz)
  ·rw [List.mem_singleton.1 hz];exact h2
 great:=fun q hq=>by
  obtain⟨a,ha⟩:=h.great q fun z hz=>hq z (List.mem_append_left _ hz)
  obtain⟨b,hb⟩:=hq d (List.mem_append_right _ (List.mem_singleton.2 rfl))
  exact⟨x*a+y*b,by rw [e,ha,hb,Int.mul_add];congr 1 <;> ac_rfl⟩
def detsTo (ms:List (List Int))(k:Nat)(rows cols:List (List Nat))(i j:Nat):List Int:=
 (rows.take i).flatMap (fun r=>cols.map fun c=>det k (ent (subL ms k r c))) ++(cols.take j).map fun c=>det k (ent (subL ms k (rows.getD i []) c))
theorem zhX (ms:List (List Int))(k:Nat)(rows cols:List (List Nat))(i j:Nat)(hj:j<cols.length):detsTo ms k rows cols i (j+1)=detsTo ms k rows cols i j++[det k (ent (subL ms k (rows.getD i []) (cols.getD j [])))]:=by
 unfold detsTo
 rw [List.take_succ_eq_append_getElem hj,List.map_append,← List.append_assoc,getD_eq hj]
 rfl
where
 getD_eq {l:List (List Nat)} {j:Nat} (h:j<l.length):l.getD j []=l[j]:=by rw [List.getD_eq_getElem?_getD,List.getElem?_eq_getElem h];rfl
theorem zhW (ms:List (List Int))(k:Nat)(rows cols:List (List Nat))(i:Nat)(hi:i<rows.length):detsTo ms k rows cols (i+1) 0=detsTo ms k rows cols i cols.length:=by
 unfold detsTo
 rw [List.take_succ_eq_append_getElem hi,List.flatMap_append,List.take_zero,List.map_nil,List.append_nil,List.take_length]
 congr 1
 have e:rows.getD i []=rows[i]:=by rw [List.getD_eq_getElem?_getD,List.getElem?_eq_getElem hi];rfl
 rw [e,List.flatMap_singleton]
theorem ziB {ms:List (List Int)}(hm:m<5)(hn:n<5)(hk:k<5)(h:GcdOf (detsTo ms k (chooseL k m) (chooseL k n) (chooseL k m).length 0) g)(x:Int):x∣g↔Dv k m n (ent ms) x:=by
 have hmem:∀ y,y∈detsTo ms k (chooseL k m) (chooseL k n) (chooseL k m).length 0↔∃ r∈chooseL k m,∃ c∈chooseL k n,det k (ent (subL ms k r c))=y:=fun y=>by
  unfold detsTo
  rw [List.take_length,List.take_zero,List.map_nil,List.append_nil,List.mem_flatMap]
  simp only [List.mem_map]
 constructor
 ·exact fun hx=>zh9 hm hn hk fun r hr c hc=>Int.dvd_trans hx (h.into _ ((hmem _).2 ⟨r,hr,c,hc,rfl⟩))
 ·intro hd
  refine h.great x fun y hy=>?_
  obtain⟨r,hr,c,hc,rfl⟩:=(hmem y).1 hy
  exact zhq hm hn hk hd r hr c hc
structure RefSm (ms:List (List Int))(m n:Nat)(ds:List Int):Prop where
 le:ds.length≤m∧ds.length≤n
 pos:∀ i,i<ds.length→0<ds.getD i 0
 prod:∀ k,k≤ds.length→∀ x,x∣prodN k (fun i=>ds.getD i 0)↔Dv k m n (ent ms) x
theorem RefSm.one {ms:List (List Int)}{ys:List Int}(h:RefSm ms m n ds)(hend:ds.length=m∨ds.length=n∨Dv (ds.length+1) m n (ent ms) 0)(py:∀ i,i<ys.length→0<ys.getD i 0)(cy:∀ i j,i<j→j<ys.length→∃ p,ys.getD j 0=p*ys.getD i 0)(hy:ys.length≤m∧ys.length≤n)
  (hd:∀ k g,Dv k m n (ent ms) g↔Dv k ys.length ys.length (dgM fun i=>ys.getD i 0) g):ds=ys:=by
 have self:∀ k,k≤ys.length→∀ x,Dv k ys.length ys.length (dgM fun i=>ys.getD i 0) x→x∣prodN k (fun i=>ys.getD i 0):=fun k hk x hx=>by
  have h1:=hx (fun i=>i) (fun i=>i) (fun i hi=>by show i<ys.length;omega) fun i hi=>by show i<ys.length;omega
  have h2:det k (fun a b=>dgM (fun i=>ys.getD i 0) a b)=prodN k (fun i=>ys.getD i 0):=zeH k _
  rwa [h2] at h1
 have hl:ds.length=ys.length:=by
  rcases Nat.lt_trichotomy ds.length ys.length with q | q | q
  ·exfalso
   have hz:Dv (ds.length+1) m n (ent ms) 0:=by rcases hend with e | e | e <;> first | exact e |(exfalso;omega)
   have h1:=Int.zero_dvd.1 (self (ds.length+1) (by omega) 0 ((hd _ _).1 hz))
   have h2:=zad (ds.length+1) (fun i=>ys.getD i 0) fun i hi=>py i (by omega)
   omega
  ·exact q
  ·exfalso
   have h1:=Int.zero_dvd.1 ((h.prod (ys.length+1) (by omega) 0).2 ((hd _ _).2 (zdj _ _ _)))
   have h2:=zad (ys.length+1) (fun i=>ds.getD i 0) fun i hi=>h.pos i (by omega)
   omega
 refine zat hl fun i hi=>zkd (y:=fun i=>ds.getD i 0) (z:=fun i=>ys.getD i 0) h.pos (fun k hk=>?_) i hi
 refine Int.dvd_antisymm ?_ ?_ (self k (by omega) _ ((hd k _).1 ((h.prod k hk _).1 (Int.dvd_refl _)))) ((h.prod k hk _).2 ((hd k _).2 (zia cy k (by omega))))
 ·have:=zad k (fun i=>ds.getD i 0) fun j hj=>h.pos j (by omega);omega
 ·have:=zad k (fun i=>ys.getD i 0) fun j hj=>py j (by omega);omega
theorem RefSm.snoc {ms:List (List Int)}{q last:Int}(h:RefSm ms m n ds)(hlast:last=prodN ds.length (fun i=>ds.getD i 0))(hk:ds.length+1≤m∧ds.length+1≤n)(hg0:0<g)(hg:∀ x,x∣g↔Dv (ds.length+1) m n (ent ms) x)(hq:g=q*last):RefSm ms m n (ds++[q])∧g=prodN (ds++[q]).length (fun i=>(ds++[q]).getD i 0):=by
 have hl:(ds++[q]).length=ds.length+1:=by rw [List.length_append,List.length_singleton]
 have old:∀ i,i<ds.length→(ds++[q]).getD i 0=ds.getD i 0:=fun i hi=>by
  rw [List.getD_eq_getElem?_getD,List.getElem?_append_left hi,← List.getD_eq_getElem?_getD]
 have new:(ds++[q]).getD ds.length 0=q:=by
  rw [List.getD_eq_getElem?_getD,List.getElem?_append_right zL,Nat.sub_self];rfl
 have pr:∀ k,k≤ds.length→prodN k (fun i=>(ds++[q]).getD i 0)=prodN k (fun i=>ds.getD i 0):=fun k hk=>zbe fun i hi=>old i (by omega)
 have e:prodN (ds.length+1) (fun i=>(ds++[q]).getD i 0)=g:=by
  rw [prodN,pr _ zL,new,hq,hlast,Int.mul_comm]
 have hl1:=zad ds.length (fun i=>ds.getD i 0) fun i hi=>h.pos i hi
 have hq0:0<q:=by
  rcases Int.lt_or_le 0 q with h1 | h1
  ·exact h1
  ·have:=Int.mul_nonpos_of_nonpos_of_nonneg h1 (show 0≤last by omega)
   omega
 refine⟨⟨by rw [hl];exact hk,fun i hi=>?_,fun k hk' x=>?_⟩,by rw [hl];exact e.symm⟩
 ·rw [hl] at hi
  by_cases hc:i<ds.length
  ·rw [old i hc];exact h.pos i hc
  ·obtain rfl:i=ds.length:=by omega
   rw [new];exact hq0
 ·rw [hl] at hk'
  by_cases hc:k≤ds.length
  ·rw [pr k hc];exact h.prod k hc x
  ·obtain rfl:k=ds.length+1:=by omega
   rw [e];exact hg x
theorem RefSm.nil (ms:List (List Int))(m n:Nat):RefSm ms m n []:=⟨⟨Nat.zero_le _,Nat.zero_le _⟩,fun i hi=>absurd hi (Nat.not_lt_zero i),fun k hk x=>by
 obtain rfl:k=0:=Nat.le_zero.1 hk
 exact⟨fun hx f c _ _=>hx,fun hd=>hd (fun _=>0) (fun _=>0) (fun i hi=>absurd hi (Nat.not_lt_zero i)) fun i hi=>absurd hi (Nat.not_lt_zero i)⟩⟩
theorem RefSm.goes {ms:List (List Int)}(h:RefSm ms m n ds)(hg:∀ x,x∣g↔Dv (ds.length+1) m n (ent ms) x):prodN ds.length (fun i=>ds.getD i 0)∣g:=by
 rw [hg]
 have h1:=(h.prod ds.length zL _).1 (Int.dvd_refl _)
 intro f c hf hc
 rw [det]
 refine zdm _ _ fun j hj=>?_
 obtain⟨x,hx⟩:=h1 f (fun b=>c (sk j b)) (fun i hi=>hf i (by omega)) fun i hi=>hc _ (by unfold sk;split <;> omega)
 rw [hx]
 exact⟨sgnN (ds.length+j)*ent ms (f ds.length) (c j)*x,by ac_rfl⟩
namespace TR
variable {w W:World}{L:Array Bool}{c:Nat→Value}{G:Nat→Nat}
def FA3P (n:Nat)(PL:Nat→World→Value→Prop)(CALL:World→Value→Prop)(C i:Nat)(c:Nat→Value)(W:World)(G:Nat→Nat):Prop:=
 if i<n then PL i W (c i) else F3 n CALL C (i-n) c W G
theorem FA3P.keep{PL:Nat→World→Value→Prop}{CALL:World→Value→Prop}{C:Nat}(hpl:∀(i t:Nat) (W W':World) (G G':Nat→Nat) (v:Value),Moved t W G W' G'→PL i W v→PL i W' v)(hst:∀(t:Nat) (W W':World) (G G':Nat→Nat) (v:Value),Moved t W G W' G'→CALL W v→CALL W' v)
  (i j:Nat) (c:Nat→Value) (v:Value) (W W':World) (G G':Nat→Nat) (hne:j≠i) (hm:i ∉ D3 n j) (hv:Moved i W G W' G') (hf:FA3P n PL CALL C j c W G):FA3P n PL CALL C j (upd c i v) W' G':=by
 unfold FA3P at *
 by_cases hj:j<n
 ·rw [if_pos hj] at hf ⊢
  rw [ze _ _ hne];exact hpl _ _ _ _ _ _ _ hv hf
 ·have h1:=FA3.keep (ks:=[]) hst i j c v W W' G G' hne hm hv (show FA3 n [] CALL C j c W G by unfold FA3;rw [if_neg hj] at hf ⊢;exact hf)
  unfold FA3 at h1
  rw [if_neg hj] at h1 ⊢
  exact h1
theorem Tags.fin3P{PL:Nat→World→Value→Prop}{CALL:World→Value→Prop}(h:Tags (D3 n) (FA3P n PL CALL w.heap.size) w L c W G)(hall:∀ i,i<n+11→L.getD i false=true):
  ∃(r1 r2 r3:Rm) (B1 B2 B3:Nat),CALL W (.tuple #[r1.v,r2.v,r3.v])∧c (n+5)=ptr B1∧c (n+6)=ptr B2∧c (n+7)=ptr B3 ∧
   w.heap.size≤B1∧w.heap.size≤B2∧w.heap.size≤B3∧B1<W.heap.size∧B2<W.heap.size∧B3<W.heap.size∧B1≠B2∧B1≠B3∧B2≠B3 ∧
   BoxR W B1 (.int .i64 r1.s) (.slice r1.o r1.l r1.c)∧BoxR W B2 (.int .i64 r2.s) (.slice r2.o r2.l r2.c)∧BoxR W B3 (.int .i64 r3.s) (.slice r3.o r3.l r3.c)∧Below w.heap.size w W:=by
 refine Tags.fin3 (ks:=(List.range n).map c) ⟨h.below,h.high,fun i hi=>?_,h.closed⟩ hall
 have h1:=h.facts i hi
 unfold FA3P at h1
 unfold FA3
 by_cases hc:i<n
 ·rw [if_pos hc,List.getD_eq_getElem?_getD,List.getElem?_map,List.getElem?_range hc];rfl
 ·rw [if_neg hc] at h1 ⊢;exact h1
end TR
def BoxL (W:World)(B:Nat)(u0 u1:Value):Prop:=Box W B u0 u1∧B<W.heap.size
theorem BoxL.later{u0 u1:Value}(h:BoxL W B u0 u1)(hb:Below W.heap.size W W'):BoxL W' B u0 u1:=⟨h.1.later hb h.2,zT h.2 hb.size⟩
theorem BoxL.new (W:World)(u0 u1:Value)(t:TypeId):BoxL (W.alloc (.cells #[u0,u1] t)) W.heap.size u0 u1:=⟨zj W u0 u1 t _ rfl,by simp⟩
theorem zR (W:World)(ob:Obj):Below W.heap.size W (W.alloc ob):=(Below.refl _ _).alloc zL _
end Go.Proofs.YtdedolkgcdlmeaaGreatDoor
