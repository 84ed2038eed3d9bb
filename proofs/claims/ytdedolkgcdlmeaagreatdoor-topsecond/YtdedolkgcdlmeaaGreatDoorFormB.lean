import Derived.Test.YtdedolkgcdlmeaaGreatDoorVecG
import Derived.Test.YtdedolkgcdlmeaaGreatDoorGcdA
import Derived.Test.YtdedolkgcdlmeaaGreatDoorOf
import Derived.Test.YtdedolkgcdlmeaaGreatDoorOnes
import Derived.Test.YtdedolkgcdlmeaaGreatDoorHermite
namespace Go.Proofs.YtdedolkgcdlmeaaGreatDoor
open Go.RowKit Limbs
def overOne (ys:List Int):List Int:=ys.filter fun y=>decide (1 < y)
theorem zj9 (ys:List Int)(k:Nat)(hk:k < ys.length):overOne (ys.take (k+1))=overOne (ys.take k) ++ if 1 < ys.getD k 0 then [ys.getD k 0] else []:=by
 unfold overOne
 rw [List.take_succ_eq_append_getElem hk,List.filter_append,List.getD_eq_getElem?_getD,List.getElem?_eq_getElem hk,Option.getD_some]
 by_cases h:1 < ys[k]
 ·rw [if_pos h,List.filter_cons_of_pos (by simpa using h)];rfl
 ·rw [if_neg h,List.filter_cons_of_neg (by simpa using h)];rfl
set_option linter.unusedSimpArgs false in
set_option maxRecDepth 100000 in
set_option maxHeartbeats 3200000 in
theorem zha (w:World)(v:Value)(ys:List Int)(M:Nat)(hv:VecN w v ys M)(hl:ys.length≤100):
  Calls Tryz.prog 86 #[v] w fun e w'=>∃ u,e=.returned u∧VecN w' u (overOne ys) M∧(∀ a l c,u=.slice (some a) l c→w.heap.size≤a.block)∧Below w.heap.size w w':=by
 obtain⟨i0,hi,hz0,hz1,hz2⟩:=info_parts Tryz.infoNum
 have HV:=hide hv
 obtain⟨ao,acap,rfl,-,-⟩:=hv
 go_enter Tryz.func86,Tryz.ntmps86
 go_wp2_with fail
 refine(zaD w 1 (by decide) (by decide)).mono ?_
 rintro e w1 ⟨vo,rfl,no,hb1⟩
 obtain⟨⟨on,oo,ol,oc⟩,rfl⟩:=no.nm
 have NO:Hid (NumL (w1.alloc (.cells #[.bool on,.slice oo ol oc] 29)) (.agg #[.bool on,.slice oo ol oc]) 1 2):=no.below ((Below.refl _ _).alloc zL _) zL
 have HB0:=hide (hb1.trans (((Below.refl w1.heap.size w1).alloc zL (.cells #[.bool on,.slice oo ol oc] 29)).mono hb1.size))
 have HX0:Hid (Box (w1.alloc (.cells #[.bool on,.slice oo ol oc] 29)) w1.heap.size (.bool on) (.slice oo ol oc)):=zj w1 _ _ _ _ rfl
 have HLT:Hid (w1.heap.size < (w1.alloc (.cells #[.bool on,.slice oo ol oc] 29)).heap.size):=by show _ < _;simp
 clear no hb1
 go_wp2
 generalize hW0:w1.alloc (.cells #[.bool on,.slice oo ol oc] 29)=W0 at *
 clear hW0
 go_loopw [4,9] (fun out x wr=>∃(k:Nat) (ps:List (Nm × Int)),k≤ys.length∧x=.int .i64 k∧Hid (Grow wr W0.heap.size out ps M)∧Hid (ps.map (·.2)=overOne (ys.take k))∧Hid (ps.length≤k)∧Hid (Below W0.heap.size W0 wr)) (fun _ x _=>ys.length - (intOf x).toNat)
 case atStart=>exact⟨0,[],Nat.zero_le _,rfl,hide (Grow.nil _ _ _),hide rfl,hide zL,hide (Below.refl _ _)⟩
 case round=>
  obtain⟨k,ps,hk,rfl,HG,HP,HPL,HE⟩:=hrel
  by_cases hkl:k < ys.length
  ·obtain⟨b,off,_,e⟩:=HV.out.form (by omega)
   simp only [Value.slice.injEq,true_and] at e
   obtain⟨rfl,rfl⟩:=e
   obtain⟨lb,yn,yo,yl,yc,y0,y1,ny⟩:=HV.out.at k hkl
   have HSN:=hide (zj9 ys k hkl)
   have hbw:Below w.heap.size w wr:=HB0.out.trans (HE.out.mono HB0.out.size)
   have NY0:Hid (NumL w (Nm.val ⟨yn,yo,yl,yc⟩) (ys.getD k 0) M):=ny
   have NY:=hide (ny.below hbw zL)
   have NO1:=hide (NO.out.below HE.out zL)
   have c0:=(hbw.cell (p:=⟨b,off+k * 2,none⟩) lb).trans y0
   have c1:=(hbw.cell (p:=⟨b,off+k * 2+1,none⟩) lb).trans y1
   obtain⟨c2,c3,-,-⟩:=HX0.out.later HE.out HLT.out
   have lb2:=zT lb hbw.size
   have lo2:=zT HLT.out HE.out.size
   have hws:=HB0.out.size
   have hes:=HE.out.size
   clear ny y0 y1 hbw
   generalize ys.getD k 0=y at *
   go_wp2_with fail
   refine zt (S:=(fun w'=>w'.cell? ⟨b,off+k * 2,none⟩=some (.bool yn)∧w'.cell? ⟨b,off+k * 2+1,none⟩=some (.slice yo yl yc)∧w'.cell? ⟨w1.heap.size,0,none⟩=some (.bool on)∧w'.cell? ⟨w1.heap.size,1,none⟩=some (.slice oo ol oc))) (k:=7) (by kernel_rfl) (by exact⟨c0,c1,c2,c3⟩) (fun hHeld=>?_)
   refine zn (v:=?_) 0 12 [] rfl rfl (by kernel_rfl) (by kernel_rfl) (by kernel_rfl) (by kernel_rfl) (by kernel_rfl) (fun _ _ _ h=>h) (by rfl) ?_ (by assumption) ?_
   rotate_left
   ·(intro w hSw;(try dsimp only at hSw);obtain⟨hS1,hS2,hS3,hS4⟩:=hSw;go_simp;with_reducible rfl)
   try simp only [zA]
   refine zn (v:=?_) 1 13 [] rfl rfl (by kernel_rfl) (by kernel_rfl) (by kernel_rfl) (by kernel_rfl) (by kernel_rfl) (fun _ _ _ h=>h) (by rfl) ?_ (by assumption) ?_
   rotate_left
   ·(intro w hSw;(try dsimp only at hSw);obtain⟨hS1,hS2,hS3,hS4⟩:=hSw;go_simp;with_reducible rfl)
   try simp only [zA]
   refine zn (v:=?_) 2 14 [] rfl rfl (by kernel_rfl) (by kernel_rfl) (by kernel_rfl) (by kernel_rfl) (by kernel_rfl) (fun _ _ _ h=>h) (by rfl) ?_ (by assumption) ?_
   rotate_left
   ·(intro w hSw;(try dsimp only at hSw);obtain⟨hS1,hS2,hS3,hS4⟩:=hSw;go_simp;with_reducible rfl)
   try simp only [zA]
   refine zn (v:=?_) 3 15 [] rfl rfl (by kernel_rfl) (by kernel_rfl) (by kernel_rfl) (by kernel_rfl) (by kernel_rfl) (fun _ _ _ h=>h) (by rfl) ?_ (by assumption) ?_
   rotate_left
   ·(intro w hSw;(try dsimp only at hSw);obtain⟨hS1,hS2,hS3,hS4⟩:=hSw;go_simp;with_reducible rfl)
   try simp only [zA]
   refine zn (v:=?_) 4 16 [] rfl rfl (by kernel_rfl) (by kernel_rfl) (by kernel_rfl) (by kernel_rfl) (by kernel_rfl) (fun _ _ _ h=>h) (by rfl) ?_ (by assumption) ?_
   rotate_left
   ·(intro w hSw;(try dsimp only at hSw);obtain⟨hS1,hS2,hS3,hS4⟩:=hSw;go_simp;with_reducible rfl)
   try simp only [zA]
   refine zf 5 (by kernel_rfl) rfl (fun K hK=>?_)
   go_simp
   refine(zdf wr.drew _ _ y 1 M 2 (by exact NY.out.below (Below.refl wr.heap.size wr).drew zL) (by exact NO1.out.below (Below.refl wr.heap.size wr).drew zL)).mono ?_
   rintro e w2 ⟨rfl,hb2⟩
   have hb2':Below wr.heap.size wr w2:=(Below.refl _ _).drew.trans hb2
   have d0:=(hb2'.cell (p:=⟨b,off+k * 2,none⟩) lb2).trans c0
   have d1:=(hb2'.cell (p:=⟨b,off+k * 2+1,none⟩) lb2).trans c1
   have d2:=(hb2'.cell (p:=⟨w1.heap.size,0,none⟩) lo2).trans c2
   have d3:=(hb2'.cell (p:=⟨w1.heap.size,1,none⟩) lo2).trans c3
   have HG2:=hide (HG.out.later hb2')
   have HE2:=hide (HE.out.trans (hb2'.mono HE.out.size))
   clear hb2 hb2' c0 c1 c2 c3 NY NO1 HG
   go_wp2_with fail
   refine hK.out _ _ (fun _=>⟨d0,d1,d2,d3⟩) ?_
   clear hK K hHeld
   try simp only [zA]
   have hHeld2:(fun w'=>w'.cell? ⟨b,off+k * 2,none⟩=some (.bool yn)∧w'.cell? ⟨b,off+k * 2+1,none⟩=some (.slice yo yl yc)∧w'.cell? ⟨w1.heap.size,0,none⟩=some (.bool on)∧w'.cell? ⟨w1.heap.size,1,none⟩=some (.slice oo ol oc)) w2:=⟨d0,d1,d2,d3⟩
   refine zn (v:=?_) 6 18 [] rfl rfl (by kernel_rfl) (by kernel_rfl) (by kernel_rfl) (by kernel_rfl) (by kernel_rfl) (fun _ _ _ h=>h) (by rfl) ?_ (by assumption) ?_
   rotate_left
   ·(intro w hSw;(try dsimp only at hSw);obtain⟨hS1,hS2,hS3,hS4⟩:=hSw;go_simp;with_reducible rfl)
   try simp only [zA]
   refine zq (by kernel_rfl) ?_
   clear hHeld2 d2 d3
   by_cases hy:1 < y
   ·have hc:cmpI y 1=1:=by unfold cmpI;rw [if_neg (by omega),if_pos hy]
    rw [hc]
    have HP':Hid ((ps ++ [((⟨yn,yo,yl,yc⟩:Nm),y)]).map (·.2)=overOne (ys.take (k+1))):=by
     show _=_
     rw [HSN.out,if_pos hy,List.map_append,HP.out];rfl
    have HPL':Hid ((ps ++ [((⟨yn,yo,yl,yc⟩:Nm),y)]).length≤k+1):=by
     have:=HPL.out
     show _≤_
     rw [List.length_append,List.length_singleton];omega
    have HAP:Hid (apart u4.ownBlock (Nm.sl ⟨yn,yo,yl,yc⟩)):=fun a l c e h0 hb=>by
     have h1:=NY0.out.inside a l c e h0
     have h2:=(HG2.out.1.lt a.block hb.symm).1
     omega
    have NY2:Hid (NumL w2 (Nm.val ⟨yn,yo,yl,yc⟩) y M):=NY0.out.below (HB0.out.trans (HE2.out.mono HB0.out.size)) zL
    have hown:=HG2.out.1
    have hbs:=HE2.out.size
    clear hc hy
    go_wp2_with (at_builtin;refine wpList_append_lies _ rfl _ _ 46 rfl W0.heap.size 29 i0 (.agg #[.bool false,.slice none 0 0]) 2 32 (by kernel_rfl) hi hz0 hz1 hz2 rfl (by decide) u4 ps.length (ps.flatMap ncells) rfl (hown.alloc _) ⟨w2.heap.size,0,none⟩ 1 1 [.bool yn,.slice yo yl yc] rfl rfl (World.news_of_block (heap_alloc_new w2 _)) (fun u hu=>by simp only [List.mem_cons,List.mem_nil_iff,or_false] at hu;rcases hu with rfl | rfl <;> rfl) (by decide) (by unfold maxLen;have:=HPL.out;omega) (by have:=HPL.out;omega) (by simp;omega) (w2.heap.size+1) (by simp) ?_)
    intro g cap' w5 hown5 hgrow5 hat5 hlt5
    have HN:=hide (zi4 HG2.out NY2.out HAP.out hown5 hgrow5 hat5)
    have HE5:=hide (HE2.out.trans (zi2 HG2.out HE2.out.size hgrow5))
    clear hown hown5 hgrow5 hat5 hlt5 HG2 NY2 HE2 HAP d0 d1
    go_wp2
    go_roundw
    case rel=>exact⟨k+1,_,by omega,by go_num,HN,HP',HPL',HE5⟩
    case measure=>simp [intOf];omega
   ·have hc : cmpI y 1 ≤ 0 := by unfold cmpI; repeat' split
                                 all_goals omega
    have HP':Hid (ps.map (·.2)=overOne (ys.take (k+1))):=by
     show _=_
     rw [HSN.out,if_neg hy,List.append_nil];exact HP.out
    have HPL':Hid (ps.length≤k+1):=Nat.le_succ_of_le HPL.out
    generalize hcc:cmpI y 1=cc at *
    have g1:decide (0 < cc)=false:=decide_eq_false (by omega)
    have g2:¬(0 < cc):=by omega
    clear hcc hy
    go_wp2
    go_roundw
    case rel=>exact⟨k+1,_,by omega,by go_num,HG2,HP',HPL',HE2⟩
    case measure=>simp [intOf];omega
  ·obtain rfl:k=ys.length:=by omega
   have HF:Hid (VecN wr u4 (overOne ys) M):=by
    have:=HG.out.vec
    rw [HP.out,List.take_length] at this
    exact this
   have HBF:=hide (HB0.out.trans (HE.out.mono HB0.out.size))
   have HFR:Hid (∀ a l c,u4=.slice (some a) l c→w.heap.size≤a.block):=fun a l c e=>by
    have h1:=HB0.out.size
    rcases HG.out.1.2 with⟨e1,-⟩ |⟨g,cap,cur,e1,hb,-⟩
    ·rw [e1] at e;cases e
    ·rw [e1] at e
     simp only [Value.slice.injEq,Option.some.injEq] at e
     rw [← e.1]
     show w.heap.size≤g
     omega
   clear HG HP
   go_wp2
   go_ret
   exact⟨_,rfl,HF.out,HFR.out,HBF.out⟩
def oneM (m n:Nat)(A:Nat→Nat→Int):Nat→Nat→Int:=fun i j=>if i=m then (if j=n then 1 else 0) else if j=n then 0 else A i j
theorem zfA {k m i:Nat}{f:Nat→Nat}(hf:∀ i,i < k→f i < m)(_:i < k+1):(if i < k then f i else m) < m+1:=by
 split
 ·have:=hf i (by assumption);omega
 ·omega
section
variable {k m n:Nat}{A:Nat→Nat→Int}{g:Int}
theorem ziv (h:Dv (k+1) (m+1) (n+1) (oneM m n A) g):Dv k m n A g:=fun f c hf hc=>by
 have h1:=h (fun i=>if i < k then f i else m) (fun i=>if i < k then c i else n) (fun i hi=>zfA hf hi) (fun i hi=>zfA hc hi)
 rw [det,zF (k+1) k (by omega)] at h1
 ·have e1:oneM m n A (if k < k then f k else m) (if k < k then c k else n)=1:=by
   rw [if_neg (Nat.lt_irrefl k),if_neg (Nat.lt_irrefl k)];unfold oneM;rw [if_pos rfl,if_pos rfl]
  have e2:sgnN (k+k)=1:=by unfold sgnN;rw [if_pos (by omega)]
  have e3:det k (fun a b=>oneM m n A (if a < k then f a else m) (if sk k b < k then c (sk k b) else n))=det k (fun a b=>A (f a) (c b)):=zm fun a b ha hb=>by
   rw [if_pos ha,zR hb,if_pos hb]
   have h2:=hf a ha;have h3:=hc b hb
   unfold oneM
   rw [if_neg (by omega),if_neg (by omega)]
  rw [e1,e2,e3,Int.one_mul,Int.one_mul] at h1
  exact h1
 ·intro j hj hne
  have h3:=hc j (by omega)
  have e:oneM m n A (if k < k then f k else m) (if j < k then c j else n)=0:=by
   rw [if_neg (Nat.lt_irrefl k),if_pos (by omega)];unfold oneM;rw [if_pos rfl,if_neg (by omega)]
  rw [e,Int.mul_zero,Int.zero_mul]
theorem ziu (h:Dv k m n A g):Dv (k+1) (m+1) (n+1) (oneM m n A) g:=by
 have c1:∀ f c:Nat→Nat,(∀ i,i < k→f i < m)→(∀ i,i < k→c i < n+1)→g ∣ det k (fun a b=>oneM m n A (f a) (c b)):=fun f c hf hc=>by
  by_cases hex:∃ b,b < k∧c b=n
  ·obtain⟨b,hb,e⟩:=hex
   rw [zaU k _ b hb fun a ha=>by
    have:=hf a ha
    unfold oneM
    rw [if_neg (by omega),if_pos e]]
   exact Int.dvd_zero g
  ·rw [zm (M':=fun a b=>A (f a) (c b)) fun a b ha hb=>by
    have h1:=hf a ha
    have h2:c b≠n:=fun e=>hex ⟨b,hb,e⟩
    unfold oneM
    rw [if_neg (by omega),if_neg h2]]
   exact h f c hf fun i hi=>by
    have h1:=hc i hi
    have h2:c i≠n:=fun e=>hex ⟨i,hi,e⟩
    omega
 have main:∀ f c:Nat→Nat,(∀ i,i < k→f i < m)→(∀ i,i < k+1→c i < n+1)→g ∣ det (k+1) (fun a b=>oneM m n A (f a) (c b)):=fun f c hf hc=>by
  rw [det]
  refine zdm (k+1) _ fun j hj=>?_
  obtain⟨x,hx⟩:=c1 f (fun b=>c (sk j b)) hf fun i hi=>hc _ (by unfold sk;split <;> omega)
  rw [hx]
  exact⟨sgnN (k+j) * oneM m n A (f k) (c j) * x,by ac_rfl⟩
 intro f c hf hc
 by_cases hex:∃ a,a < k∧f a=m
 ·obtain⟨a,ha,e⟩:=hex
  by_cases htwo:∃ b,b < k+1∧b≠a∧f b=m
  ·obtain⟨b,hb,hne,e2⟩:=htwo
   have hz:det (k+1) (fun a b=>oneM m n A (f a) (c b))=0:=by
    rcases Nat.lt_or_gt_of_ne hne with hl | hl
    ·exact zam (k+1) _ b a hl (by omega) fun q=>by rw [e,e2]
    ·exact zam (k+1) _ a b hl hb fun q=>by rw [e,e2]
   rw [hz]
   exact Int.dvd_zero g
  ·have h1:=main (fun i=>f (sw a k i)) c (fun i hi=>by
    show f (sw a k i) < m
    have hne:f (sw a k i)≠m:=fun e3=>htwo ⟨sw a k i,by unfold sw;split <;>(try split) <;> omega,by unfold sw;split <;>(try split) <;> omega,e3⟩
    have:=hf (sw a k i) (by unfold sw;split <;>(try split) <;> omega)
    omega) hc
   have h2:det (k+1) (fun i b=>oneM m n A (f (sw a k i)) (c b))=- det (k+1) (fun i b=>oneM m n A (f i) (c b)):=by
    rw [← zcr (k+1) _ a k ha (by omega)]
    exact zm fun i b _ _=>by rw [zgQ]
   rw [h2] at h1
   exact Int.dvd_neg.1 h1
 ·exact main f c (fun i hi=>by
   have h1:=hf i (by omega)
   have h2:f i≠m:=fun e=>hex ⟨i,hi,e⟩
   omega) hc
end
def bl (b a:Nat)(A:Nat→Nat→Int):Nat→Nat→Int:=fun i j=>if i < b then (if j < a then A i j else 0) else if j < a then 0 else if i - b=j - a then 1 else 0
theorem ze1 (k b a:Nat)(A:Nat→Nat→Int)(g:Int):∀ c,Dv (k+c) (b+c) (a+c) (bl b a A) g↔Dv k b a A g:=fun c=>by
 induction c with
 | zero=>
  have e:∀ i j,i < b→j < a→bl b a A i j=A i j:=fun i j hi hj=>by unfold bl;rw [if_pos hi,if_pos hj]
  exact⟨fun h=>h.congr fun i j hi hj=>(e i j hi hj).symm,fun h=>h.congr e⟩
 | succ c ih=>
  have e:∀ i j,i < b+c+1→j < a+c+1→bl b a A i j=oneM (b+c) (a+c) (bl b a A) i j:=fun i j hi hj=>by
   unfold oneM
   by_cases h1:i=b+c
   ·rw [if_pos h1]
    unfold bl
    rw [if_neg (by omega)]
    by_cases h2:j=a+c
    ·rw [if_pos h2,if_neg (by omega),if_pos (by omega)]
    ·rw [if_neg h2]
     split
     ·rfl
     ·rw [if_neg (by omega)]
   ·rw [if_neg h1]
    by_cases h2:j=a+c
    ·rw [if_pos h2]
     unfold bl
     split
     ·rw [if_neg (by omega)]
     ·rw [if_neg (by omega),if_neg (by omega)]
    ·rw [if_neg h2]
  rw [← ih]
  exact⟨fun h=>ziv (h.congr fun i j hi hj=>(e i j hi hj).symm),fun h=>(ziu h).congr e⟩
def catN (a:Nat)(v u:Nat→Int):Nat→Int:=fun j=>if j < a then v j else u (j - a)
theorem zd2 (a:Nat)(f:Nat→Int):∀ c,sumN (a+c) f=sumN a f+sumN c (fun l=>f (a+l)):=fun c=>by
 induction c with
 | zero=>rw [sumN,Int.add_zero];rfl
 | succ c ih=>rw [sumN,← Int.add_assoc,← ih];rfl
theorem zcf (c q:Nat)(hq:q < c)(u:Nat→Int):sumN c (fun l=>u l *(if l=q then 1 else 0))=u q:=by
 rw [zF c q hq _ fun i _ hne=>by rw [if_neg hne,Int.mul_zero],if_pos rfl,Int.mul_one]
theorem zfr {b a c:Nat}{A:Nat→Nat→Int}{v u:Nat→Int}(hv:Lat b a A v):Lat (b+c) (a+c) (bl b a A) (catN a v u):=by
 obtain⟨κ,hκ⟩:=hv
 refine⟨catN b κ u,fun j hj=>?_⟩
 rw [zd2]
 by_cases h:j < a
 ·have e1:sumN c (fun l=>catN b κ u (b+l) * bl b a A (b+l) j)=0:=by
   rw [← zX c]
   exact zg fun l _=>by unfold bl;rw [if_neg (by omega),if_pos h,Int.mul_zero]
  rw [e1,Int.add_zero]
  unfold catN
  rw [if_pos h,hκ j h]
  exact zg fun k hk=>by rw [if_pos hk];unfold bl;rw [if_pos hk,if_pos h]
 ·have e1:sumN b (fun k=>catN b κ u k * bl b a A k j)=0:=by
   rw [← zX b]
   exact zg fun k hk=>by unfold bl;rw [if_pos hk,if_neg h,Int.mul_zero]
  rw [e1,Int.zero_add]
  have e2:sumN c (fun l=>catN b κ u (b+l) * bl b a A (b+l) j)=sumN c (fun l=>u l *(if l=j - a then 1 else 0)):=zg fun l _=>by
   unfold catN bl
   rw [if_neg (by omega),if_neg (by omega),if_neg h,Nat.add_sub_cancel_left]
  rw [e2,zcf c (j - a) (by omega)]
  unfold catN
  rw [if_neg h]
theorem Dv.map {k m n m' n':Nat}{A B R:Nat→Nat→Int}{g:Int}(h:Dv k m n A g)(e:∀ i,i < m'→∃ v,Lat m n A v∧∀ j,j < n'→B i j=sumN n (fun l=>v l * R l j)):Dv k m' n' B g:=by
 obtain⟨V,hV⟩:∃ V:Nat→Nat→Int,∀ i,i < m'→Lat m n A (V i)∧∀ j,j < n'→B i j=sumN n (fun l=>V i l * R l j):=
  ⟨fun i=>if hi:i < m' then Classical.choose (e i hi) else fun _=>0,fun i hi=>by dsimp only;rw [dif_pos hi];exact Classical.choose_spec (e i hi)⟩
 obtain⟨C,hC⟩:=zJ (r:=m') (n:=n) (mm:=m) (H:=V) (M:=A) fun i hi=>(hV i hi).1
 exact(h.left (B:=V) (T:=C) fun x y hx hy=>hC x y hx hy).right (V:=R) fun x y hx hy=>(hV x hx).2 y hy
def RM (a c:Nat)(T P:Nat→Nat→Int):Nat→Nat→Int:=fun l j=>if l < a then (if j < c then - T l j else if l=j - c then 1 else 0) else if j < c then (if l - a=j then 1 else 0) - sumN a (fun q=>P (l - a) q * T q j) else P (l - a) (j - c)
theorem zgj (a c:Nat)(T P:Nat→Nat→Int)(v u:Nat→Int)(j:Nat)(hj:j < c+a):
  sumN (a+c) (fun l=>catN a v u l * RM a c T P l j)=catN c (fun l=>u l - sumN a (fun q=>(v q+sumN c (fun m=>u m * P m q)) * T q l)) (fun q=>v q+sumN c (fun m=>u m * P m q)) j:=by
 rw [zd2]
 by_cases h:j < c
 ·have e1:sumN a (fun l=>catN a v u l * RM a c T P l j)=- sumN a (fun q=>v q * T q j):=by
   rw [← zap]
   exact zg fun l hl=>by unfold catN RM;rw [if_pos hl,if_pos hl,if_pos h,Int.mul_neg]
  have e2:sumN c (fun l=>catN a v u (a+l) * RM a c T P (a+l) j)=u j+- sumN a (fun q=>sumN c (fun m=>u m * P m q) * T q j):=by
   have e3:sumN c (fun l=>catN a v u (a+l) * RM a c T P (a+l) j)=sumN c (fun l=>u l *(if l=j then 1 else 0)+- (u l * sumN a (fun q=>P l q * T q j))):=zg fun l _=>by
    unfold catN RM
    rw [if_neg (by omega),if_neg (by omega),if_pos h,Nat.add_sub_cancel_left,Int.mul_sub,Int.sub_eq_add_neg]
   rw [e3,zai,zcf c j h,zap]
   congr 2
   have e4:sumN c (fun l=>u l * sumN a (fun q=>P l q * T q j))=sumN c (fun l=>sumN a (fun q=>u l *(P l q * T q j))):=zg fun l _=>(zC a (u l) _).symm
   rw [e4,zaG]
   refine zg fun q _=>?_
   rw [Int.mul_comm,← zC]
   exact zg fun l _=>by ac_rfl
  rw [e1,e2]
  unfold catN
  rw [if_pos h]
  have e5:sumN a (fun q=>(v q+sumN c (fun m=>u m * P m q)) * T q j)=sumN a (fun q=>v q * T q j)+sumN a (fun q=>sumN c (fun m=>u m * P m q) * T q j):=by
   rw [← zai]
   exact zg fun q _=>Int.add_mul ..
  dsimp only
  rw [e5]
  omega
 ·have e1:sumN a (fun l=>catN a v u l * RM a c T P l j)=v (j - c):=by
   have e3:sumN a (fun l=>catN a v u l * RM a c T P l j)=sumN a (fun l=>v l *(if l=j - c then 1 else 0)):=zg fun l hl=>by unfold catN RM;rw [if_pos hl,if_pos hl,if_neg h]
   rw [e3,zcf a (j - c) (by omega)]
  have e2:sumN c (fun l=>catN a v u (a+l) * RM a c T P (a+l) j)=sumN c (fun m=>u m * P m (j - c)):=zg fun l _=>by
   unfold catN RM
   rw [if_neg (by omega),if_neg (by omega),if_neg h,Nat.add_sub_cancel_left]
  rw [e1,e2]
  unfold catN
  rw [if_neg h]
theorem zeA (b a c:Nat)(A:Nat→Nat→Int)(i:Nat):∃ v u:Nat→Int,Lat b a A v∧∀ j,j < a+c→bl b a A i j=catN a v u j:=by
 by_cases h:i < b
 ·refine⟨A i,fun _=>0,Lat.row b a A i h,fun j _=>?_⟩
  unfold bl catN
  rw [if_pos h]
 ·refine⟨fun _=>0,fun q=>if i - b=q then 1 else 0,⟨fun _=>0,fun q _=>?_⟩,fun j _=>?_⟩
  ·have e:sumN b (fun k=>(0:Int) * A k q)=0:=by
    have e2:sumN b (fun k=>(0:Int) * A k q)=sumN b (fun _=>0):=zg fun k _=>Int.zero_mul _
    rw [e2];exact zX b
   exact e.symm
  ·unfold bl catN
   rw [if_neg h]
theorem zeE {a c:Nat}{v v' u u':Nat→Int}(hv:∀ q,q < a→v q=v' q)(hu:∀ q,q < c→u q=u' q){j:Nat}(hj:j < a+c):catN a v u j=catN a v' u' j:=by
 unfold catN
 split
 ·exact hv j (by assumption)
 ·exact hu _ (by omega)
section
variable {a b c d:Nat}{A1 A2 P T:Nat→Nat→Int}
theorem zjr {C:Nat→Nat→Int}{X:Nat→Nat→Int}(hX:∀ i q,i < c→q < a→X i q=sumN b (fun k=>C i k * A1 k q))(x:Nat→Int):Lat b a A1 (fun q=>sumN c (fun i=>x i * X i q)):=by
 refine⟨fun k=>sumN c (fun i=>x i * C i k),fun q hq=>?_⟩
 have e1:sumN c (fun i=>x i * X i q)=sumN c (fun i=>sumN b (fun k=>x i *(C i k * A1 k q))):=zg fun i hi=>by rw [hX i q hi hq,zC]
 dsimp only
 rw [e1,zaG]
 refine zg fun k _=>?_
 rw [Int.mul_comm,← zC]
 exact zg fun i _=>by ac_rfl
theorem zfs (hT:∀ i,i < a→Lat b a A1 (fun q=>(if q=i then 1 else 0) - sumN c (fun l=>T i l * P l q)))(x:Nat→Int):Lat b a A1 (fun q=>x q - sumN c (fun l=>sumN a (fun i=>x i * T i l) * P l q)):=by
 obtain⟨C,hC⟩:=zJ (r:=a) (n:=a) (mm:=b) (H:=fun i q=>(if q=i then 1 else 0) - sumN c (fun l=>T i l * P l q)) (M:=A1) hT
 obtain⟨κ,hκ⟩:=zjr (c:=a) hC x
 refine⟨κ,fun q hq=>?_⟩
 rw [← hκ q hq]
 have e1:sumN a (fun i=>x i *((if q=i then 1 else 0) - sumN c (fun l=>T i l * P l q)))=sumN a (fun i=>x i *(if i=q then 1 else 0)+- (x i * sumN c (fun l=>T i l * P l q))):=zg fun i _=>by
  rw [Int.mul_sub,Int.sub_eq_add_neg]
  congr 2
  by_cases h:q=i
  ·rw [if_pos h,if_pos h.symm]
  ·rw [if_neg h,if_neg (Ne.symm h)]
 dsimp only
 rw [e1,zai,zcf a q hq,zap,Int.sub_eq_add_neg]
 congr 2
 have e2:sumN a (fun i=>x i * sumN c (fun l=>T i l * P l q))=sumN a (fun i=>sumN c (fun l=>x i *(T i l * P l q))):=zg fun i _=>(zC c (x i) _).symm
 rw [e2,zaG]
 refine zg fun l _=>?_
 rw [Int.mul_comm,← zC]
 exact zg fun i _=>by ac_rfl
theorem Lat.congr {m n:Nat}{M:Nat→Nat→Int}{u v:Nat→Int}(h:Lat m n M u)(e:∀ b,b < n→v b=u b):Lat m n M v:=by
 obtain⟨κ,hκ⟩:=h
 exact⟨κ,fun b hb=>(e b hb).trans (hκ b hb)⟩
theorem zk5 (x y:Nat→Int)(q:Nat):sumN c (fun l=>(x l+y l) * P l q)=sumN c (fun l=>x l * P l q)+sumN c (fun l=>y l * P l q):=by
 rw [← zai]
 exact zg fun l _=>Int.add_mul ..
theorem zk7 (x y:Nat→Int)(q:Nat):sumN c (fun l=>(x l - y l) * P l q)=sumN c (fun l=>x l * P l q) - sumN c (fun l=>y l * P l q):=by
 rw [Int.sub_eq_add_neg,← zap,← zai]
 exact zg fun l _=>by rw [Int.sub_mul,Int.sub_eq_add_neg]
theorem zkG (hT:∀ i,i < a→Lat b a A1 (fun q=>(if q=i then 1 else 0) - sumN c (fun l=>T i l * P l q)))(h2:∀ u,Lat d c A2 u↔Lat b a A1 (fun q=>sumN c (fun l=>u l * P l q))){k1 k2:Nat}(hk:k1+c=k2+a)(g:Int):Dv k1 b a A1 g↔Dv k2 d c A2 g:=by
 rw [← ze1 k1 b a A1 g c,← ze1 k2 d c A2 g a,← hk]
 constructor
 ·intro h
  refine h.map (R:=RM a c T P) fun i _=>?_
  obtain⟨u',v',hu',hrow⟩:=zeA d c a A2 i
  refine⟨catN a (fun q=>v' q - sumN c (fun l=>(u' l+sumN a (fun i=>v' i * T i l)) * P l q)) (fun l=>u' l+sumN a (fun i=>v' i * T i l)),zfr ?_,fun j hj=>?_⟩
  ·have h1:=(zfs hT v').comb ((h2 u').1 hu') 1 (-1)
   refine h1.congr fun q _=>?_
   rw [zk5 u' (fun l=>sumN a (fun i=>v' i * T i l)) q]
   omega
  ·rw [hrow j hj,zgj a c T P _ _ j hj]
   refine zeE (fun q hq=>?_) (fun q hq=>?_) hj
   ·have e:sumN a (fun i=>(v' i - sumN c (fun l=>(u' l+sumN a (fun i=>v' i * T i l)) * P l i)+sumN c (fun m=>(u' m+sumN a (fun i=>v' i * T i m)) * P m i)) * T i q)=sumN a (fun i=>v' i * T i q):=zg fun i _=>by congr 1;omega
    rw [e]
    omega
   ·omega
 ·intro h
  rw [hk] at h ⊢
  refine h.map (R:=RM c a P T) fun i _=>?_
  obtain⟨v,u,hv,hrow⟩:=zeA b a c A1 i
  refine⟨catN c (fun l=>u l - sumN a (fun q=>(v q+sumN c (fun m=>u m * P m q)) * T q l)) (fun q=>v q+sumN c (fun m=>u m * P m q)),zfr ((h2 _).2 ?_),fun j hj=>?_⟩
  ·have h1:=(zfs hT (fun q=>v q+sumN c (fun m=>u m * P m q))).comb hv 1 (-1)
   refine h1.congr fun q _=>?_
   rw [zk7 u (fun l=>sumN a (fun q=>(v q+sumN c (fun m=>u m * P m q)) * T q l)) q]
   omega
  ·rw [hrow j hj,zgj c a P T _ _ j hj]
   refine zeE (fun q hq=>?_) (fun q hq=>?_) hj
   ·have e:sumN c (fun m=>(u m - sumN a (fun q=>(v q+sumN c (fun m=>u m * P m q)) * T q m)+sumN a (fun q=>(v q+sumN c (fun m=>u m * P m q)) * T q m)) * P m q)=sumN c (fun m=>u m * P m q):=zg fun m _=>by congr 1;omega
    rw [e]
    omega
   ·omega
end
theorem ze5 {k r n:Nat}(A:Nat→Nat→Int)(h:r < k):Dv k r n A 0:=fun f c hf _=>by
 obtain⟨i,l,h1,h2,h3⟩:=pigeon r f fun i hi=>hf i (by omega)
 rw [zam k _ i l h1 (by omega) fun b=>by rw [h3]]
 exact Int.dvd_refl 0
theorem zgh {a b c d:Nat}{y z:Nat→Int}(pz:∀ i,i < d→0 < z i)(h:∀ k1 k2 g,k1+c=k2+a→Dv k1 b b (dgM y) g→Dv k2 d d (dgM z) g):a+d≤b+c:=by
 rcases Nat.lt_or_ge (b+c) (a+d) with hl | hl
 ·exfalso
  have key:∀ k2,k2≤d→Dv k2 d d (dgM z) 0→False:=fun k2 hk hd=>by
   have h1:=hd (fun i=>i) (fun i=>i) (fun i hi=>by show i < d;omega) fun i hi=>by show i < d;omega
   have h2:det k2 (fun a b=>dgM z a b)=prodN k2 z:=zdh k2 z
   rw [h2] at h1
   have h3:=Int.zero_dvd.1 h1
   have h4:=zaE k2 z fun i hi=>pz i (by omega)
   omega
  by_cases hs:a≤b+1+c
  ·exact key (b+1+c - a) (by omega) (h (b+1) (b+1+c - a) 0 (by omega) (ze5 _ (by omega)))
  ·exact key 0 (Nat.zero_le _) (h (a - c) 0 0 (by omega) (ze5 _ (by omega)))
 ·exact hl
theorem zkb (m:Nat)(ys:List Int):overOne (List.replicate m 1 ++ ys)=overOne ys:=by
 unfold overOne
 rw [List.filter_append]
 have e:(List.replicate m (1:Int)).filter (fun y=>decide (1 < y))=[]:=by
  rw [List.filter_eq_nil_iff]
  intro x hx
  rw [(List.mem_replicate.1 hx).2]
  decide
 rw [e,List.nil_append]
theorem zf2 {ys zs:List Int}(py:∀ i,i < ys.length→0 < ys.getD i 0)(pz:∀ i,i < zs.length→0 < zs.getD i 0)(hl:zs.length≤ys.length)(h:∀ i,i≤zs.length→prodN (ys.length - zs.length+i) (fun i=>ys.getD i 0)=prodN i (fun i=>zs.getD i 0)):overOne ys=overOne zs:=by
 have e:ys=List.replicate (ys.length - zs.length) 1 ++ zs:=by
  refine zy (by rw [List.length_append,List.length_replicate];omega) fun i hi=>?_
  by_cases hc:i < ys.length - zs.length
  ·have h1:=h 0 (Nat.zero_le _)
   have h2:=zcL (ys.length - zs.length) (fun i=>ys.getD i 0) (fun j hj=>py j (by omega)) i hc
   have h3:=py i hi
   rw [Nat.add_zero] at h1
   have h4:prodN 0 (fun i=>zs.getD i 0)=1:=rfl
   have e1:(List.replicate (ys.length - zs.length) (1:Int) ++ zs).getD i 0=1:=by
    rw [List.getD_eq_getElem?_getD,List.getElem?_append_left (by rw [List.length_replicate];exact hc),List.getElem?_replicate,if_pos hc];rfl
   rw [e1]
   omega
  ·obtain⟨q,hq⟩:∃ q,i=ys.length - zs.length+q:=⟨i - (ys.length - zs.length),by omega⟩
   have h1:=h q (by omega);have h2:=h (q+1) (by omega)
   rw [← Nat.add_assoc,prodN,prodN,h1,← hq] at h2
   have h3:=zaE q (fun i=>zs.getD i 0) fun j hj=>pz j (by omega)
   have h4:=Int.eq_of_mul_eq_mul_left (by omega) h2
   have e1:(List.replicate (ys.length - zs.length) (1:Int) ++ zs).getD i 0=zs.getD q 0:=by
    rw [List.getD_eq_getElem?_getD,List.getElem?_append_right (by rw [List.length_replicate];omega),List.length_replicate,← List.getD_eq_getElem?_getD]
    congr 1
    omega
   rw [e1]
   exact h4
 rw [e,zkb]
theorem zkI {a c:Nat}{ys zs:List Int}(py:∀ i,i < ys.length→0 < ys.getD i 0)(pz:∀ i,i < zs.length→0 < zs.getD i 0)(cy:∀ i j,i < j→j < ys.length→∃ p,ys.getD j 0=p * ys.getD i 0)(cz:∀ i j,i < j→j < zs.length→∃ p,zs.getD j 0=p * zs.getD i 0)
  (h:∀ k1 k2 g,k1+c=k2+a→(Dv k1 ys.length ys.length (dgM fun i=>ys.getD i 0) g↔Dv k2 zs.length zs.length (dgM fun i=>zs.getD i 0) g)):a+zs.length=ys.length+c∧overOne ys=overOne zs:=by
 have h1:=zgh pz fun k1 k2 g hk hd=>(h k1 k2 g hk).1 hd
 have h2:=zgh py fun k1 k2 g hk hd=>(h k2 k1 g hk.symm).2 hd
 have hr:a+zs.length=ys.length+c:=by omega
 refine⟨hr,?_⟩
 have same:∀ k1 k2,k1+c=k2+a→k1≤ys.length→k2≤zs.length→prodN k1 (fun i=>ys.getD i 0)=prodN k2 (fun i=>zs.getD i 0):=fun k1 k2 hk hk1 hk2=>by
  have q1:=(h k1 k2 _ hk).1 (ze3 cy k1 hk1) (fun i=>i) (fun i=>i) (fun i hi=>by show i < zs.length;omega) fun i hi=>by show i < zs.length;omega
  have q2:=(h k1 k2 _ hk).2 (ze3 cz k2 hk2) (fun i=>i) (fun i=>i) (fun i hi=>by show i < ys.length;omega) fun i hi=>by show i < ys.length;omega
  have e1:det k2 (fun a b=>dgM (fun i=>zs.getD i 0) a b)=prodN k2 (fun i=>zs.getD i 0):=zdh k2 _
  have e2:det k1 (fun a b=>dgM (fun i=>ys.getD i 0) a b)=prodN k1 (fun i=>ys.getD i 0):=zdh k1 _
  rw [e1] at q1
  rw [e2] at q2
  refine Int.dvd_antisymm ?_ ?_ q1 q2
  ·have:=zaE k1 (fun i=>ys.getD i 0) fun j hj=>py j (by omega);omega
  ·have:=zaE k2 (fun i=>zs.getD i 0) fun j hj=>pz j (by omega);omega
 rcases Nat.le_total zs.length ys.length with hl | hl
 ·exact zf2 py pz hl fun i hi=>same _ _ (by omega) (by omega) hi
 ·exact(zf2 pz py hl fun i hi=>(same _ _ (by omega) hi (by omega)).symm).symm
theorem FormL.short {n:Nat}{hs:List (List Int)}{p:Nat→Nat}(h:FormL n hs p):hs.length≤n:=by
 have hrm:∀ k,k < hs.length→k≤p k:=fun k=>by
  induction k with
  | zero=>exact fun _=>Nat.zero_le _
  | succ k ih=>intro hk;have:=ih (by omega);have:=h.form.inc k (k+1) (by omega) hk;omega
 by_cases h0:hs.length=0
 ·omega
 ·have:=hrm (hs.length - 1) (by omega);have:=h.form.lt (hs.length - 1) (by omega);omega
theorem ziN {n nv:Nat}{hs l:List (List Int)}{p:Nat→Nat}(h:FormL n hs p)(ha:Alikes n (InL hs) (InL l))(hl:∀ us∈l,us.length=n)(hb:∀ us∈l,∀ j,j < n→ab (us.getD j 0) < bp nv)(hn:n≤16):
  ∀ r∈hs,∀ j,j < r.length→ab (r.getD j 0) < bp (n * nv+2):=by
 obtain⟨C,hC⟩:=zJ (r:=hs.length) (n:=n) (mm:=l.length) (H:=fun k b=>(hs.getD k []).getD b 0) (M:=fun k b=>(l.getD k []).getD b 0) (fun a haa=>zx ((ha _).1 (.base (zr haa) (h.len _ (zr haa)))))
 obtain⟨T,hT⟩:=zJ (r:=l.length) (n:=n) (mm:=hs.length) (H:=fun k b=>(l.getD k []).getD b 0) (M:=fun k b=>(hs.getD k []).getD b 0) (fun a haa=>zx ((ha _).2 (.base (zr haa) (hl _ (zr haa)))))
 intro r hr j hj
 obtain⟨k,hk,e⟩:=List.getElem_of_mem hr
 have hlen:=h.len r hr
 have h1:=zfc hs.length l.length n _ _ C T p (bp nv) (by have:=zD nv;omega) h.form.lt (fun i k hi hki=>h.form.zero i (p k) hi (h.form.inc k i hki hi)) (fun i hi=>h.form.pos i hi) (fun i k hi hk hik=>⟨(h.form.red i k hik hk).1,Int.le_of_lt (h.form.red i k hik hk).2⟩) hC hT (fun a b ha hb'=>Int.le_of_lt (hb _ (zr ha) b hb')) k j hk (by omega)
 have h2:=zdo (v:=nv) h.short hn
 rw [zp hk,e] at h1
 exact Int.lt_of_le_of_lt h1 h2
theorem MatN.tight {w:World}{v:Value}{zss:List (List Int)}{n m:Nat}(h:MatN w v zss n)(hz:∀ zs∈zss,∀ j,j < zs.length→ab (zs.getD j 0) < bp m):MatN w v zss m:=by
 obtain⟨ao,cap,hv,h1,h2⟩:=h
 refine⟨ao,cap,hv,h1,fun h0=>?_⟩
 obtain⟨b,off,e,hlt,hc⟩:=h2 h0
 refine⟨b,off,e,hlt,fun i zs hi=>?_⟩
 obtain⟨u,cu,hu⟩:=hc i zs hi
 exact⟨u,cu,hu.tight (hz zs (List.mem_of_getElem? hi))⟩
theorem MatN.abs {w:World}{v:Value}{ms:List (List Int)}{nv:Nat}(h:MatN w v ms nv):∀ us∈ms,∀ j,j < us.length→ab (us.getD j 0) < bp nv:=fun us hus j hj=>by
 obtain⟨i,hi,e⟩:=List.getElem_of_mem hus
 obtain⟨b,off,cap',e1,hlt,u,hc,hu⟩:=h.at i hi
 rw [e] at hu
 obtain⟨b',off',cap2,e2⟩:=hu.form (by omega)
 subst e2
 obtain⟨-,neg,o,l,c,-,-,hz⟩:=hu.at j hj
 exact hz.ab_lt
end Go.Proofs.YtdedolkgcdlmeaaGreatDoor
