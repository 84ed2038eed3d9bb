import Derived.Test.YtnkcjkpkphjecaaGreatDoorOps2
import Derived.Deep.AppendLies
import Derived.OwnWalk
import Derived.Laws.MakeOwn
namespace Go.Proofs.YtnkcjkpkphjecaaGreatDoor
open Go.RowKit Limbs
theorem zcG (hi lo:Int)(h0:0≤hi)(h1:hi < 4294967296)(h2:0≤lo)(h3:lo < 4294967296):bits BinOp.or IntKind.u64 (hi * 4294967296) lo=hi * 4294967296+lo:=by
 rw [u64_or _ _ (by omega) (by omega) (by omega) (by omega),nat_join 32 _ _ (by omega) (by omega)]
 omega
theorem zcO (hi lo:Int)(h0:0≤hi)(h1:hi < 4294967296)(h2:0≤lo)(h3:lo < 4294967296):0≤hi * 4294967296+lo∧hi * 4294967296+lo < 18446744073709551616:=by omega
theorem zf3 {hi lo y:Int}(h0:0≤hi)(h1:hi < y)(h2:0≤lo)(h3:lo < 4294967296):0≤(hi * 4294967296+lo) / y∧(hi * 4294967296+lo) / y < 4294967296:=by
 have hy:0 < y:=by omega
 refine⟨Int.ediv_nonneg (by omega) (by omega),?_⟩
 rw [Int.ediv_lt_iff_lt_mul hy]
 have:(hi+1) * 4294967296≤y * 4294967296:=Int.mul_le_mul_of_nonneg_right (by omega) (by decide)
 rw [Int.mul_comm 4294967296 y]
 omega
def Drawn (w w':World):Prop:=∃ nq,w'=w.drewN nq
set_option maxRecDepth 100000 in
set_option maxHeartbeats 400000 in
theorem div32 (hi lo y:Int)(w:World)(h0:0≤hi)(h1:hi < y)(h2:0≤lo)(h3:lo < 4294967296)(h4:y < 4294967296):
  Calls Tryz.prog 100 #[.int .u32 hi,.int .u32 lo,.int .u32 y] w fun e w'=>e=.returned (.tuple #[.int .u32 ((hi * 4294967296+lo) / y),.int .u32 ((hi * 4294967296+lo) % y)])∧Drawn w w':=by
 have hor:=zcG hi lo h0 (by omega) h2 h3
 have hsh:=zcO hi lo h0 (by omega) h2 h3
 have hq:=zf3 h0 h1 h2 h3
 have hr0:=Int.emod_nonneg (hi * 4294967296+lo) (show y≠0 by omega)
 have hr1:=Int.emod_lt_of_pos (hi * 4294967296+lo) (show 0 < y by omega)
 have hy1:(y != 0)=true:=by rw [bne_iff_ne];omega
 have hy2:decide (y≤hi)=false:=decide_eq_false (by omega)
 have hy3:(y == 0)=false:=by rw [beq_eq_false_iff_ne];omega
 go_enter Tryz.func100,Tryz.ntmps100
 go_wp2
 go_quiet (fail)
 go_wp2
 go_ret2
 exact⟨rfl,_,rfl⟩
theorem Row.drewN {w:World}{g:Nat}{zs:List Int}(h:Row w g zs)(n:Nat):Row (w.drewN n) g zs:=h
theorem zdz {w w':World}{r:Option Nat}(h:w.grownBy w' r)(n:Nat):w.grownBy (w'.drewN n) r:=⟨h.os,h.tape,h.output,h.size,h.block⟩
theorem zdA {w w':World}{g:Nat}(h:w.grownBy w' (some g))(k:Nat)(u:Value):w.grownBy (w'.setCell ⟨g,k,none⟩ u) (some g):=
 ⟨h.os,h.tape,h.output,by simpa using h.size,fun j hj hne=>by
  rw [heap_setCell_other _ _ _ _ (fun e=>hne (by simp [e]))]
  exact h.block j hj hne⟩
def DivInv (w wr:World)(g:Nat)(b:Int)(zs:List Int)(p:Nat)(r:Int)(qs:List Int):Prop:=
 qs.length=zs.length∧Row wr g qs∧w.grownBy wr (some g)∧qs.take p=zs.take p∧lv (zs.drop p)=b * lv (qs.drop p)+r
theorem DivInv.start {w:World}{g:Nat}{zs:List Int}(h:Row w g zs)(b:Int):DivInv w w g b zs zs.length 0 zs:=
 ⟨rfl,h,World.grownBy.refl _ _,rfl,by rw [List.drop_length];simp [lv]⟩
theorem ze2 {a b:List Int}{p i:Nat}(h:a.take p=b.take p)(hi:i < p):a.getD i 0=b.getD i 0:=by
 rw [← zaF a p i hi,h,zaF b p i hi]
theorem DivInv.step {w wr:World}{g:Nat}{b:Int}{zs:List Int}{p:Nat}{r:Int}{qs:List Int}(h:DivInv w wr g b zs (p+1) r qs)(hp:p < zs.length){q s:Int}(hq:0≤q∧q < 4294967296)(hs:r * 4294967296+zs.getD p 0=b * q+s)(nq:Nat):
  DivInv w ((wr.drewN nq).setCell ⟨g,p,none⟩ (.int .u32 q)) g b zs p s (qs.set p q):=by
 obtain⟨h1,h2,h3,h4,h5⟩:=h
 refine⟨by rw [List.length_set];exact h1,(h2.drewN nq).store (by omega) hq,zdA (zdz h3 nq) _ _,?_,?_⟩
 ·rw [zau _ _ _ _ zL]
  have:=congrArg (List.take p) h4
  rwa [List.take_take,List.take_take,Nat.min_eq_left (by omega)] at this
 ·rw [zz zs p hp,zz (qs.set p q) p (by rw [List.length_set];omega),zbE _ _ _ _ (Nat.lt_succ_self p),zJ _ _ _ _ (by omega),if_pos rfl]
  simp only [lv]
  rw [h5,Int.mul_add,Int.mul_add]
  have e:b *(4294967296 * lv (qs.drop (p+1)))=4294967296 *(b * lv (qs.drop (p+1))):=by rw [Int.mul_left_comm]
  rw [e]
  omega
def DivOnePost (w:World)(g:Nat)(b:Int)(zs:List Int)(e:Ending)(w':World):Prop:=
 ∃ r qs,e=.returned (.int .u32 r)∧0≤r∧r < b∧qs.length=zs.length∧Row w' g qs∧w.grownBy w' (some g)∧lv zs=b * lv qs+r
set_option maxRecDepth 100000 in
set_option maxHeartbeats 800000 in
theorem zeO (w:World)(g cap:Nat)(zs:List Int)(b:Int)(hr:Row w g zs)(hl:zs.length≤1000000)(hb0:0 < b)(hb1:b < 4294967296):
  Calls Tryz.prog 71 #[.slice (some ⟨g,0,none⟩) zs.length cap,.int .u32 b] w fun e w'=>DivOnePost w g b zs e w':=by
 have HR:=hide hr
 have hlb:=hr.2.1
 clear hr
 go_enter Tryz.func71,Tryz.ntmps71
 go_wp2
 go_loopw [5,10] (fun c i wr=>∃(k:Nat) (r:Int) (qs:List Int),k≤zs.length∧i=.int .i64 k∧c=.int .u32 r∧0≤r∧r < b∧DivInv w wr g b zs (zs.length - k) r qs) (fun _ i _=>zs.length - (intOf i).toNat)
 case atStart=>exact⟨0,0,zs,Nat.zero_le _,rfl,rfl,Int.le_refl _,hb0,DivInv.start HR.out b⟩
 case round=>
  obtain⟨k,r,qs,hk,rfl,rfl,hr0,hr1,hinv⟩:=hrel
  by_cases hlt:k < zs.length
  ·obtain⟨p,hp⟩:∃ p,p=zs.length - 1 - k:=⟨_,rfl⟩
   have hP:(zs.length:Int) - 1 - (k:Int)=(p:Int):=by omega
   have hpl:p < zs.length:=by omega
   rw [show zs.length - k=p+1 by omega] at hinv
   have hz:=hlb p
   obtain⟨hcell,hfr⟩:=hinv.2.1.2.2 p (by have:=hinv.1;omega)
   rw [ze2 hinv.2.2.2.1 (Nat.lt_succ_self p)] at hcell
   have hst:=fun q s hq hs nq=>hinv.step hpl (q:=q) (s:=s) hq hs nq
   have HK:=hide (show zs.length - (k+1)=p by omega)
   clear hp
   generalize zs.getD p 0=z at *
   go_wp2_with fail
   refine(div32 r z b _ hr0 hr1 hz.1 hz.2 hb1).mono ?_
   rintro e w' ⟨rfl,nq,rfl⟩
   have hq:=zf3 hr0 hr1 hz.1 hz.2
   have hm0:=Int.emod_nonneg (r * 4294967296+z) (show b≠0 by omega)
   have hm1:=Int.emod_lt_of_pos (r * 4294967296+z) hb0
   have HS:=hide (hst _ _ hq (Int.mul_ediv_add_emod (r * 4294967296+z) b).symm nq)
   clear hst
   generalize (r * 4294967296+z) / b=q at *
   generalize (r * 4294967296+z) % b=s at *
   go_wp2
   go_roundw
   case rel=>exact⟨k+1,s,_,by omega,by go_num,rfl,hm0,hm1,by rw [HK.out];exact HS.out⟩
   case measure=>simp [intOf];omega
  ·obtain rfl:k=zs.length:=by omega
   rw [Nat.sub_self] at hinv
   go_wp2
   go_ret
   exact⟨r,qs,rfl,hr0,hr1,hinv.1,hinv.2.1,hinv.2.2.1,by have:=hinv.2.2.2.2;simpa using this⟩
end Go.Proofs.YtnkcjkpkphjecaaGreatDoor
/- Groups of nine decimal digits. -/
namespace Go.Proofs.YtnkcjkpkphjecaaGreatDoor
open Go.RowKit Limbs
def gv:List Int→Int
 | []=>0
 | x :: xs=>x+1000000000 * gv xs
def gp:Nat→Int
 | 0=>1
 | n+1=>1000000000 * gp n
theorem zbh (n:Nat):0 < gp n:=by
 induction n with
 | zero=>simp [gp]
 | succ n ih=>simp only [gp];omega
theorem ze5 {m n:Nat}(h:m≤n):gp m≤gp n:=by
 induction n with
 | zero=>rw [Nat.le_zero.1 h];exact Int.le_refl _
 | succ n ih=>
  by_cases e:m=n+1
  ·rw [e];exact Int.le_refl _
  ·have:=ih (by omega);have:=zbh n;simp only [gp];omega
theorem ze9 (xs:List Int)(r:Int):gv (xs ++ [r])=gv xs+gp xs.length * r:=by
 induction xs with
 | nil=>simp [gv,gp]
 | cons x xs ih=>simp only [List.cons_append,gv,ih,List.length_cons,gp];rw [Int.mul_add,Int.mul_assoc];omega
theorem zhg (n:Nat):bp n≤gp (2 * n):=by
 induction n with
 | zero=>simp [bp,gp]
 | succ n ih=>rw [show 2 *(n+1)=2 * n+1+1 by omega];simp only [bp,gp];have:=zbh (2 * n);omega
theorem Row.take {w:World}{g:Nat}{zs:List Int}(h:Row w g zs)(n:Nat):Row w g (zs.take n):=by
 obtain⟨h1,h2,h3⟩:=h
 refine⟨h1,zcf h2 n,fun j hj=>?_⟩
 rw [List.length_take] at hj
 rw [zaF zs n j (by omega)]
 exact h3 j (by omega)
theorem Row.kept {w w':World}{g:Nat}{zs:List Int}{r:Option Nat}(h:Row w g zs)(hg:w.grownBy w' r)(hne:r≠some g):Row w' g zs:=by
 obtain⟨h1,h2,h3⟩:=h
 have hb:w'.heap[g]?=w.heap[g]?:=hg.block g h1 (fun e=>hne e.symm)
 exact⟨zT h1 hg.size,h2,fun j hj=>⟨(World.cell?_of_block (a:=⟨g,j,none⟩) hb).trans (h3 j hj).1,(World.frozen?_of_block (a:=⟨g,j,none⟩) hb).trans (h3 j hj).2⟩⟩
def GrpInv (w wr:World)(zs:List Int)(v:Value)(gs ys:List Int):Prop:=
 Row wr w.heap.size ys∧Nrm ys∧ys.length≤zs.length∧wr.ownsRow (w.heap.size+1) 3 1 v gs.length (gs.map (Value.int .i64))∧Below w.heap.size w wr ∧
  lv zs=gv gs+gp gs.length * lv ys∧(∀ g∈gs,0≤g∧g < 1000000000)∧(lv ys=0→gs.length=0∨gs.getD (gs.length - 1) 0≠0)∧lenOf v=gs.length∧w.heap.size < wr.heap.size∧0≤gv gs
theorem zdD {w:World}{base n:Nat}{e:TypeId}{v:Value}{xs:List Value}(h:w.ownsRow base e 1 v n xs):lenOf v=n:=by
 rcases h.2 with⟨rfl,h0⟩ |⟨g,cap,cur,rfl,_⟩
 ·simp [lenOf,h0]
 ·rfl
theorem GrpInv.few {w wr:World}{zs:List Int}{v:Value}{gs ys:List Int}(h:GrpInv w wr zs v gs ys)(hlb:LB zs)(hy:ys.length≠0):gs.length < 2 * zs.length:=by
 obtain⟨h1,h2,h3,h4,h5,h6,h7,h8,h9,h10,h11⟩:=h
 have e1:=zbP h1.2.1 h2 hy
 have e2:=zar hlb
 have e3:=zhg zs.length
 have e4:=zbh gs.length
 have e5:gp gs.length * 1≤gp gs.length * lv ys:=Int.mul_le_mul_of_nonneg_left (by omega) (by omega)
 by_cases hk:gs.length < 2 * zs.length
 ·exact hk
 ·have:=ze5 (m:=2 * zs.length) (n:=gs.length) (by omega)
  omega
theorem GrpInv.step {w wr w1 w2:World}{zs:List Int}{v v':Value}{gs ys qs:List Int}{r:Int}{m:Nat}(h:GrpInv w wr zs v gs ys)(hr0:0≤r)(hr1:r < 1000000000)
  (hq:qs.length=ys.length) (hrow:Row w1 w.heap.size qs) (hg1:wr.grownBy w1 (some w.heap.size)) (hlv:lv ys=1000000000 * lv qs+r) (hpos:lv ys≠0)
  (hown:w2.ownsRow (w.heap.size+1) 3 1 v' (gs.length+1) (gs.map (Value.int .i64) ++ [.int .i64 r])) (hg2:(w1.alloc (.cells #[.int .i64 r] 3)).grownBy w2 v.ownBlock)
  (hm:m≤qs.length) (hlm:lv (qs.take m)=lv qs) (hnm:Nrm (qs.take m)):GrpInv w w2 zs v' (gs ++ [r]) (qs.take m):=by
 obtain⟨h1,h2,h3,h4,h5,h6,h7,h8,h9,h10,h11⟩:=h
 have hne:v.ownBlock≠some w.heap.size:=fun e=>by have:=h4.lt _ e;omega
 have hbase:∀ k,v.ownBlock=some k→w.heap.size≤k:=fun k e=>by have:=h4.lt _ e;omega
 have b1:=h5.grown hg1 (by omega) (fun k hk=>by simp at hk;omega)
 have b2:=b1.alloc b1.size (.cells #[.int .i64 r] 3)
 have b3:=b2.grown hg2 (by simp;have:=b1.size;omega) hbase
 refine⟨((hrow.kept (World.grownBy_alloc w1 _ none) (by simp)).kept hg2 hne).take m,hnm,by rw [List.length_take];omega,?_,b3,?_,?_,?_,?_,?_,?_⟩
 ·rw [List.length_append,List.map_append];exact hown
 ·rw [ze9,List.length_append,hlm,h6,hlv]
  simp only [List.length_singleton,gp]
  rw [Int.mul_add]
  have e:gp gs.length *(1000000000 * lv qs)=1000000000 * gp gs.length * lv qs:=by rw [Int.mul_left_comm,Int.mul_assoc]
  rw [e]
  omega
 ·intro g hg
  rcases List.mem_append.1 hg with hg | hg
  ·exact h7 g hg
  ·rw [List.mem_singleton.1 hg];exact⟨hr0,hr1⟩
 ·intro h0
  right
  rw [hlm] at h0
  rw [List.length_append,List.length_singleton,Nat.add_sub_cancel,List.getD_eq_getElem?_getD,List.getElem?_append_right zL,Nat.sub_self]
  simp
  omega
 ·rw [zdD hown];simp
 ·have:=b1.size;have:=hg2.size;simp at this;have:=h10;have:=hg1.size;omega
 ·rw [ze9]
  have:=Int.mul_nonneg (show 0≤gp gs.length from by have:=zbh gs.length;omega) hr0
  omega
theorem zbt (w:World)(ao:Option Addr)(cap:Nat)(zs:List Int)(n:Nat)(hn:zs.length=n)(h:Lim w (.slice ao n cap) zs):
  Calls Tryz.prog 55 #[.slice ao n cap] w fun e w'=>TrimPost w ao cap zs e w':=by
 subst hn;exact zd6 w ao cap zs h
def GrpPost (w:World)(zs:List Int)(e:Ending)(w':World):Prop:=
 ∃ v gs,e=.returned v∧w'.ownsRow (w.heap.size+1) 3 1 v gs.length (gs.map (Value.int .i64))∧Below w.heap.size w w'∧lv zs=gv gs∧(∀ g∈gs,0≤g∧g < 1000000000)∧(gs.length=0∨gs.getD (gs.length - 1) 0≠0)∧gs.length≤2 * zs.length
theorem Tryz.infoInt:(Tryz.prog.info? 3).map (fun i=>(i.zero,i.size,i.bytes))=some (some (.int .i64 0),1,8):=by kernel_rfl
set_option maxRecDepth 100000 in
set_option maxHeartbeats 1000000 in
theorem zhS (w:World)(v:Value)(zs:List Int)(h:Lim w v zs)(hn:Nrm zs):
  Calls Tryz.prog 81 #[v] w fun e w'=>GrpPost w zs e w':=by
 have HL:=hide h
 obtain⟨ao,cap,rfl,hcap,hlen,hlb,hc⟩:=h
 clear hc
 obtain⟨i0,hi,hz0,hz1,hz2⟩:=info_parts Tryz.infoInt
 go_enter Tryz.func81,Tryz.ntmps81
 go_wp2_with fail
 refine(zbG _ _ zs HL.out).mono ?_
 rintro e w1 ⟨rfl,hr1,hb1⟩
 go_wp2
 go_loopw [3,4] (fun g t wr=>∃ gs ys:List Int,t=.slice (some ⟨w.heap.size,0,none⟩) ys.length zs.length∧gs.length≤2 * zs.length∧GrpInv w wr zs g gs ys) (fun g _ _=>2 * zs.length - lenOf g)
 case atStart=>exact⟨[],zs,rfl,Nat.zero_le _,hr1,hn,Nat.le_refl _,World.ownsRow_nil _ _ _ _,hb1,by simp [gv,gp],by simp,fun _=>.inl rfl,rfl,hr1.1,by simp [gv]⟩
 case round=>
  obtain⟨gs,ys,rfl,hgl,hinv⟩:=hrel
  by_cases hy:ys.length=0
  ·have HF:Hid (GrpPost w zs (.returned u3) wr):=by
    obtain⟨h1,h2,h3,h4,h5,h6,h7,h8,h9,h10,h11⟩:=hinv
    have e0:ys=[]:=List.eq_nil_of_length_eq_zero hy
    subst e0
    exact⟨_,gs,rfl,h4,h5,by simpa [lv] using h6,h7,h8 rfl,hgl⟩
   clear hinv
   go_wp2
   go_ret
   exact HF.out
  ·have hfew:=hinv.few hlb hy
   have hpos:=zbP hinv.1.2.1 hinv.2.1 hy
   have hyl:=hinv.2.2.1
   have hle9:=hinv.2.2.2.2.2.2.2.2.1
   have hown:=hinv.2.2.2.1
   have hwz:=hinv.2.2.2.2.2.2.2.2.2.1
   go_wp2_with fail
   refine(zeO wr w.heap.size zs.length ys 1000000000 hinv.1 (by omega) (by decide) (by decide)).mono ?_
   rintro e w2 ⟨r,qs,rfl,hr0,hr1',hql,hrow,hg1,hlv⟩
   have hst:=fun v' w3 m hown' hg2 hm hlm hnm=>hinv.step (v':=v') (w2:=w3) (m:=m) hr0 hr1' hql hrow hg1 hlv (by omega) hown' hg2 hm hlm hnm
   have HS:=hide hst
   have hown2:=hown.kept hg1 (.inr (fun e=>by have:=hown.lt _ e;omega))
   have hw2:=hg1.size
   have HR:=hide hrow
   clear hst hinv hrow hg1 hown
   have HLV:=hide hlv;clear hlv
   go_wp2_with (at_builtin;refine wpList_append_lies _ rfl _ _ 49 rfl (w.heap.size+1) 3 i0 (.int .i64 0) 1 8 Tryz.underlying49 hi hz0 hz1 hz2 rfl (by decide) u3 gs.length (gs.map (Value.int .i64)) rfl (hown2.alloc _) ⟨w2.heap.size,0,none⟩ 1 1 [.int .i64 r] rfl rfl ?c1 ?c2 (by decide) ?c3 ?c4 ?c5 (w2.heap.size+1) (by simp) ?_)
   case c1=>exact World.news_of_block (heap_alloc_new w2 _)
   case c2=>intro u hu;simp at hu;subst hu;rfl
   case c3=>unfold maxLen;omega
   case c4=>omega
   case c5=>simp;omega
   intro g cap' w3 hown3 hgrow3 hat3 hlt3
   have hRw3:Row w3 w.heap.size qs:=(HR.out.kept (World.grownBy_alloc w2 _ none) (by simp)).kept hgrow3 (fun e=>by have:=hown2.lt _ e;omega)
   clear hat3
   go_wp2_with fail
   refine(zbt w3 _ zs.length qs ys.length hql (hql ▸ hRw3.lim zs.length (by omega) (by omega))).mono ?_
   rintro e w4 ⟨m,hm,rfl,hlm,hnm,rfl⟩
   have HF:=hide (HS.out _ _ m hown3 hgrow3 hm hlm hnm)
   have hml:(qs.take m).length=m:=by rw [List.length_take];omega
   have hll:=zdD hown3
   clear hown3 hgrow3 hlm hnm HS hRw3 HR hown2
   go_wp2
   go_roundw
   case rel=>exact⟨gs ++ [r],qs.take m,by rw [hml],by rw [List.length_append,List.length_singleton];omega,HF.out⟩
   case measure=>
    show 2 * zs.length - (gs.length+1) < 2 * zs.length - lenOf u3
    omega
end Go.Proofs.YtnkcjkpkphjecaaGreatDoor
/- Rows that one more is put to. -/
namespace Go.Proofs.YtnkcjkpkphjecaaGreatDoor
open Go.RowKit Limbs
theorem zn {w:World}{b:Nat}{o:Obj}(h:w.heap[b]?=some o):b < w.heap.size:=by
 rcases Nat.lt_or_ge b w.heap.size with hlt | hge
 ·exact hlt
 ·rw [Array.getElem?_eq_none hge] at h;cases h
theorem zbz {wr w3:World}{B n:Nat}{t:TypeId}{v x:Value}{xs:List Value}(hown:wr.ownsRow B t 1 v n xs)(hB:B≤wr.heap.size)(hg:(wr.alloc (.cells #[x] t)).grownBy w3 v.ownBlock):Below B wr w3:=
 ((Below.refl _ _).alloc hB _).grown hg (by simp;omega) (fun k hk=>(hown.lt k hk).1)
theorem Lim.owns {w:World}{base n:Nat}{v:Value}{ls:List Int}(h:w.ownsRow base 91 1 v n (ls.map (Value.int .u32)))(hd:LB ls)(hl:ls.length≤1000000):Lim w v ls:=by
 have hn:n=ls.length:=by have:=h.1;rw [List.length_map] at this;omega
 subst hn
 rcases h.2 with⟨rfl,h0⟩ |⟨g,cap,cur,rfl,hb,hg,hc,hm,hs,ht⟩
 ·have:ls=[]:=List.eq_nil_of_length_eq_zero h0
  subst this
  exact⟨none,0,rfl,Nat.le_refl _,by simp,hd,fun h=>absurd h (by simp)⟩
 ·refine⟨_,cap,rfl,hc,hl,hd,fun h0=>⟨g,0,rfl,zn hg,fun i hi=>?_⟩⟩
  have:=h.cellAt i (by omega)
  rw [Nat.zero_add,this]
  simp [List.getD_eq_getElem?_getD,hi]
theorem zgO {ls:List Int}(h:LB ls){r:Int}(hr:0≤r∧r < 4294967296):LB (ls ++ [r]):=by
 intro i
 rw [List.getD_eq_getElem?_getD]
 rcases Nat.lt_trichotomy i ls.length with hi | hi | hi
 ·rw [List.getElem?_append_left hi,← List.getD_eq_getElem?_getD];exact h i
 ·subst hi;simp;omega
 ·rw [List.getElem?_eq_none (by simp;omega)];simp
theorem zi9 (ls:List Int)(r:Int):lv (ls ++ [r])=lv ls+bp ls.length * r:=by
 rw [zdH];simp [lv]
end Go.Proofs.YtnkcjkpkphjecaaGreatDoor
/- A vector of one's own, being made: each place is a number; one of them is written. -/
namespace Go.Proofs.YtnkcjkpkphjecaaGreatDoor
open Go.RowKit Limbs
theorem Tryz.infoNum:(Tryz.prog.info? 42).map (fun i=>(i.zero,i.size,i.bytes))=some (some (.agg #[.bool false,.slice none 0 0]),2,32):=by kernel_rfl
theorem zbp (m:Nat)(hm:m≤1000)(W:World):(Instr.makeSlice 53 (.int .i64 (m:Int)) (.int .i64 (m:Int))).run Tryz.prog W=.ok (.slice (some ⟨W.heap.size,0,none⟩) m m) (W.alloc (.cells (madeCells #[.bool false,.slice none 0 0] (m * 2)) 42)):=by
 obtain⟨i0,hi,hz0,hz1,hz2⟩:=info_parts Tryz.infoNum
 have h:=run_make (P:=Tryz.prog) W 53 42 i0 (.agg #[.bool false,.slice none 0 0]) (by kernel_rfl) hi hz0 .i64 .i64 m m (by omega) (by omega) (by rw [hz2];omega) (by omega)
 rw [hz1,Int.toNat_natCast] at h
 exact h
theorem NumL.nought (w:World)(n:Nat):NumL w (.agg #[.bool false,.slice none 0 0]) 0 n:=
 ⟨false,.slice none 0 0,[],rfl,⟨none,0,rfl,Nat.le_refl _,by simp,zbx,fun h=>absurd h (by simp)⟩,Or.inl rfl,fun _=>rfl,by simp [lv],by simp⟩
structure VecO (w W:World)(P:Nat)(zs:List Int)(n:Nat):Prop where
 vec:VecN W (.slice (some ⟨P,0,none⟩) zs.length zs.length) zs n
 low:w.heap.size≤P
 below:Below w.heap.size w W
 blk:∃ cs,W.heap[P]?=some (.cells cs 42)
theorem VecO.lt {w W:World}{P:Nat}{zs:List Int}{n:Nat}(h:VecO w W P zs n):P < W.heap.size:=by
 obtain⟨cs,e⟩:=h.blk
 exact zn e
theorem VecO.later {w W W':World}{P:Nat}{zs:List Int}{n:Nat}(h:VecO w W P zs n)(hb:Below W.heap.size W W'):VecO w W' P zs n where
 vec:=h.vec.below hb zL
 low:=h.low
 below:=h.below.trans (hb.mono h.below.size)
 blk:=by obtain⟨cs,e⟩:=h.blk;exact⟨cs,(hb.block _ (zn e)).trans e⟩
theorem VecO.drew {w W:World}{P:Nat}{zs:List Int}{n:Nat}(h:VecO w W P zs n):VecO w W.drew P zs n:=⟨h.vec,h.low,h.below.drew,h.blk⟩
theorem VecO.thaw {w W:World}{P:Nat}{zs:List Int}{n:Nat}(h:VecO w W P zs n)(k:Nat):W.frozen? ⟨P,k,none⟩=false:=by
 obtain⟨cs,e⟩:=h.blk
 simp [World.frozen?,e]
theorem VecN.mono {w:World}{v:Value}{zs:List Int}{n m:Nat}(h:VecN w v zs n)(hm:n≤m):VecN w v zs m:=by
 obtain⟨ao,cap,hv,h1,h2⟩:=h
 refine⟨ao,cap,hv,h1,fun h0=>?_⟩
 obtain⟨b,off,e,hlt,hc⟩:=h2 h0
 refine⟨b,off,e,hlt,fun i hi=>?_⟩
 obtain⟨neg,o,l,c,h3,h4,h5⟩:=hc i hi
 exact⟨neg,o,l,c,h3,h4,h5.mono hm⟩
theorem zfq (m i:Nat)(hi:i < m):(madeCells #[.bool false,.slice none 0 0] (m * 2))[i * 2]?=some (.bool false)∧(madeCells #[.bool false,.slice none 0 0] (m * 2))[i * 2+1]?=some (.slice none 0 0):=by
 have h1:i * 2 < m * 2:=by omega
 have h2:i * 2+1 < m * 2:=by omega
 have e1:i * 2 % 2=0:=by omega
 have e2:(i * 2+1) % 2=1:=by omega
 constructor
 ·simp [madeCells,h1,e1]
 ·simp [madeCells,h2,e2]
theorem VecO.made (w W:World)(hb:Below w.heap.size w W)(m n:Nat):VecO w (W.alloc (.cells (madeCells #[.bool false,.slice none 0 0] (m * 2)) 42)) W.heap.size (List.replicate m 0) n where
 vec:=by
  refine⟨_,_,rfl,Nat.le_refl _,fun h0=>⟨_,_,rfl,by simp,fun i hi=>⟨false,none,0,0,?_,?_,?_⟩⟩⟩
  ·rw [List.length_replicate] at hi
   rw [Nat.zero_add,World.cell?_alloc_new]
   exact(zfq m i hi).1
  ·rw [List.length_replicate] at hi
   rw [Nat.zero_add,World.cell?_alloc_new]
   exact(zfq m i hi).2
  ·have e:(List.replicate m (0:Int)).getD i 0=0:=by
    rw [List.getD_eq_getElem?_getD,List.getElem?_replicate]
    split <;> rfl
   rw [e]
   exact NumL.nought _ _
 low:=hb.size
 below:=hb.alloc hb.size _
 blk:=⟨_,heap_alloc_new W _⟩
theorem VecO.at {w W:World}{P:Nat}{zs:List Int}{n:Nat}(h:VecO w W P zs n)(i:Nat)(hi:i < zs.length):∃(neg:Bool) (o:Option Addr) (l c:Nat),W.cell? ⟨P,i * 2,none⟩=some (.bool neg)∧W.cell? ⟨P,i * 2+1,none⟩=some (.slice o l c)∧NumL W (.agg #[.bool neg,.slice o l c]) (zs.getD i 0) n:=by
 have:=(h.vec.at i hi).2
 simpa only [Nat.zero_add] using this
theorem VecO.set {w W:World}{P:Nat}{zs:List Int}{n:Nat}(h:VecO w W P zs n){k:Nat}(hk:k < zs.length){neg:Bool}{o:Option Addr}{l c:Nat}{z:Int}(hz:NumL W (.agg #[.bool neg,.slice o l c]) z n):
  VecO w ((W.setCell ⟨P,k * 2,none⟩ (.bool neg)).setCell ⟨P,k * 2+1,none⟩ (.slice o l c)) P (zs.set k z) n:=by
 obtain⟨neg0,o0,l0,c0,k0,k1,-⟩:=h.at k hk
 have k1':(W.setCell ⟨P,k * 2,none⟩ (.bool neg)).cell? ⟨P,k * 2+1,none⟩=some (.slice o0 l0 c0):=(World.cell?_setCell_other (h:=fun e=>by simp at e) ..).trans k1
 have keep:∀ {v:Value} {y:Int},NumL W v y n→NumL ((W.setCell ⟨P,k * 2,none⟩ (.bool neg)).setCell ⟨P,k * 2+1,none⟩ (.slice o l c)) v y n:=fun hv=>
  (hv.setCell k0 (fun z e=>by cases e)).setCell k1' (fun z e=>by cases e)
 have hlen:(zs.set k z).length=zs.length:=List.length_set
 refine⟨?_,h.low,(h.below.setCell (by exact h.low) _).setCell (by exact h.low) _,?_⟩
 ·refine⟨_,_,rfl,by omega,fun h0=>⟨_,_,rfl,by simpa using h.lt,fun i hi=>?_⟩⟩
  rw [hlen] at hi
  by_cases hik:i=k
  ·subst hik
   refine⟨neg,o,l,c,?_,?_,?_⟩
   ·rw [Nat.zero_add]
    exact(World.cell?_setCell_other (h:=fun e=>by simp at e) ..).trans (World.cell?_setCell_same (h:=k0) ..)
   ·rw [Nat.zero_add]
    exact World.cell?_setCell_same (h:=k1') ..
   ·have e:(zs.set i z).getD i 0=z:=by
     rw [List.getD_eq_getElem?_getD,List.getElem?_set_self hi];rfl
    rw [e]
    exact keep hz
  ·obtain⟨neg1,o1,l1,c1,m0,m1,m2⟩:=h.at i hi
   refine⟨neg1,o1,l1,c1,?_,?_,?_⟩
   ·rw [Nat.zero_add]
    exact((World.cell?_setCell_other (h:=fun e=>by simp at e <;> omega) ..).trans (World.cell?_setCell_other (h:=fun e=>by simp at e <;> omega) ..)).trans m0
   ·rw [Nat.zero_add]
    exact((World.cell?_setCell_other (h:=fun e=>by simp at e <;> omega) ..).trans (World.cell?_setCell_other (h:=fun e=>by simp at e <;> omega) ..)).trans m1
   ·have e:(zs.set k z).getD i 0=zs.getD i 0:=by
     rw [List.getD_eq_getElem?_getD,List.getD_eq_getElem?_getD,List.getElem?_set_ne (by omega)]
    rw [e]
    exact keep m2
 ·obtain⟨cs,e⟩:=h.blk
  exact⟨_,heap_setCell_same _ P (k * 2+1) _ _ _ (heap_setCell_same W P (k * 2) _ _ _ e)⟩
theorem zaQ (zs:List Int)(k:Nat)(hk:k < zs.length):(zs.take k ++ List.replicate (zs.length - k) 0).set k (zs.getD k 0)=zs.take (k+1) ++ List.replicate (zs.length - (k+1)) 0:=by
 have e:zs.length - k=(zs.length - (k+1))+1:=by omega
 have hl:(zs.take k).length=k:=by rw [List.length_take];omega
 rw [e,List.replicate_succ,List.set_append_right _ _ (by omega),hl,Nat.sub_self,List.set_cons_zero,List.take_succ_eq_append_getElem hk,List.getD_eq_getElem?_getD,List.getElem?_eq_getElem hk,Option.getD_some,List.append_assoc,List.singleton_append]
theorem zaE (zs:List Int)(k:Nat)(hk:k≤zs.length):(zs.take k ++ List.replicate (zs.length - k) 0).length=zs.length:=by
 rw [List.length_append,List.length_take,List.length_replicate];omega
end Go.Proofs.YtnkcjkpkphjecaaGreatDoor
/- Limbs moved up and down by some bits. -/
namespace Go.Proofs.YtnkcjkpkphjecaaGreatDoor
open Go.RowKit Limbs
structure Pow (s:Nat)(P Q:Int):Prop where
 eq:(2:Int) ^ s=P
 pos:1≤P
 top:P≤2147483648
 co:P * Q=4294967296
 cpos:2≤Q
 small:s≤31
theorem zjK (s:Nat)(h:s≤31):∃ P Q,Pow s P Q:=by
 refine⟨2 ^ s,2 ^ (32 - s),rfl,?_,?_,?_,?_,h⟩
 ·have:0 < (2:Int) ^ s:=Int.pow_pos (by decide)
  omega
 ·have:((2 ^ s:Nat):Int)≤((2 ^ 31:Nat):Int):=Int.ofNat_le.2 (Nat.pow_le_pow_right (by decide) h)
  have e:((2 ^ s:Nat):Int)=(2:Int) ^ s:=by norm_cast
  rw [e] at this
  exact this
 ·rw [← Int.pow_add,show s+(32 - s)=32 by omega];decide
 ·have:((2 ^ 1:Nat):Int)≤((2 ^ (32 - s):Nat):Int):=Int.ofNat_le.2 (Nat.pow_le_pow_right (by decide) (by omega))
  have e:((2 ^ (32 - s):Nat):Int)=(2:Int) ^ (32 - s):=by norm_cast
  rw [e] at this
  exact this
theorem zfN {s:Nat}{P Q:Int}(h:Pow s P Q)(o x:Int)(h0:0≤o)(h1:o < P):
  bits BinOp.or IntKind.u32 o (x * P % 4294967296)=o+x * P % 4294967296∧o+x * P % 4294967296 < 4294967296:=by
 have hc:=h.co
 have hp:=h.pos
 have hq:=h.cpos
 have e:x * P % 4294967296=(x % Q) * P:=by
  rw [← hc,Int.mul_comm x P,Int.mul_emod_mul_of_pos x Q (by omega:0 < P),Int.mul_comm]
 have m0:=Int.emod_nonneg x (show Q≠0 by omega)
 have m1:=Int.emod_lt_of_pos x (show 0 < Q by omega)
 have b1:(x % Q+1) * P≤Q * P:=Int.mul_le_mul_of_nonneg_right (by omega) (by omega)
 rw [Int.mul_comm Q P,hc,Int.add_mul,Int.one_mul] at b1
 have b0:0≤(x % Q) * P:=Int.mul_nonneg m0 (by omega)
 have t:=h.top
 rw [e]
 refine⟨?_,by omega⟩
 rw [u32_or _ _ h0 (by omega) b0 (by omega),Nat.or_comm,nat_join s]
 ·omega
 ·have ep:P=((2 ^ s:Nat):Int):=by rw [← h.eq];norm_cast
  obtain⟨k,hk⟩:=Int.eq_ofNat_of_zero_le m0
  rw [hk,ep,← Int.natCast_mul,Int.toNat_natCast]
  exact Nat.mul_mod_left _ _
 ·have ep:P=((2 ^ s:Nat):Int):=by rw [← h.eq];norm_cast
  omega
def UpInv (w wr:World)(l:List Int)(P:Int)(k:Nat)(zs:List Int):Prop:=
 zs.length=l.length+1∧Row wr w.heap.size zs∧Below w.heap.size w wr∧lv (zs.take (k+1))=lv (l.take k) * P∧zs.getD k 0 < P
theorem UpInv.start (w:World)(l:List Int){P:Int}(hp:1≤P):UpInv w (w.alloc (.cells (madeCells #[.int .u32 0] (l.length+1)) 91)) l P 0 (List.replicate (l.length+1) 0):=
 ⟨List.length_replicate,Row.made w _,(Below.refl _ _).alloc zL _,by simp [lv],by rw [zdw];omega⟩
theorem UpInv.step {w wr:World}{l:List Int}{P:Int}{k:Nat}{zs:List Int}(h:UpInv w wr l P k zs)(hk:k < l.length){s:Nat}{Q:Int}(hP:Pow s P Q)(hl:LB l){o x:Int}(ho:zs.getD k 0=o)(hx:l.getD k 0=x):
  UpInv w ((wr.setCell ⟨w.heap.size,k,none⟩ (.int .u32 (o+x * P % 4294967296))).setCell ⟨w.heap.size,k+1,none⟩ (.int .u32 (x * P / 4294967296))) l P (k+1) ((zs.set k (o+x * P % 4294967296)).set (k+1) (x * P / 4294967296)):=by
 obtain⟨h1,h2,h3,h4,h5⟩:=h
 subst ho;subst hx
 have hx:=hl k
 have ho:=h2.2.1 k
 have hor:=(zfN hP _ (l.getD k 0) ho.1 h5).2
 have hp:=hP.pos
 have ht:=hP.top
 have hw0:0≤l.getD k 0 * P:=Int.mul_nonneg hx.1 (by omega)
 have hw1:(l.getD k 0+1) * P≤4294967296 * P:=Int.mul_le_mul_of_nonneg_right (by omega) (by omega)
 rw [Int.add_mul,Int.one_mul] at hw1
 have e':(lv (l.take k)+bp k * l.getD k 0) * P=lv (zs.take (k+1))+bp k *(l.getD k 0 * P):=by rw [Int.add_mul,h4,Int.mul_assoc]
 generalize l.getD k 0 * P=W at *
 have e:=zE l k
 refine⟨by rw [List.length_set,List.length_set];exact h1,?_,(h3.setCell zL _).setCell zL _,?_,?_⟩
 ·have hr:=h2.store (show k < zs.length by omega) (z:=zs.getD k 0+W % 4294967296) (by omega)
  exact hr.store (by rw [List.length_set];omega) (by omega)
 ·have e1:=zE zs k
  have e2:bp (k+1) *(W / 4294967296)=bp k *(4294967296 *(W / 4294967296)):=by simp only [bp];rw [Int.mul_comm 4294967296 (bp k),Int.mul_assoc]
  have e3:bp k *(W % 4294967296+4294967296 *(W / 4294967296))=bp k * W:=by rw [Int.emod_add_mul_ediv]
  rw [zE,zau _ _ _ _ zL,zJ _ _ _ _ (by rw [List.length_set];omega),if_pos rfl,zE,zau _ _ _ _ zL,zJ _ _ _ _ (by omega),if_pos rfl,e,e',e2,Int.mul_add]
  rw [Int.mul_add] at e3
  omega
 ·rw [zJ _ _ _ _ (by rw [List.length_set];omega),if_pos rfl]
  omega
def UpPost (w:World)(l:List Int)(P:Int)(e:Ending)(w':World):Prop:=
 ∃ zs,e=.returned (.slice (some ⟨w.heap.size,0,none⟩) (l.length+1) (l.length+1))∧zs.length=l.length+1∧Row w' w.heap.size zs∧lv zs=lv l * P∧Below w.heap.size w w'
set_option maxRecDepth 100000 in
set_option maxHeartbeats 800000 in
theorem zgk (w:World)(v:Value)(l:List Int)(s:Nat){P Q:Int}(hl:Lim w v l)(hP:Pow s P Q)(hla:l.length≤900000):
  Calls Tryz.prog 73 #[v,.int .i64 (s:Int)] w fun e w'=>UpPost w l P e w':=by
 obtain⟨ao,acap,rfl,hacap,halen,hlb,hac⟩:=hl
 have hmk:=zaW (l.length+1) (by omega)
 rw [show((l.length+1:Nat):Int)=(l.length:Int)+1 by omega] at hmk
 have hs:=hP.small
 have hmin:min s 64=s:=by omega
 have hpe:=hP.eq
 have HP:=hide hP
 have hp1:=hP.pos
 have hp2:=hP.top
 go_enter Tryz.func73,Tryz.ntmps73
 go_wp2
 go_loopw [14] (fun i wr=>∃(k:Nat) (zs:List Int),k≤l.length∧i=.int .i64 k∧UpInv w wr l P k zs) (fun i _=>l.length - (intOf i).toNat)
 case atStart=>exact⟨0,_,Nat.zero_le _,rfl,UpInv.start w l hp1⟩
 case round=>
  obtain⟨k,zs,hk,rfl,hinv⟩:=hrel
  by_cases hlt:k < l.length
  ·obtain⟨b,off,rfl,hb,hc⟩:=hac (by omega)
   have hcl:wr.cell? ⟨b,off+k,none⟩=some (.int .u32 (l.getD k 0)):=(hinv.2.2.1.cell (p:=⟨b,off+k,none⟩) hb).trans (hc k hlt)
   have hst:=hinv.step hlt HP.out hlb rfl rfl
   obtain⟨hcell,hfr⟩:=hinv.2.1.2.2 k (by have:=hinv.1;omega)
   obtain⟨hcell1,hfr1⟩:=hinv.2.1.2.2 (k+1) (by have:=hinv.1;omega)
   have hg:=hlb k
   have ho:=hinv.2.1.2.1 k
   have hor:=zfN HP.out _ (l.getD k 0) ho.1 hinv.2.2.2.2
   clear hc hac
   generalize zs.getD k 0=o at *
   generalize zs.getD (k+1) 0=o1 at *
   generalize l.getD k 0=x at *
   have hw0:0≤x * P:=Int.mul_nonneg hg.1 (by omega)
   have hw1:x * P≤4294967295 * 2147483648:=Int.mul_le_mul (by omega) hp2 (by omega) (by decide)
   go_wp2
   go_roundw
   case rel=>exact⟨k+1,_,by omega,by go_num,hst⟩
   case measure=>simp [intOf];omega
  ·obtain rfl:k=l.length:=by omega
   have hl:=hinv.1
   have HV:=hide (show lv zs=lv l * P by have:=hinv.2.2.2.1;rwa [zaj zs (by omega),List.take_length] at this)
   go_wp2
   go_ret
   exact⟨zs,rfl,hl,hinv.2.1,HV.out,hinv.2.2.1⟩
theorem zh5 {s:Nat}{P Q:Int}(h:Pow s P Q)(x y:Int)(hx:0≤x∧x < 4294967296):
  P *((y * 4294967296+x) / P % 4294967296)=(y % P) * 4294967296+x - x % P:=by
 have hc:=h.co
 have hp:=h.pos
 have hq:=h.cpos
 have e1:(y * 4294967296+x) / P=y * Q+x / P:=by
  rw [← hc,Int.mul_comm P Q,← Int.mul_assoc,Int.add_comm,Int.add_mul_ediv_right _ _ (by omega:P≠0),Int.add_comm]
 have dy:=Int.mul_ediv_add_emod y P
 have dx:=Int.mul_ediv_add_emod x P
 have y0:=Int.emod_nonneg y (show P≠0 by omega)
 have y1:=Int.emod_lt_of_pos y (show 0 < P by omega)
 have x0:=Int.emod_nonneg x (show P≠0 by omega)
 have x1:=Int.emod_lt_of_pos x (show 0 < P by omega)
 have e2:y * Q=4294967296 *(y / P)+(y % P) * Q:=by
  conv=>lhs;rw [← dy]
  rw [Int.add_mul,Int.mul_right_comm,hc]
 have q0:0≤x / P:=Int.ediv_nonneg hx.1 (by omega)
 have q1:x / P < Q:=by
  rw [Int.ediv_lt_iff_lt_mul (by omega:0 < P),Int.mul_comm,hc];exact hx.2
 have b1:(y % P+1) * Q≤P * Q:=Int.mul_le_mul_of_nonneg_right (by omega) (by omega)
 rw [Int.add_mul,Int.one_mul,hc] at b1
 have b0:0≤(y % P) * Q:=Int.mul_nonneg y0 (by omega)
 have e3:(y * Q+x / P) % 4294967296=(y % P) * Q+x / P:=by rw [e2];omega
 rw [e1,e3,Int.mul_add,Int.mul_left_comm,hc]
 omega
def DownInv (w wr:World)(l:List Int)(P:Int)(k:Nat)(zs:List Int):Prop:=
 zs.length=l.length∧Row wr w.heap.size zs∧Below w.heap.size w wr∧P * lv (zs.take k)+l.getD 0 0 % P=lv (l.take k)+bp k *(l.getD k 0 % P)
theorem DownInv.start (w:World)(l:List Int)(P:Int):DownInv w (w.alloc (.cells (madeCells #[.int .u32 0] l.length) 91)) l P 0 (List.replicate l.length 0):=
 ⟨List.length_replicate,Row.made w _,(Below.refl _ _).alloc zL _,by simp [lv,bp]⟩
theorem DownInv.drewN {w wr:World}{l:List Int}{P:Int}{k:Nat}{zs:List Int}(h:DownInv w wr l P k zs)(n:Nat):DownInv w (wr.drewN n) l P k zs:=
 ⟨h.1,h.2.1,zN h.2.2.1 n,h.2.2.2⟩
theorem DownInv.step {w wr:World}{l:List Int}{P:Int}{k:Nat}{zs:List Int}(h:DownInv w wr l P k zs)(hk:k < l.length){s:Nat}{Q:Int}(hP:Pow s P Q)(hl:LB l){x y:Int}(hy:l.getD (k+1) 0=y)(hx:l.getD k 0=x):
  DownInv w (wr.setCell ⟨w.heap.size,k,none⟩ (.int .u32 ((y * 4294967296+x) / P % 4294967296))) l P (k+1) (zs.set k ((y * 4294967296+x) / P % 4294967296)):=by
 obtain⟨h1,h2,h3,h4⟩:=h
 subst hy;subst hx
 have hd:=zh5 hP _ (l.getD (k+1) 0) (hl k)
 refine⟨by rw [List.length_set];exact h1,h2.store (by omega) (by omega),h3.setCell zL _,?_⟩
 rw [zE,zE,zau _ _ _ _ zL,zJ _ _ _ _ (by omega),if_pos rfl,Int.mul_add,Int.mul_left_comm P,hd]
 have e2:bp (k+1) *(l.getD (k+1) 0 % P)=bp k *(l.getD (k+1) 0 % P * 4294967296):=by simp only [bp];rw [Int.mul_comm 4294967296 (bp k),Int.mul_assoc,Int.mul_comm 4294967296]
 rw [e2,Int.mul_sub,Int.mul_add]
 omega
theorem DownInv.done {w wr:World}{l:List Int}{P:Int}{zs:List Int}(h:DownInv w wr l P l.length zs)(hp:1≤P):lv zs=lv l / P:=by
 obtain⟨h1,h2,h3,h4⟩:=h
 rw [zaj zs (by omega),zaj l zL,zbI l l.length zL] at h4
 have m0:=Int.emod_nonneg (l.getD 0 0) (show P≠0 by omega)
 have m1:=Int.emod_lt_of_pos (l.getD 0 0) (show 0 < P by omega)
 have e:lv l=l.getD 0 0 % P+P * lv zs:=by rw [Int.zero_emod,Int.mul_zero] at h4;omega
 rw [e,Int.add_mul_ediv_left _ _ (by omega:P≠0),Int.ediv_eq_zero_of_lt m0 m1]
 omega
def DownPost (w:World)(l:List Int)(P:Int)(e:Ending)(w':World):Prop:=
 ∃ zs,e=.returned (.slice (some ⟨w.heap.size,0,none⟩) l.length l.length)∧zs.length=l.length∧Row w' w.heap.size zs∧lv zs=lv l / P∧Below w.heap.size w w'
set_option maxRecDepth 100000 in
set_option maxHeartbeats 800000 in
theorem zki (w:World)(v:Value)(l:List Int)(s:Nat){P Q:Int}(hl:Lim w v l)(hP:Pow s P Q):
  Calls Tryz.prog 75 #[v,.int .i64 (s:Int)] w fun e w'=>DownPost w l P e w':=by
 have HL:=hide hl
 obtain⟨ao,acap,rfl,hacap,halen,hlb,hac⟩:=hl
 have hmk:=zaW l.length (by omega)
 have hs:=hP.small
 have hmin:min s 64=s:=by omega
 have hpe:=hP.eq
 have HP:=hide hP
 have hp1:=hP.pos
 have hp2:=hP.top
 go_enter Tryz.func75,Tryz.ntmps75
 go_wp2
 go_loopw [13] (fun i wr=>∃(k:Nat) (zs:List Int),k≤l.length∧i=.int .i64 k∧DownInv w wr l P k zs) (fun i _=>l.length - (intOf i).toNat)
 case atStart=>exact⟨0,_,Nat.zero_le _,rfl,DownInv.start w l P⟩
 case round=>
  obtain⟨k,zs,hk,rfl,hinv⟩:=hrel
  by_cases hlt:k < l.length
  ·have hwk:IntKind.i64.wrap ((k:Int)+1)=(k:Int)+1:=by rw [IntKind.wrap_i64];omega
   have hlb':=fun W (h:Below w.heap.size w W)=>zbN W (.slice ao l.length acap) l (IntKind.i64.wrap ((k:Int)+1)) (HL.out.below h zL) (by omega) (by omega)
   rw [show(IntKind.i64.wrap ((k:Int)+1)).toNat=k+1 by omega] at hlb'
   clear hwk
   obtain⟨b,off,rfl,hb,hc⟩:=hac (by omega)
   have hbe:=hinv.2.2.1
   have hcl:wr.cell? ⟨b,off+k,none⟩=some (.int .u32 (l.getD k 0)):=(hbe.cell (p:=⟨b,off+k,none⟩) hb).trans (hc k hlt)
   have hst:=hinv.step hlt HP.out hlb rfl rfl
   obtain⟨hcell,hfr⟩:=hinv.2.1.2.2 k (by have:=hinv.1;omega)
   have hg:=hlb k
   have hg1:=hlb (k+1)
   clear hc hac
   generalize zs.getD k 0=o at *
   generalize l.getD (k+1) 0=y at *
   generalize l.getD k 0=x at *
   have hor:=zcG y x hg1.1 hg1.2 hg.1 hg.2
   have hsh:=zcO y x hg1.1 hg1.2 hg.1 hg.2
   go_wp2
   go_region_held3 (fun w'=>w'.cell? ⟨b,off+k,none⟩=some (.int .u32 x)) (go_keep) ((go_at_call 77;refine(hlb' _ (by first | exact hbe.drew | exact hbe)).mono ?_;rintro e w' ⟨rfl,rfl⟩))
   go_wp2
   go_roundw
   case rel=>exact⟨k+1,_,by omega,by go_num,hst.drewN _⟩
   case measure=>simp [intOf];omega
  ·obtain rfl:k=l.length:=by omega
   have hl:=hinv.1
   have HV:=hide (hinv.done hp1)
   go_wp2
   go_ret
   exact⟨zs,rfl,hl,hinv.2.1,HV.out,hinv.2.2.1⟩
end Go.Proofs.YtnkcjkpkphjecaaGreatDoor
