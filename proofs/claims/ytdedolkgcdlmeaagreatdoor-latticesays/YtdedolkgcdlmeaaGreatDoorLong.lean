import Derived.Test.YtdedolkgcdlmeaaGreatDoorStep
import Derived.Shelf.Small.Bits
import Derived.Shelf.Small.Wraps
import Derived.Shelf.Strings.BuilderK
import Derived.Shelf.Strconv.Itoa3
import Derived.Test.YtdedolkgcdlmeaaGreatDoorProg
set_option maxRecDepth 100000
set_option maxHeartbeats 1600000
namespace Go.Proofs.YtdedolkgcdlmeaaGreatDoor
open Go.RowKit Limbs
variable{w w' wr:World}{zs ys gs:List Int}{G A V S:Int}{n g m:Nat}{v:Value}
def StepPost (w:World)(g:Nat)(zs:List Int)(off:Nat)(b:List Int)(e:Ending)(w':World):Prop:=
 ∃(q:Int) (ys:List Int),e=.returned (.int .u32 q)∧0≤q∧q<4294967296∧Part w w' g zs ys off (b.length+1) ∧
  seg zs off (b.length+1)=q*lv b+seg ys off (b.length+1)∧seg ys off (b.length+1)<lv b
theorem zjV{nx:Int}(hG:0≤G∧G<4294967296)(hn:0≤nx∧nx<4294967296):0≤G*nx∧G*nx<18446744073709551616:=by
 have:=zdC hG hn;omega
theorem Part.of_drewN{off k:Nat}(h:Part (w.drewN n) w' g zs ys off k):Part w w' g zs ys off k:=
 ⟨h.row,(zdr (World.grownBy.refl w (some g)) n).trans h.grown,h.only⟩
theorem zgl(hv:S+G*V=A)(hu:A<(G+1)*V):A=G*V+S∧S<V:=by
 rw [Int.add_mul,Int.one_mul] at hu;omega
theorem zgk{P S2 c:Int}(hv:S+G*V=A+P)(hS:S<P)(hx:G*V<A+V)(hv2:S2+P*c=S+V)(hS2:S2<P)(hc0:0≤c)(hc1:c≤1)(hA:0≤A)(hV:0<V∧V<P):
  1≤G∧A=(G-1)*V+S2∧S2<V:=by
 have hg:1≤G:=by
  rcases Int.lt_or_le G 1 with h | h
  ·have:G*V≤0*V:=Int.mul_le_mul_of_nonneg_right (by omega) (by omega);omega
  ·exact h
 rw [Int.sub_mul,Int.one_mul];rcases(by omega:c=0∨c=1) with rfl | rfl
 ·omega
 ·rw [Int.mul_one] at hv2;exact⟨hg,by omega,by omega⟩
theorem zhH (w:World)(g h cap bcap off m:Nat)(zs b:List Int)(hr:Row w g zs)(hb:Row w h b)(hbc:b.length≤bcap)(hne:h≠g)(hoff:off+b.length+1≤zs.length)(hl:zs.length≤1000000)
  (hm:b.length=m+2) (ht:b.getD (m+1) 0≠0) (hlt:seg zs off (b.length+1)<lv b*4294967296):
  Calls Tryz.prog 143 #[.slice (some ⟨g,off,none⟩) (b.length+1) cap,.slice (some ⟨h,0,none⟩) b.length bcap] w fun e w'=>StepPost w g zs off b e w':=by
 have HB:=hide hb;have HR:=hide hr;have hlb:=hr.2.1;have hT:=zkU (off:=off) hr.2.1 hb.2.1 hm ht;obtain⟨c0,-⟩:=hr.2.2 (off+(m+2)) (by omega);obtain⟨c1,-⟩:=hr.2.2 (off+(m+1)) (by omega);obtain⟨c2,-⟩:=hr.2.2 (off+m) (by omega);obtain⟨d1,-⟩:=hb.2.2 (m+1) (by omega);obtain⟨d2,-⟩:=hb.2.2 m (by omega);clear hr hb ht;have HM:=hide hm;have hbl:(b.length:Int)=(m:Int)+2:=by omega
 clear hm;have htk:=fun(W:World) (G:Int) hr hb hT=>zkG W g h cap bcap off zs b G hr hb hne hoff hl hT;have hgb:=fun(W:World) (ys:List Int) hr hb hoff hl=>zh8 W g h cap bcap off ys b hr hb hbc hne hoff hl;have HTK:=hide htk;have HGB:=hide hgb;clear htk hgb;generalize zs.getD (off+(m+2)) 0=a0 at *;generalize zs.getD (off+(m+1)) 0=a1 at *;generalize zs.getD (off+m) 0=a2 at *;generalize b.getD (m+1) 0=hi at *;generalize b.getD m 0=nx at *;have HT:=hide hT;have HL:=hide hlt;have hvp:=hide (show 0<lv b∧lv b<bp (b.length+1) by
  have h1:=hT.vpos;have h2:=hT.p0;have h3:=zam HB.out.2.1;have h4:bp b.length≤bp (b.length+1):=zaa (by omega);omega)
 have hf:=hT.first hlt;obtain⟨-,-,-,-,-,-,-,ra0,ra1,ra2,rhi,rnx⟩:=hT;clear hlt;have hor:=zcG a0 a1 ra0.1 ra0.2 ra1.1 ra1.2;have hsh:=zcO a0 a1 ra0.1 ra0.2 ra1.1 ra1.2;have HQ:=hide (HT.out.start);have q0:0≤(a0*4294967296+a1)/hi:=Int.ediv_nonneg (by omega) (by omega);have q1:(a0*4294967296+a1)/hi≤a0*4294967296+a1:=Int.ediv_le_self _ (by omega);have m0:=Int.emod_nonneg (a0*4294967296+a1) (show hi≠0 by omega);have m1:=Int.emod_lt_of_pos (a0*4294967296+a1) (show 0<hi by omega);have hh1:(hi != 0)=true:=by rw [bne_iff_ne];omega
 have hh2:(hi==0)=false:=by rw [beq_eq_false_iff_ne];omega
 have HD:=hide (show(a0*4294967296+a1)/hi*hi+(a0*4294967296+a1)%hi=a0*4294967296+a1 by rw [Int.mul_comm];exact Int.mul_ediv_add_emod _ _);go_enter Tryz.func143,Tryz.ntmps143;go_wp2
 go_quiet (fail)
 go_wp2
 go_quiet (fail)
 go_wp2
 go_quiet (fail)
 go_wp2;go_loopw [9,10] (fun gv rv wr=>∃(G R:Int) (nq:Nat),gv=.int .u64 G∧rv=.int .u64 R∧wr=w.drewN nq∧0≤G∧G<18446744073709551616∧0≤R∧R<8589934592∧Hid (G*hi+R=a0*4294967296+a1)∧Hid (seg zs off (b.length+1)<(G+1)*lv b)) (fun gv _ _=>(intOf gv).toNat)
 case atStart=>exact⟨_,_,_,rfl,rfl,by rw [World.drewN_drewN,World.drewN_drewN],q0,by omega,m0,by omega,HD,HQ⟩
 case round=>
  obtain⟨G,R,nq,rfl,rfl,rfl,hG0,hG1,hR0,hR1,HE,HU⟩:=hrel;by_cases hR:R<4294967296
  ·have hor2:=zcG R a2 hR0 hR ra2.1 ra2.2;have hsh2:=zcO R a2 hR0 hR ra2.1 ra2.2;by_cases hG:G<4294967296
   ·have hpr:=zjV ⟨hG0,hG⟩ rnx;by_cases hgt:R*4294967296+a2<G*nx
    ·have HU':=hide (HT.out.less hG0 HE.out hgt);have hg1:1≤G:=by
      rcases Int.lt_or_le G 1 with h | h
      ·have:G=0:=by omega
       subst this;omega
      ·exact h
     have HE':=hide (show(G-1)*hi+(R+hi)=a0*4294967296+a1 by have:=HE.out;rw [Int.sub_mul,Int.one_mul];omega);go_wp2;go_roundw
     case rel=>exact⟨_,_,_,_,_,_,_,_,_,_,_,_,_,_,_,_,_,_,_,_,_,_,_,_,_,_,_,_,_,_,⟨G-1,R+hi,nq,rfl,rfl,rfl,by omega,by omega,by omega,by omega,HE',by rw [Int.sub_add_cancel];exact HU'⟩,rfl⟩
     case measure=>show(G-1).toNat<G.toNat;omega
    ·have HX:=hide (HT.out.stop ⟨hG0,hG⟩ HE.out (by omega));go_wp2_with fail;refine(HTK.out _ G (HR.out.drewN nq) (HB.out.drewN nq) ⟨hG0,hG⟩).mono ?_;rintro e w1 ⟨s,ys,rfl,hp,hv⟩;replace hp:=hp.of_drewN;have hS:=zb8 hp.row.2.1 off (b.length+1);cases s
     ·have HF:=hide (zgl (G:=G) (V:=lv b) (by simpa using hv) HU.out);clear hv hS;go_wp2;go_ret;exact⟨G,ys,rfl,hG0,hG,hp,HF.out.1,HF.out.2⟩
     ·rw [if_pos rfl] at hv;have hlen:=hp.only.len;go_wp2_with fail;refine(HGB.out w1 ys hp.row (HB.out.far hp.grown hne) (by rw [hlen];exact hoff) (by rw [hlen];exact hl)).mono ?_;rintro e w2 ⟨c,xs,rfl,hc0,hc1,hp2,hv2⟩;replace hp:=hp.trans hp2;have hS2:=zb8 hp.row.2.1 off (b.length+1);have hA:=zdP hlb off (b.length+1);obtain⟨hg1,hF1,hF2⟩:=zgk hv hS HX.out hv2 hS2 hc0 hc1 hA (hvp.out);have HF1:=hide hF1;have HF2:=hide hF2;clear hv hv2 hS hS2 hA hF1 hF2;go_wp2;go_ret;exact⟨G-1,xs,rfl,by omega,by omega,hp,HF1.out,HF2.out⟩
   ·have HU':=hide (show seg zs off (b.length+1)<G*lv b by
     have h1:=HL.out;have h2:=HT.out.vpos;have h3:=HT.out.p0;have h4:4294967296*lv b≤G*lv b:=Int.mul_le_mul_of_nonneg_right (by omega) (by omega);omega)
    have HE':=hide (show(G-1)*hi+(R+hi)=a0*4294967296+a1 by have:=HE.out;rw [Int.sub_mul,Int.one_mul];omega);go_wp2;go_roundw
    case rel=>exact⟨⟨nq,rfl⟩,by omega,by omega,by omega,by omega⟩
    case measure=>simp [intOf];omega
  ·have hfar:=HT.out.stop_far HL.out hG0 HE.out (by omega);have HX:=hide (HT.out.stop ⟨hG0,hfar.1⟩ HE.out hfar.2);go_wp2_with fail;refine(HTK.out _ G (HR.out.drewN nq) (HB.out.drewN nq) ⟨hG0,hfar.1⟩).mono ?_;rintro e w1 ⟨s,ys,rfl,hp,hv⟩;replace hp:=hp.of_drewN;have hS:=zb8 hp.row.2.1 off (b.length+1);cases s
   ·have HF:=hide (zgl (G:=G) (V:=lv b) (by simpa using hv) HU.out);clear hv hS;go_wp2;go_ret;exact⟨G,ys,rfl,hG0,hfar.1,hp,HF.out.1,HF.out.2⟩
   ·rw [if_pos rfl] at hv;have hlen:=hp.only.len;go_wp2_with fail;refine(HGB.out w1 ys hp.row (HB.out.far hp.grown hne) (by rw [hlen];exact hoff) (by rw [hlen];exact hl)).mono ?_;rintro e w2 ⟨c,xs,rfl,hc0,hc1,hp2,hv2⟩;replace hp:=hp.trans hp2;have hS2:=zb8 hp.row.2.1 off (b.length+1);have hA:=zdP hlb off (b.length+1);obtain⟨hg1,hF1,hF2⟩:=zgk hv hS HX.out hv2 hS2 hc0 hc1 hA (hvp.out);have HF1:=hide hF1;have HF2:=hide hF2;clear hv hv2 hS hS2 hA hF1 hF2;go_wp2;go_ret;exact⟨G-1,xs,rfl,by omega,by omega,hp,HF1.out,HF2.out⟩
def gv:List Int→Int
 | []=>0
 | x::xs=>x+1000000000*gv xs
def gp:Nat→Int
 | 0=>1
 | n+1=>1000000000*gp n
theorem zbl (n:Nat):0<gp n:=by
 induction n with
 | zero=>simp [gp]
 | succ n ih=>simp only [gp];omega
theorem zeY(h:m≤n):gp m≤gp n:=by
 induction n with
 | zero=>rw [Nat.le_zero.1 h];exact Int.le_refl _
 | succ n ih=>
  by_cases e:m=n+1
  ·rw [e];exact Int.le_refl _
  ·have:=ih (by omega);have:=zbl n;simp only [gp];omega
theorem ze1 (xs:List Int)(r:Int):gv (xs++[r])=gv xs+gp xs.length*r:=by
 induction xs with
 | nil=>simp [gv,gp]
 | cons x xs ih=>simp only [List.cons_append,gv,ih,List.length_cons,gp];rw [Int.mul_add,Int.mul_assoc];omega
theorem zg4 (n:Nat):bp n≤gp (2*n):=by
 induction n with
 | zero=>simp [bp,gp]
 | succ n ih=>rw [show 2 *(n+1)=2*n+1+1 by omega];simp only [bp,gp];have:=zbl (2*n);omega
theorem Row.take(h:Row w g zs)(n:Nat):Row w g (zs.take n):=by
 obtain⟨h1,h2,h3⟩:=h;refine⟨h1,zci h2 n,fun j hj=>?_⟩;rw [List.length_take] at hj;rw [zaC zs n j (by omega)];exact h3 j (by omega)
theorem Row.kept{r:Option Nat}(h:Row w g zs)(hg:w.grownBy w' r)(hne:r≠some g):Row w' g zs:=by
 obtain⟨h1,h2,h3⟩:=h;have hb:w'.heap[g]?=w.heap[g]?:=hg.block g h1 (fun e=>hne e.symm);exact⟨zT h1 hg.size,h2,fun j hj=>⟨(World.cell?_of_block (a:=⟨g,j,none⟩) hb).trans (h3 j hj).1,(World.frozen?_of_block (a:=⟨g,j,none⟩) hb).trans (h3 j hj).2⟩⟩
def GrpInv (w wr:World)(zs:List Int)(v:Value)(gs ys:List Int):Prop:=
 Row wr w.heap.size ys∧Nrm ys∧ys.length≤zs.length∧wr.ownsRow (w.heap.size+1) 3 1 v gs.length (gs.map (Value.int .i64))∧Below w.heap.size w wr ∧
  lv zs=gv gs+gp gs.length*lv ys∧(∀ g∈gs,0≤g∧g<1000000000)∧(lv ys=0→gs.length=0∨gs.getD (gs.length-1) 0≠0)∧lenOf v=gs.length∧w.heap.size<wr.heap.size∧0≤gv gs
theorem zdv{base:Nat}{e:TypeId}{xs:List Value}(h:w.ownsRow base e 1 v n xs):lenOf v=n:=by
 rcases h.2 with⟨rfl,h0⟩ |⟨g,cap,cur,rfl,_⟩
 ·simp [lenOf,h0]
 ·rfl
theorem GrpInv.few(h:GrpInv w wr zs v gs ys)(hlb:LB zs)(hy:ys.length≠0):gs.length<2*zs.length:=by
 obtain⟨h1,h2,h3,h4,h5,h6,h7,h8,h9,h10,h11⟩:=h;have e1:=zbV h1.2.1 h2 hy;have e2:=zam hlb;have e3:=zg4 zs.length;have e4:=zbl gs.length;have e5:gp gs.length*1≤gp gs.length*lv ys:=Int.mul_le_mul_of_nonneg_left (by omega) (by omega);by_cases hk:gs.length<2*zs.length
 ·exact hk
 ·have:=zeY (m:=2*zs.length) (n:=gs.length) (by omega);omega
theorem GrpInv.step{w1 w2:World}{v':Value}{qs:List Int}{r:Int}(h:GrpInv w wr zs v gs ys)(hr0:0≤r)(hr1:r<1000000000)
  (hq:qs.length=ys.length) (hrow:Row w1 w.heap.size qs) (hg1:wr.grownBy w1 (some w.heap.size)) (hlv:lv ys=1000000000*lv qs+r) (hpos:lv ys≠0)
  (hown:w2.ownsRow (w.heap.size+1) 3 1 v' (gs.length+1) (gs.map (Value.int .i64)++[.int .i64 r])) (hg2:(w1.alloc (.cells #[.int .i64 r] 3)).grownBy w2 v.ownBlock)
  (hm:m≤qs.length) (hlm:lv (qs.take m)=lv qs) (hnm:Nrm (qs.take m)):GrpInv w w2 zs v' (gs++[r]) (qs.take m):=by
 obtain⟨h1,h2,h3,h4,h5,h6,h7,h8,h9,h10,h11⟩:=h;have hne:v.ownBlock≠some w.heap.size:=fun e=>by have:=h4.lt _ e;omega
 have hbase:∀ k,v.ownBlock=some k→w.heap.size≤k:=fun k e=>by have:=h4.lt _ e;omega
 have b1:=h5.grown hg1 (by omega) (fun k hk=>by simp at hk;omega);have b2:=b1.alloc b1.size (.cells #[.int .i64 r] 3);have b3:=b2.grown hg2 (by simp;have:=b1.size;omega) hbase;refine⟨((hrow.kept (World.grownBy_alloc w1 _ none) (by simp)).kept hg2 hne).take m,hnm,by rw [List.length_take];omega,?_,b3,?_,?_,?_,?_,?_,?_⟩
 ·rw [List.length_append,List.map_append];exact hown
 ·rw [ze1,List.length_append,hlm,h6,hlv];simp only [List.length_singleton,gp];rw [Int.mul_add];have e:gp gs.length *(1000000000*lv qs)=1000000000*gp gs.length*lv qs:=by rw [Int.mul_left_comm,Int.mul_assoc]
  rw [e];omega
 ·intro g hg;rcases List.mem_append.1 hg with hg | hg
  ·exact h7 g hg
  ·rw [List.mem_singleton.1 hg];exact⟨hr0,hr1⟩
 ·intro h0;right;rw [hlm] at h0;rw [List.length_append,List.length_singleton,Nat.add_sub_cancel,zG,List.getElem?_append_right zL,Nat.sub_self];simp;omega
 ·rw [zdv hown];simp
 ·have:=b1.size;have:=hg2.size;simp at this;have:=h10;have:=hg1.size;omega
 ·rw [ze1];have:=Int.mul_nonneg (show 0≤gp gs.length from by have:=zbl gs.length;omega) hr0;omega
theorem zbB (w:World)(ao:Option Addr)(cap:Nat)(zs:List Int)(n:Nat)(hn:zs.length=n)(h:Lim w (.slice ao n cap) zs):
  Calls Tryz.prog 124 #[.slice ao n cap] w fun e w'=>TrimPost w ao cap zs e w':=by
 subst hn;exact zd2 w ao cap zs h
def GrpPost (w:World)(zs:List Int)(e:Ending)(w':World):Prop:=
 ∃ v gs,e=.returned v∧w'.ownsRow (w.heap.size+1) 3 1 v gs.length (gs.map (Value.int .i64))∧Below w.heap.size w w'∧lv zs=gv gs∧(∀ g∈gs,0≤g∧g<1000000000)∧(gs.length=0∨gs.getD (gs.length-1) 0≠0)∧gs.length≤2*zs.length
theorem Tryz.infoInt:(Tryz.prog.info? 3).map (fun i=>(i.zero,i.size,i.bytes))=some (some (.int .i64 0),1,8):=by kernel_rfl
theorem zhC (w:World)(v:Value)(zs:List Int)(h:Lim w v zs)(hn:Nrm zs):
  Calls Tryz.prog 117 #[v] w fun e w'=>GrpPost w zs e w':=by
 have HL:=hide h;obtain⟨ao,cap,rfl,hcap,hlen,hlb,hc⟩:=h;clear hc;obtain⟨i0,hi,hz0,hz1,hz2⟩:=info_parts Tryz.infoInt;go_enter Tryz.func117,Tryz.ntmps117;go_wp2_with fail;refine(zbO _ _ zs HL.out).mono ?_;rintro e w1 ⟨rfl,hr1,hb1⟩;go_wp2;go_loopw [3,4] (fun g t wr=>∃ gs ys:List Int,t=.slice (some ⟨w.heap.size,0,none⟩) ys.length zs.length∧gs.length≤2*zs.length∧GrpInv w wr zs g gs ys) (fun g _ _=>2*zs.length-lenOf g)
 case atStart=>exact⟨[],zs,rfl,Nat.zero_le _,hr1,hn,Nat.le_refl _,World.ownsRow_nil _ _ _ _,hb1,by simp [gv,gp],by simp,fun _=>.inl rfl,rfl,hr1.1,by simp [gv]⟩
 case round=>
  obtain⟨gs,ys,rfl,hgl,hinv⟩:=hrel;by_cases hy:ys.length=0
  ·have HF:Hid (GrpPost w zs (.returned u3) wr):=by
    obtain⟨h1,h2,h3,h4,h5,h6,h7,h8,h9,h10,h11⟩:=hinv;have e0:ys=[]:=List.eq_nil_of_length_eq_zero hy;subst e0;exact⟨_,gs,rfl,h4,h5,by simpa [lv] using h6,h7,h8 rfl,hgl⟩
   clear hinv;go_wp2;go_ret;exact HF.out
  ·have hfew:=hinv.few hlb hy;have hpos:=zbV hinv.1.2.1 hinv.2.1 hy;have hyl:=hinv.2.2.1;have hle9:=hinv.2.2.2.2.2.2.2.2.1;have hown:=hinv.2.2.2.1;have hwz:=hinv.2.2.2.2.2.2.2.2.2.1;go_wp2_with fail;refine(zeN wr w.heap.size zs.length ys 1000000000 hinv.1 (by omega) (by decide) (by decide)).mono ?_;rintro e w2 ⟨r,qs,rfl,hr0,hr1',hql,hrow,hg1,hlv⟩;have hst:=fun v' w3 m hown' hg2 hm hlm hnm=>hinv.step (v':=v') (w2:=w3) (m:=m) hr0 hr1' hql hrow hg1 hlv (by omega) hown' hg2 hm hlm hnm;have HS:=hide hst;have hown2:=hown.kept hg1 (.inr (fun e=>by have:=hown.lt _ e;omega));have hw2:=hg1.size;have HR:=hide hrow;clear hst hinv hrow hg1 hown;have HLV:=hide hlv;clear hlv;go_wp2_with (at_builtin;refine wpList_append_lies _ rfl _ _ 38 rfl (w.heap.size+1) 3 i0 (.int .i64 0) 1 8 Tryz.underlying38 hi hz0 hz1 hz2 rfl (by decide) u3 gs.length (gs.map (Value.int .i64)) rfl (hown2.alloc _) ⟨w2.heap.size,0,none⟩ 1 1 [.int .i64 r] rfl rfl ?c1 ?c2 (by decide) ?c3 ?c4 ?c5 (w2.heap.size+1) (by simp) ?_)
   case c1=>exact World.news_of_block (heap_alloc_new w2 _)
   case c2=>intro u hu;simp at hu;subst hu;rfl
   case c3=>unfold maxLen;omega
   case c4=>omega
   case c5=>simp;omega
   intro g cap' w3 hown3 hgrow3 hat3 hlt3;have hRw3:Row w3 w.heap.size qs:=(HR.out.kept (World.grownBy_alloc w2 _ none) (by simp)).kept hgrow3 (fun e=>by have:=hown2.lt _ e;omega);clear hat3;go_wp2_with fail;refine(zbB w3 _ zs.length qs ys.length hql (hql ▸ hRw3.lim zs.length (by omega) (by omega))).mono ?_;rintro e w4 ⟨m,hm,rfl,hlm,hnm,rfl⟩;have HF:=hide (HS.out _ _ m hown3 hgrow3 hm hlm hnm);have hml:(qs.take m).length=m:=by rw [List.length_take];omega
   have hll:=zdv hown3;clear hown3 hgrow3 hlm hnm HS hRw3 HR hown2;go_wp2;go_roundw
   case rel=>exact⟨gs++[r],qs.take m,by rw [hml],by rw [List.length_append,List.length_singleton];omega,HF.out⟩
   case measure=>
    show 2*zs.length-(gs.length+1)<2*zs.length-lenOf u3;omega
end Go.Proofs.YtdedolkgcdlmeaaGreatDoor
/- Library functions' contracts, laid at this translation: strconv.Itoa, bits.LeadingZeros32, strings.CutPrefix, the Builder's writes and its text. -/
namespace Go.Proofs
open Go.Shelf Go.RowKit Go.Sort
def Tryz.lays171_ren:Go.Shelf.Ren:=⟨fun | 171=>120 | 243=>139 | 246=>155 | 283=>161 | 284=>162 | 285=>163 | 286=>164 | 129=>166 | 317=>165 | 318=>167 | 319=>168 | 320=>169 | 337=>170 | 338=>171 | n=>n,fun | 3=>3 | 9=>9 | 2=>2 | 4=>4 | 171=>200 | 0=>0 | 53=>140 | 37=>163 | 5=>5 | 173=>203 | 212=>207 | 51=>104 | 20=>20 | 213=>208 | 46=>142 | 232=>210 | 233=>211 | n=>n,fun | 17=>2 | 18=>3 | 19=>4 | n=>n⟩
theorem Tryz.lays171:Go.Proofs.Lays.n171 Tryz.prog Tryz.lays171_ren:={
 mixed:=by kernel_rfl
 f129:=Tryz.func166.trans (congrArg some (by kernel_rfl))
 f171:=Tryz.func120.trans (congrArg some (by kernel_rfl))
 f243:=Tryz.func139.trans (congrArg some (by kernel_rfl))
 f246:=Tryz.func155.trans (congrArg some (by kernel_rfl))
 f283:=Tryz.func161.trans (congrArg some (by kernel_rfl))
 f284:=Tryz.func162.trans (congrArg some (by kernel_rfl))
 f285:=Tryz.func163.trans (congrArg some (by kernel_rfl))
 f286:=Tryz.func164.trans (congrArg some (by kernel_rfl))
 f317:=Tryz.func165.trans (congrArg some (by kernel_rfl))
 f318:=Tryz.func167.trans (congrArg some (by kernel_rfl))
 f319:=Tryz.func168.trans (congrArg some (by kernel_rfl))
 f320:=Tryz.func169.trans (congrArg some (by kernel_rfl))
 f337:=Tryz.func170.trans (congrArg some (by kernel_rfl))
 f338:=Tryz.func171.trans (congrArg some (by kernel_rfl))
 t0:=Tryz.underlying0
 a0:=Tryz.isAgg0
 z0:=Tryz.sizeOf0
 v0:=Tryz.zeroValue0
 t2:=Tryz.underlying2
 a2:=Tryz.isAgg2
 z2:=Tryz.sizeOf2
 v2:=Tryz.zeroValue2
 t3:=Tryz.underlying3
 a3:=Tryz.isAgg3
 z3:=Tryz.sizeOf3
 v3:=Tryz.zeroValue3
 t4:=Tryz.underlying4
 a4:=Tryz.isAgg4
 z4:=Tryz.sizeOf4
 v4:=Tryz.zeroValue4
 t5:=Tryz.underlying5
 a5:=Tryz.isAgg5
 z5:=Tryz.sizeOf5
 v5:=Tryz.zeroValue5
 t9:=Tryz.underlying9
 a9:=Tryz.isAgg9
 z9:=Tryz.sizeOf9
 v9:=Tryz.zeroValue9
 t20:=Tryz.underlying20
 a20:=Tryz.isAgg20
 z20:=Tryz.sizeOf20
 v20:=Tryz.zeroValue20
 t37:=Tryz.underlying163
 a37:=Tryz.isAgg163
 z37:=Tryz.sizeOf163
 v37:=Tryz.zeroValue163
 t46:=Tryz.underlying142
 a46:=Tryz.isAgg142
 z46:=Tryz.sizeOf142
 v46:=Tryz.zeroValue142
 t51:=Tryz.underlying104
 a51:=Tryz.isAgg104
 z51:=Tryz.sizeOf104
 v51:=Tryz.zeroValue104
 t53:=Tryz.underlying140
 a53:=Tryz.isAgg140
 z53:=Tryz.sizeOf140
 v53:=Tryz.zeroValue140
 t171:=Tryz.underlying200
 a171:=Tryz.isAgg200
 z171:=Tryz.sizeOf200
 v171:=Tryz.zeroValue200
 t173:=Tryz.underlying203
 a173:=Tryz.isAgg203
 z173:=Tryz.sizeOf203
 v173:=Tryz.zeroValue203
 t212:=Tryz.underlying207
 a212:=Tryz.isAgg207
 z212:=Tryz.sizeOf207
 v212:=Tryz.zeroValue207
 t213:=Tryz.underlying208
 a213:=Tryz.isAgg208
 z213:=Tryz.sizeOf208
 t232:=Tryz.underlying210
 a232:=Tryz.isAgg210
 z232:=Tryz.sizeOf210
 v232:=Tryz.zeroValue210
 t233:=Tryz.underlying211
 a233:=Tryz.isAgg211
 z233:=Tryz.sizeOf211
 v233:=Tryz.zeroValue211
 g17:=by kernel_rfl
 g18:=by kernel_rfl
 g19:=by kernel_rfl }
open Go.RowKit Go.Sort Go.Lib in
theorem Tryz.strconv_Itoa_small (i:Nat)(hi:i<100)(w:World):
  Calls Tryz.prog 120 #[.int .i64 i] w fun e w'=>e=.returned (.string ⟨(Lib.decDigits i).toArray⟩)∧w'=w:=Any.strconv_Itoa_small Tryz.lays171 i hi w
def Tryz.lays133_ren:Go.Shelf.Ren:=⟨fun | 133=>141 | 128=>157 | n=>n,fun | 51=>104 | 3=>3 | 4=>4 | 46=>142 | 5=>5 | 9=>9 | n=>n,fun | n=>n⟩
theorem Tryz.lays133:Go.Proofs.Lays.n133 Tryz.prog Tryz.lays133_ren:={
 mixed:=by kernel_rfl
 f128:=Tryz.func157.trans (congrArg some (by kernel_rfl))
 f133:=Tryz.func141.trans (congrArg some (by kernel_rfl))
 t3:=Tryz.underlying3
 a3:=Tryz.isAgg3
 z3:=Tryz.sizeOf3
 v3:=Tryz.zeroValue3
 t4:=Tryz.underlying4
 a4:=Tryz.isAgg4
 z4:=Tryz.sizeOf4
 v4:=Tryz.zeroValue4
 t5:=Tryz.underlying5
 a5:=Tryz.isAgg5
 z5:=Tryz.sizeOf5
 v5:=Tryz.zeroValue5
 t9:=Tryz.underlying9
 a9:=Tryz.isAgg9
 z9:=Tryz.sizeOf9
 v9:=Tryz.zeroValue9
 t46:=Tryz.underlying142
 a46:=Tryz.isAgg142
 z46:=Tryz.sizeOf142
 v46:=Tryz.zeroValue142
 t51:=Tryz.underlying104
 a51:=Tryz.isAgg104
 z51:=Tryz.sizeOf104
 v51:=Tryz.zeroValue104 }
theorem Tryz.bits_LeadingZeros32 (x:Int)(w:World)(h0:0≤x)(h1:x≤4294967295):
  Calls Tryz.prog 141 #[.int .u32 x] w fun e w'=>e=.returned (.int .i64 (32-(Lib.bitLen x.toNat:Int)))∧w'=w:=Any.bits_LeadingZeros32 Tryz.lays133 x w h0 h1
def Tryz.lays169_ren:Go.Shelf.Ren:=⟨fun | 169=>121 | n=>n,fun | 70=>162 | 9=>9 | 0=>0 | 72=>165 | 37=>163 | 127=>185 | 3=>3 | 5=>5 | n=>n,fun | n=>n⟩
theorem Tryz.lays169:Go.Proofs.Lays.n169 Tryz.prog Tryz.lays169_ren:={
 mixed:=by kernel_rfl
 f169:=Tryz.func121.trans (congrArg some (by kernel_rfl))
 t0:=Tryz.underlying0
 a0:=Tryz.isAgg0
 z0:=Tryz.sizeOf0
 v0:=Tryz.zeroValue0
 t3:=Tryz.underlying3
 a3:=Tryz.isAgg3
 z3:=Tryz.sizeOf3
 v3:=Tryz.zeroValue3
 t9:=Tryz.underlying9
 a9:=Tryz.isAgg9
 z9:=Tryz.sizeOf9
 v9:=Tryz.zeroValue9
 t37:=Tryz.underlying163
 a37:=Tryz.isAgg163
 z37:=Tryz.sizeOf163
 v37:=Tryz.zeroValue163
 t70:=Tryz.underlying162
 a70:=Tryz.isAgg162
 z70:=Tryz.sizeOf162
 v70:=Tryz.zeroValue162
 t72:=Tryz.underlying165
 a72:=Tryz.isAgg165
 z72:=Tryz.sizeOf165
 v72:=Tryz.zeroValue165
 t127:=Tryz.underlying185
 a127:=Tryz.isAgg185
 z127:=Tryz.sizeOf185
 v127:=Tryz.zeroValue185 }
theorem Tryz.Builder_Extra_169:Builder.Extra Tryz.prog Tryz.lays169_ren:={
 sizeBuilder:=by kernel_rfl
 liesBuilder:=by kernel_rfl
 t5:=Tryz.underlying5
 a5:=Tryz.isAgg5
 z5:=Tryz.sizeOf5
 v5:=Tryz.zeroValue5
 infoByte:=by kernel_rfl
 cellsByte:=by kernel_rfl
 sizeByte:=by kernel_rfl
 neB5:=by decide }
open Go.RowKit in
theorem Tryz.Builder_String_any_k (B b:Nat)(l:List UInt8)(w:World)(h:Lib.IsBuilderF 165 5 B b (Lib.byteCells l) w)(hBw:B≤w.heap.size):
  Calls Tryz.prog 121 #[.pointer (some ⟨b,0,none⟩)] w fun e w'=>e=.returned (.string ⟨l.toArray⟩)∧(Lib.IsBuilderF 165 5 B b (Lib.byteCells l) w'∧Below B w w'∧Lib.OthersKept 5 (some b) w w'):=Any.Builder_String_any_k Tryz.lays169 Tryz.Builder_Extra_169 B b l w h hBw
def Tryz.lays167_ren:Go.Shelf.Ren:=⟨fun | 167=>118 | 240=>138 | 276=>154 | n=>n,fun | 0=>0 | 3=>3 | 4=>4 | 5=>5 | 9=>9 | 20=>20 | 37=>163 | 70=>162 | 72=>165 | 75=>31 | 80=>170 | 164=>194 | n=>n,fun | n=>n⟩
theorem Tryz.lays167:Go.Proofs.Lays.n167 Tryz.prog Tryz.lays167_ren:={
 mixed:=by kernel_rfl
 f167:=Tryz.func118.trans (congrArg some (by kernel_rfl))
 f240:=Tryz.func138.trans (congrArg some (by kernel_rfl))
 f276:=Tryz.func154.trans (congrArg some (by kernel_rfl))
 t0:=Tryz.underlying0
 a0:=Tryz.isAgg0
 z0:=Tryz.sizeOf0
 v0:=Tryz.zeroValue0
 t4:=Tryz.underlying4
 a4:=Tryz.isAgg4
 z4:=Tryz.sizeOf4
 v4:=Tryz.zeroValue4
 t5:=Tryz.underlying5
 a5:=Tryz.isAgg5
 z5:=Tryz.sizeOf5
 v5:=Tryz.zeroValue5
 t9:=Tryz.underlying9
 a9:=Tryz.isAgg9
 z9:=Tryz.sizeOf9
 v9:=Tryz.zeroValue9
 t20:=Tryz.underlying20
 a20:=Tryz.isAgg20
 z20:=Tryz.sizeOf20
 v20:=Tryz.zeroValue20
 t37:=Tryz.underlying163
 a37:=Tryz.isAgg163
 z37:=Tryz.sizeOf163
 v37:=Tryz.zeroValue163
 t70:=Tryz.underlying162
 a70:=Tryz.isAgg162
 z70:=Tryz.sizeOf162
 v70:=Tryz.zeroValue162
 t72:=Tryz.underlying165
 a72:=Tryz.isAgg165
 z72:=Tryz.sizeOf165
 v72:=Tryz.zeroValue165
 t75:=Tryz.underlying31
 a75:=Tryz.isAgg31
 z75:=Tryz.sizeOf31
 v75:=Tryz.zeroValue31
 t164:=Tryz.underlying194
 a164:=Tryz.isAgg194
 z164:=Tryz.sizeOf194
 v164:=Tryz.zeroValue194 }
theorem Tryz.Builder_Extra_167:Builder.Extra Tryz.prog Tryz.lays167_ren:={
 sizeBuilder:=by kernel_rfl
 liesBuilder:=by kernel_rfl
 t5:=Tryz.underlying5
 a5:=Tryz.isAgg5
 z5:=Tryz.sizeOf5
 v5:=Tryz.zeroValue5
 infoByte:=by kernel_rfl
 cellsByte:=by kernel_rfl
 sizeByte:=by kernel_rfl
 neB5:=by decide }
open Go.RowKit in
theorem Tryz.Builder_WriteByte_k (B b:Nat)(bs:List Value)(c:Int)(w:World)(h:Lib.IsBuilderF 165 5 B b bs w)(hlen:bs.length+1≤140737488355328)(hBw:B≤w.heap.size):
  Calls Tryz.prog 118 #[.pointer (some ⟨b,0,none⟩),.int .u8 c] w fun e w'=>e=.returned .nilIface∧(Lib.BuilderAtF 165 5 B b (.pointer (some ⟨b,0,none⟩)) (bs++[.int .u8 c]) w'∧Below B w w'∧Lib.OthersKept 5 (some b) w w'):=Any.Builder_WriteByte_k Tryz.lays167 Tryz.Builder_Extra_167 B b bs c w h hlen hBw
def Tryz.lays166_ren:Go.Shelf.Ren:=⟨fun | 166=>119 | 240=>138 | 276=>154 | n=>n,fun | 0=>0 | 3=>3 | 4=>4 | 5=>5 | 9=>9 | 20=>20 | 37=>163 | 70=>162 | 72=>165 | 75=>31 | 80=>170 | 164=>194 | n=>n,fun | n=>n⟩
theorem Tryz.lays166:Go.Proofs.Lays.n166 Tryz.prog Tryz.lays166_ren:={
 mixed:=by kernel_rfl
 f166:=Tryz.func119.trans (congrArg some (by kernel_rfl))
 f240:=Tryz.func138.trans (congrArg some (by kernel_rfl))
 f276:=Tryz.func154.trans (congrArg some (by kernel_rfl))
 t0:=Tryz.underlying0
 a0:=Tryz.isAgg0
 z0:=Tryz.sizeOf0
 v0:=Tryz.zeroValue0
 t3:=Tryz.underlying3
 a3:=Tryz.isAgg3
 z3:=Tryz.sizeOf3
 v3:=Tryz.zeroValue3
 t4:=Tryz.underlying4
 a4:=Tryz.isAgg4
 z4:=Tryz.sizeOf4
 v4:=Tryz.zeroValue4
 t9:=Tryz.underlying9
 a9:=Tryz.isAgg9
 z9:=Tryz.sizeOf9
 v9:=Tryz.zeroValue9
 t20:=Tryz.underlying20
 a20:=Tryz.isAgg20
 z20:=Tryz.sizeOf20
 v20:=Tryz.zeroValue20
 t37:=Tryz.underlying163
 a37:=Tryz.isAgg163
 z37:=Tryz.sizeOf163
 v37:=Tryz.zeroValue163
 t70:=Tryz.underlying162
 a70:=Tryz.isAgg162
 z70:=Tryz.sizeOf162
 v70:=Tryz.zeroValue162
 t72:=Tryz.underlying165
 a72:=Tryz.isAgg165
 z72:=Tryz.sizeOf165
 v72:=Tryz.zeroValue165
 t75:=Tryz.underlying31
 a75:=Tryz.isAgg31
 z75:=Tryz.sizeOf31
 v75:=Tryz.zeroValue31
 t164:=Tryz.underlying194
 a164:=Tryz.isAgg194
 z164:=Tryz.sizeOf194
 v164:=Tryz.zeroValue194 }
theorem Tryz.Builder_Extra_166:Builder.Extra Tryz.prog Tryz.lays166_ren:={
 sizeBuilder:=by kernel_rfl
 liesBuilder:=by kernel_rfl
 t5:=Tryz.underlying5
 a5:=Tryz.isAgg5
 z5:=Tryz.sizeOf5
 v5:=Tryz.zeroValue5
 infoByte:=by kernel_rfl
 cellsByte:=by kernel_rfl
 sizeByte:=by kernel_rfl
 neB5:=by decide }
open Go.RowKit in
theorem Tryz.Builder_WriteString_k (B b:Nat)(bs:List Value)(s:ByteArray)(w:World)(h:Lib.IsBuilderF 165 5 B b bs w)(hlen:bs.length+s.size≤140737488355328)(hBw:B≤w.heap.size):
  Calls Tryz.prog 119 #[.pointer (some ⟨b,0,none⟩),.string s] w fun e w'=>e=.returned (.tuple #[.int .i64 s.size,.nilIface])∧(Lib.BuilderAtF 165 5 B b (.pointer (some ⟨b,0,none⟩)) (bs++Lib.strCells s) w'∧Below B w w'∧Lib.OthersKept 5 (some b) w w'):=Any.Builder_WriteString_k Tryz.lays166 Tryz.Builder_Extra_166 B b bs s w h hlen hBw
end Go.Proofs
/- Long division: the arithmetic. -/
namespace Go.Proofs.YtdedolkgcdlmeaaGreatDoor
open Go.RowKit Limbs
variable{zs b:List Int}{n k:Nat}{D P q:Int}
theorem zk2 (L:Nat):((2 ^ L:Nat):Int)=(2:Int) ^ L:=by norm_cast
set_option maxRecDepth 10000 in
theorem zi4 (x:Int)(h0:1≤x)(h1:x<4294967296):∃(s:Nat) (P Q:Int),Pow s P Q∧x*P<4294967296∧∀ w,Calls Tryz.prog 141 #[.int .u32 x] w fun e w'=>e=.returned (.int .i64 (s:Int))∧w'=w:=by
 obtain⟨k,rfl⟩:=Int.eq_ofNat_of_zero_le (show 0≤x by omega);obtain⟨b1,-,b3⟩:=Lib.bitLenAux_bounds 64 k (by omega) (by omega);have b4:Lib.bitLen k≤32:=Lib.bitLen_le k 32 (by omega) (by omega);change 1≤Lib.bitLen k at b1;change k<2 ^ Lib.bitLen k at b3;have hc:=fun w=>Go.Proofs.Tryz.bits_LeadingZeros32 (k:Int) w (by omega) (by omega);rw [Int.toNat_natCast] at hc;generalize Lib.bitLen k=L at *;obtain⟨P,Q,hP⟩:=zjT (32-L) (by omega);refine⟨32-L,P,Q,hP,?_,fun w=>?_⟩
 ·have e:((2 ^ L:Nat):Int)*P=4294967296:=by
   have e0:=zk2 L;rw [← hP.eq,e0,← Int.pow_add,show L+(32-L)=32 by omega];decide
  rw [← e];have hk:(k:Int)<((2 ^ L:Nat):Int):=Int.ofNat_lt.2 b3;exact Int.mul_lt_mul_of_pos_right hk (by have:=hP.pos;omega)
 ·have:=hc w
  rwa [show(32:Int)-(L:Int)=((32-L:Nat):Int) by omega] at this
theorem zkj(h:LB zs)(off k:Nat)(hk:off+k≤zs.length):seg zs off k≤lv (zs.drop off):=by
 have e:=zag (zs.drop off) k (by rw [List.length_drop];omega);have n0:=zD (zbd (zbd h off) k);have:0≤bp k*lv ((zs.drop off).drop k):=Int.mul_nonneg (by have:=zE k;omega) n0;unfold seg;omega
theorem ziU{at_:Nat}(hz:LB zs)(hn:at_+n+1≤zs.length)(hlow:lv (zs.drop (at_+1))<D):seg zs at_ (n+1)<D*4294967296:=by
 have h1:=zkj hz at_ (n+1) (by omega);rw [zz zs at_ (by omega)] at h1;simp only [lv] at h1;have h2:=hz at_;omega
theorem ze5(hz:LB zs)(hn:k+n≤zs.length)(hlow:lv (zs.drop k)<D)(hD:D≤bp n):lv (zs.drop (k+n))=0:=by
 have e:=zag (zs.drop k) n (by rw [List.length_drop];omega);rw [List.drop_drop] at e;have n0:=zD (zbd hz (k+n));have t0:=zbq (zbd hz k) n;rcases Int.lt_or_le (lv (zs.drop (k+n))) 1 with h | h
 ·omega
 ·have:=zE n;have:bp n*1≤bp n*lv (zs.drop (k+n)):=Int.mul_le_mul_of_nonneg_left h (by omega);omega
theorem ziW{ys qs:List Int}{VAL:Int}(hz:LB zs)(hn:k+n+1≤zs.length)(hq:k<qs.length)
  (hval:VAL=D *(bp (k+1)*lv (qs.drop (k+1)))+lv zs) (hlow:lv (zs.drop (k+1))<D) (hD:D≤bp n)
  (ho:Only zs ys k (n+1)) (hst:seg zs k (n+1)=q*D+seg ys k (n+1)) (hlt:seg ys k (n+1)<D):
  VAL=D *(bp k*lv ((qs.set k q).drop k))+lv ys∧lv (ys.drop k)<D:=by
 have hZ:=ze5 hz (by omega) hlow hD;have e1:=zag zs k (by omega);have e2:=zag ys k (by rw [ho.len];omega);have f1:=zag (zs.drop k) (n+1) (by rw [List.length_drop];omega);have f2:=zag (ys.drop k) (n+1) (by rw [List.length_drop,ho.len];omega);rw [List.drop_drop] at f1 f2;rw [ho.high] at f2;rw [show k+(n+1)=k+1+n by omega,hZ,Int.mul_zero,Int.add_zero] at f1 f2;rw [ho.low] at e2;change lv (zs.drop k)=seg zs k (n+1) at f1;change lv (ys.drop k)=seg ys k (n+1) at f2;refine⟨?_,by omega⟩;rw [zz (qs.set k q) k (by rw [List.length_set];exact hq),zco _ _ _ _ (show k<k+1 by omega),zJ _ _ _ _ hq,if_pos rfl];simp only [lv];rw [f1,hst] at e1;rw [f2] at e2;rw [hval,e1,e2,Int.mul_add (bp k),Int.mul_add (bp k),Int.mul_add D];have g1:D *(bp (k+1)*lv (qs.drop (k+1)))=D *(bp k *(4294967296*lv (qs.drop (k+1)))):=by simp only [bp];ac_rfl
 have g2:D *(bp k*q)=bp k *(q*D):=by ac_rfl
 rw [g1,g2];omega
theorem ziV{a:List Int}{M:Nat}(hz:LB zs)(ha:LB a)(hb:LB b)(nb:Nrm b)(h0:0<b.length)(hM:M+b.length=a.length+1)(hl:zs.length=a.length+1)(hv:lv zs=lv a*P)(hP:1≤P):lv (zs.drop M)<lv b*P:=by
 have e:=zag zs M (by omega);have t0:=zbq hz M;have h1:=zam ha;have h2:=zbX hb nb h0;have hp:=zE M;have h3:bp (b.length-1)*bp M=bp a.length:=by rw [← zbI];congr 1;omega
 have h4:bp (b.length-1)*bp M≤lv b*bp M:=Int.mul_le_mul_of_nonneg_right h2 (by omega);have h5:lv a*P<lv b*bp M*P:=Int.mul_lt_mul_of_pos_right (by omega) (by omega);have h6:bp M*lv (zs.drop M)<bp M *(lv b*P):=by
  have:bp M *(lv b*P)=lv b*bp M*P:=by ac_rfl
  omega
 exact Int.lt_of_mul_lt_mul_left h6 (by omega)
theorem ziT{A V Z:Int}(hP:1≤P)(h:A*P=V*P*q+Z)(h0:0≤Z)(h1:Z<V*P):A=V*q+Z/P∧0≤Z/P∧Z/P<V:=by
 have e:Z=(A-V*q)*P:=by
  have:V*P*q=V*q*P:=by ac_rfl
  rw [Int.sub_mul];omega
 have d:Z/P=A-V*q:=by rw [e];exact Int.mul_ediv_cancel _ (by omega)
 refine⟨by omega,Int.ediv_nonneg h0 (by omega),?_⟩;rw [Int.ediv_lt_iff_lt_mul (by omega:0<P)];exact h1
theorem zhJ{d:List Int}(hd:LB d)(nd:Nrm d)(hb:LB b)(nb:Nrm b)(h0:0<b.length)(hP:1≤P)(hv:lv d=lv b*P)(hx:b.getD (b.length-1) 0*P<4294967296)(hPP:∃ Q,P*Q=4294967296):
  d.length=b.length∧lv d<bp b.length:=by
 have h1:=zbX hb nb h0;have e:=zag b (b.length-1) (by omega);rw [zz b (b.length-1) (by omega),List.drop_eq_nil_of_le (by omega)] at e;simp only [lv,Int.mul_zero,Int.add_zero] at e;have t1:=zcC hb (b.length-1);have hp:=zE (b.length-1);obtain⟨Q,hQ⟩:=hPP;have hx2:(b.getD (b.length-1) 0+1)*P≤4294967296:=by
  rw [← hQ,Int.mul_comm P Q] at hx ⊢;have:=Int.lt_of_mul_lt_mul_right hx (by omega);exact Int.mul_le_mul_of_nonneg_right (by omega) (by omega)
 have b1:bp b.length=bp (b.length-1)*4294967296:=by
  conv=>lhs;rw [← Nat.sub_add_cancel (show 1≤b.length by omega)]
  simp only [bp];rw [Int.mul_comm]
 have h2:lv b*P<bp b.length:=by
  have g1:lv b*P<bp (b.length-1) *(b.getD (b.length-1) 0+1)*P:=Int.mul_lt_mul_of_pos_right (by rw [Int.mul_add,Int.mul_one];omega) (by omega);have g2:bp (b.length-1) *((b.getD (b.length-1) 0+1)*P)≤bp (b.length-1)*4294967296:=Int.mul_le_mul_of_nonneg_left hx2 (by omega);rw [← Int.mul_assoc] at g2;omega
 have h3:lv b*1≤lv b*P:=Int.mul_le_mul_of_nonneg_left hP (by omega);refine⟨?_,by omega⟩;have l1:=zff hd nd (n:=b.length) (by omega);rcases Nat.lt_or_ge d.length b.length with h | h
 ·have l2:=zam hd;have l3:bp d.length≤bp (b.length-1):=zaa (by omega);omega
 ·omega
end Go.Proofs.YtdedolkgcdlmeaaGreatDoor
