import Derived.Test.YtncamilanceahaaGreatOverB
namespace Go.Proofs.YtncamilanceahaaGreat
open Go.RowKit Limbs Digs
variable{n B X U C:Nat}{W w W':World}{z h g x u y a b z' K R Q:Int}{u0 u1:Value}
def Agree (g h:Int):Prop:=(0≤g∧0≤h)∨(g≤0∧h≤0)
def Stand (a b g h x u y v:Int):Prop:=
 (Agree g h∧x*u≤0∧y*v≤0)∨(Agree g h∧x*u≤0∧y=1∧0≤v∧ab h<ab g)∨(x=1∧u=0∧y=0∧v=1∧g=a∧h=b∧¬ Agree a b)
structure BezR (K a b g h x u y v:Int):Prop where
 eg:g=x*a+y*b
 eh:h=u*a+v*b
 st:Stand a b g h x u y v
 bx:ab x*ab h+ab u*ab g≤ab b
 by':ab y*ab h+ab v*ab g≤ab a+2*ab b
 spa:∃ p q,a=p*g+q*h
 spb:∃ p q,b=p*g+q*h
 kb:ab b≤K
 ka:ab a+2*ab b≤K
 kx:ab x≤K
 ku:ab u≤K
 ky:ab y≤K
 kv:ab v≤K
 kg:ab g≤K
 kh:ab h≤K
theorem zaW:ab 0=0:=by decide
theorem zav:ab 1=1:=by decide
theorem BezR.start(hK:1≤K)(h:ab a+2*ab b≤K):BezR K a b a b 1 0 0 1 where
 eg:=by omega
 eh:=by omega
 st:=by
  by_cases hs:Agree a b
  ·exact .inl ⟨hs,by omega,by omega⟩
  ·exact .inr (.inr ⟨rfl,rfl,rfl,rfl,rfl,rfl,hs⟩)
 bx:=by rw [zaW,zav];omega
 by':=by rw [zaW,zav];have:=zr b;omega
 spa:=⟨1,0,by omega⟩
 spb:=⟨0,1,by omega⟩
 kb:=by have:=zr a;have:=zr b;omega
 ka:=h
 kx:=by rw [zav];exact hK
 ku:=by rw [zaW];omega
 ky:=by rw [zaW];omega
 kv:=by rw [zav];exact hK
 kg:=by have:=zr b;omega
 kh:=by have:=zr a;have:=zr b;omega
theorem zeF(hl:Left R h)(h0:h≠0):Agree h R∧ab R<ab h:=by
 unfold Left at hl;unfold Agree ab;rcases(by omega:0<h∨h<0) with hh | hh
 ·have:=hl.1 hh;refine⟨.inl (by omega),?_⟩
  repeat' split
  all_goals omega
 ·have:=hl.2 hh;refine⟨.inr (by omega),?_⟩
  repeat' split
  all_goals omega
theorem zdQ(hs:Agree g h)(h0:h≠0)(hg:g=Q*h+R)(hl:Left R h):0≤Q∧ab g=Q*ab h+ab R:=by
 have hla:=hl;unfold Left at hl;unfold Agree at hs;rcases(by omega:0<h∨h<0) with hh | hh
 ·have h1:=hl.1 hh;have hQ:0≤Q:=by
   rcases Int.lt_or_le Q 0 with hq | hq
   ·have:Q*h≤-1*h:=Int.mul_le_mul_of_nonneg_right (by omega) (by omega);omega
   ·exact hq
  have e1:ab h=h:=by unfold ab;rw [if_neg (by omega)]
  have e2:ab R=R:=by unfold ab;rw [if_neg (by omega)]
  have e3:ab g=g:=by unfold ab;rw [if_neg (by omega)]
  exact⟨hQ,by rw [e1,e2,e3];exact hg⟩
 ·have h1:=hl.2 hh;have hQ:0≤Q:=by
   rcases Int.lt_or_le Q 0 with hq | hq
   ·have:-1*h≤Q*h:=Int.mul_le_mul_of_nonpos_right (by omega) (by omega);omega
   ·exact hq
  have e1:ab h=-h:=by unfold ab;rw [if_pos hh]
  have e2:ab R=-R:=by unfold ab;split <;> omega
  have e3:ab g=-g:=by unfold ab;split <;> omega
  refine⟨hQ,?_⟩;rw [e1,e2,e3,Int.mul_neg];omega
theorem BezR.step{v:Int}(H:BezR K a b g h x u y v)(h0:h≠0)(hg:g=Q*h+R)(hl:Left R h):BezR K a b h R u (x-Q*u) v (y-Q*v):=by
 obtain⟨hag,hlt⟩:=zeF hl h0;have hp:1≤ab h:=by have:=zr R;omega
 have le_mul:∀ t:Int,0≤t→t≤t*ab h:=fun t ht=>by
  have:t*1≤t*ab h:=Int.mul_le_mul_of_nonneg_left hp ht;omega
 have nn:∀ s t:Int,0≤ab s*ab t:=fun s t=>Int.mul_nonneg (zr s) (zr t);have key:Stand a b h R u (x-Q*u) v (y-Q*v)∧ab u*ab R+ab (x-Q*u)*ab h≤ab b∧ab v*ab R+ab (y-Q*v)*ab h≤ab a+2*ab b:=by
  rcases H.st with⟨hs,hx,hy⟩ |⟨hs,hx,hy,hv,hgh⟩ |⟨rfl,rfl,rfl,rfl,rfl,rfl,hn⟩
  ·obtain⟨hQ,hgg⟩:=zdQ hs h0 hg hl;exact⟨.inl ⟨hag,zbn hQ hx,zbn hQ hy⟩,zaY hQ hx hgg H.bx,zaY hQ hy hgg H.by'⟩
  ·obtain⟨hQ,hgg⟩:=zdQ hs h0 hg hl;subst hy;have hQ1:1≤Q:=by
    rcases(by omega:Q=0∨1≤Q) with h1 | h1
    ·rw [h1] at hgg;omega
    ·exact h1
   have hb:=H.by';rw [zav] at hb;have ev:ab v=v:=by unfold ab;rw [if_neg (by omega)]
   rcases(by omega:v=0∨1≤v) with hv0 | hv1
   ·subst hv0;refine⟨.inl ⟨hag,zbn hQ hx,by omega⟩,zaY hQ hx hgg H.bx,?_⟩;have e:(1:Int)-Q*0=1:=by omega
    rw [e,zav,zaW];have:=nn 0 g;omega
   ·have hqv:1≤Q*v:=by have:(1:Int)*1≤Q*v:=Int.mul_le_mul hQ1 hv1 (by omega) (by omega);omega
    have hneg:ab (1-Q*v)=Q*v-1:=by unfold ab;split <;> omega
    refine⟨.inl ⟨hag,zbn hQ hx,?_⟩,zaY hQ hx hgg H.bx,?_⟩
    ·have:v *(1-Q*v)≤v*0:=Int.mul_le_mul_of_nonneg_left (by omega) (by omega);omega
    ·rw [hneg,ev,Int.sub_mul];rw [ev,hgg,Int.mul_add] at hb;have e:v *(Q*ab h)=Q*v*ab h:=by rw [← Int.mul_assoc,Int.mul_comm v Q]
     rw [e] at hb;omega
  ·have hQ:Q≤0∧-Q*ab h=ab g+ab R:=by
    unfold Left at hl;unfold Agree at hn;rcases(by omega:0<h∨h<0) with hh | hh
    ·have h1:=hl.1 hh;have e1:ab h=h:=by unfold ab;rw [if_neg (by omega)]
     have e2:ab R=R:=by unfold ab;rw [if_neg (by omega)]
     have e3:ab g=-g:=by unfold ab;rw [if_pos (by omega)]
     refine⟨?_,by rw [e1,e2,e3,Int.neg_mul];omega⟩;rcases Int.lt_or_le 0 Q with hq | hq
     ·have:1*h≤Q*h:=Int.mul_le_mul_of_nonneg_right (by omega) (by omega);omega
     ·exact hq
    ·have h1:=hl.2 hh;have e1:ab h=-h:=by unfold ab;rw [if_pos hh]
     have e2:ab R=-R:=by unfold ab;split <;> omega
     have e3:ab g=g:=by unfold ab;rw [if_neg (by omega)]
     refine⟨?_,by rw [e1,e2,e3,Int.mul_neg,Int.neg_mul];omega⟩;rcases Int.lt_or_le 0 Q with hq | hq
     ·have:Q*h≤1*h:=Int.mul_le_mul_of_nonpos_right (by omega) (by omega);omega
     ·exact hq
   have e1:(1:Int)-Q*0=1:=by omega
   have e2:(0:Int)-Q*1=-Q:=by omega
   have e3:ab (-Q)=-Q:=by unfold ab;split <;> omega
   rw [e1,e2];refine⟨.inr (.inl ⟨hag,by omega,rfl,by omega,hlt⟩),?_,?_⟩
   ·rw [zaW,zav];omega
   ·rw [zav,e3,hQ.2];omega
 obtain⟨k1,k2,k3⟩:=key;refine⟨H.eh,?_,k1,k2,k3,?_,?_,H.kb,H.ka,H.ku,?_,H.kv,?_,H.kh,by have:=H.kh;omega⟩
 ·have e1:=H.eg;have e2:=H.eh;have e3:R=g-Q*h:=by omega
  rw [e3,Int.sub_mul,Int.sub_mul];have e4:Q*h=Q*u*a+Q*v*b:=by rw [e2,Int.mul_add,Int.mul_assoc,Int.mul_assoc]
  omega
 ·obtain⟨p,q,e⟩:=H.spa;refine⟨p*Q+q,p,?_⟩;rw [e,hg,Int.mul_add,Int.add_mul,Int.mul_assoc];omega
 ·obtain⟨p,q,e⟩:=H.spb;refine⟨p*Q+q,p,?_⟩;rw [e,hg,Int.mul_add,Int.add_mul,Int.mul_assoc];omega
 ·have h1:=le_mul _ (zr (x-Q*u));have:=nn u R;have:=H.kb;omega
 ·have h1:=le_mul _ (zr (y-Q*v));have:=nn v R;have:=H.ka;omega
theorem zca{D:Int}(h:ab z≤K)(hd:K<D):-D<z∧z<D:=by
 unfold ab at h;split at h <;> omega
theorem zeX{v:Value}(h:NumR w v z n):ab z<dp n:=by
 have:=zeY h;unfold ab;split <;> omega
structure Rm where
 s:Int
 o:Option Addr
 l:Nat
 c:Nat
@[reducible] def Rm.v (r:Rm):Value:=.agg #[.int .i64 r.s,.slice r.o r.l r.c]
structure RVar (W:World)(B:Nat)(r:Rm)(z:Int)(n:Nat):Prop where
 box:BoxR W B (.int .i64 r.s) (.slice r.o r.l r.c)
 num:NumR W (.agg #[.int .i64 r.s,.slice r.o r.l r.c]) z n
theorem RVar.later{r:Rm}(h:RVar W B r z n)(hb:Below W.heap.size W W'):RVar W' B r z n:=⟨h.box.later hb h.box.lt,h.num.below hb zL⟩
theorem RVar.drew{r:Rm}(h:RVar W B r z n):RVar W.drew B r z n:=⟨h.box,h.num⟩
theorem RVar.other{r:Rm}(h:RVar W B r z n)(hc:BoxR W C u0 u1)(hne:B≠C)(v0 v1:Value):RVar ((W.setCell ⟨C,0,none⟩ v0).setCell ⟨C,1,none⟩ v1) B r z n:=
 ⟨(h.box.other hne _ _).other hne _ _,h.num.setCell hc _ _⟩
theorem RVar.write{r:Rm}(hc:BoxR W C u0 u1)(hn:NumR W (.agg #[.int .i64 r.s,.slice r.o r.l r.c]) z n):RVar ((W.setCell ⟨C,0,none⟩ (.int .i64 r.s)).setCell ⟨C,1,none⟩ (.slice r.o r.l r.c)) C r z n:=
 ⟨hc.set _ _,hn.setCell hc _ _⟩
theorem BoxR.others(h:BoxR W B u0 u1)(hne:B≠C)(v0 v1:Value):BoxR ((W.setCell ⟨C,0,none⟩ v0).setCell ⟨C,1,none⟩ v1) B u0 u1:=(h.other hne _ _).other hne _ _
theorem zan(h:Below B w W)(hC:B≤C)(v0 v1:Value):Below B w ((W.setCell ⟨C,0,none⟩ v0).setCell ⟨C,1,none⟩ v1):=(h.setCell (by exact hC) _).setCell (by exact hC) _
theorem NumR.rm{v:Value}(h:NumR w v z n):∃ r:Rm,v=.agg #[.int .i64 r.s,.slice r.o r.l r.c]:=by
 obtain⟨s,o,l,c,rfl,-⟩:=h.form;exact⟨⟨s,o,l,c⟩,rfl⟩
theorem Dig.unique{v:Value}{xs ys:List Int}(hx:Dig w v xs)(hy:Dig w v ys):xs=ys:=by
 obtain⟨ao,cap,rfl,-,-,-,hc⟩:=hx;obtain⟨bo,cap',e,-,-,-,hd⟩:=hy;simp only [zV] at e;obtain⟨rfl,hl,rfl⟩:=e;refine List.ext_getElem hl fun i h1 h2=>?_;obtain⟨b,off,_,_,e1,-,hc⟩:=hc (by omega);obtain⟨b',off',_,_,e2,-,hd⟩:=hd (by omega);rw [e1] at e2;simp only [Option.some.injEq,Addr.mk.injEq,and_true] at e2;obtain⟨rfl,rfl⟩:=e2;have h3:=(hc i h1).symm.trans (hd i h2);simpa [List.getD_eq_getElem?_getD,h1,h2] using h3
theorem NumR.unique{v:Value}{n':Nat}(h:NumR w v z n)(h':NumR w v z' n'):z=z':=by
 obtain⟨s,sl,ds,rfl,hl,-,hz,-⟩:=h;obtain⟨s',sl',ds',e,hl',-,hz',-⟩:=h';simp only [Value.agg.injEq,Array.mk.injEq,List.cons.injEq,Value.int.injEq,and_true,true_and] at e;obtain⟨rfl,rfl⟩:=e;rw [hz,hz',hl.unique hl']
noncomputable def numRAt (W:World) (B:Nat):Int:=Classical.epsilon fun z=>∃ v0 v1 n,BoxR W B v0 v1∧NumR W (.agg #[v0,v1]) z n
theorem zeW{v0 v1:Value}(hb:BoxR W B v0 v1)(hn:NumR W (.agg #[v0,v1]) z n):numRAt W B=z:=by
 obtain⟨u0,u1,m,hb',hn'⟩:=Classical.epsilon_spec (p:=fun z=>∃ v0 v1 n,BoxR W B v0 v1∧NumR W (.agg #[v0,v1]) z n) ⟨z,v0,v1,n,hb,hn⟩;have e0:u0=v0:=zI (hb'.box.1.symm.trans hb.box.1);have e1:u1=v1:=zI (hb'.box.2.1.symm.trans hb.box.2.1);rw [e0,e1] at hn';exact hn'.unique hn
structure GR (w W:World)(X U:Nat)(ra rb rx ry ru rv:Rm)(g h x y u v:Int)(n:Nat):Prop where
 a:RVar W w.heap.size ra g n
 b:RVar W (w.heap.size+1) rb h n
 r1:BoxR W (w.heap.size+1+1) (.int .i64 0) (.slice none 0 0)
 r2:BoxR W (w.heap.size+1+1+1) (.int .i64 0) (.slice none 0 0)
 r3:BoxR W (w.heap.size+1+1+1+1) (.int .i64 0) (.slice none 0 0)
 x:RVar W X rx x n
 y:RVar W (X+1) ry y n
 u:RVar W U ru u n
 v:RVar W (U+1) rv v n
 below:Below w.heap.size w W
 hX:w.heap.size+1+1+1+1<X
 hU:X+1<U
theorem GR.later{ra rb rx ry ru rv:Rm}{v:Int}(s:GR w W X U ra rb rx ry ru rv g h x y u v n)(hb:Below W.heap.size W W'):GR w W' X U ra rb rx ry ru rv g h x y u v n:=
 ⟨s.a.later hb,s.b.later hb,s.r1.later hb s.r1.lt,s.r2.later hb s.r2.lt,s.r3.later hb s.r3.lt,s.x.later hb,s.y.later hb,s.u.later hb,s.v.later hb,s.below.trans (hb.mono s.below.size),s.hX,s.hU⟩
theorem GR.drew{ra rb rx ry ru rv:Rm}{v:Int}(s:GR w W X U ra rb rx ry ru rv g h x y u v n):GR w W.drew X U ra rb rx ry ru rv g h x y u v n:=
 ⟨s.a.drew,s.b.drew,s.r1,s.r2,s.r3,s.x.drew,s.y.drew,s.u.drew,s.v.drew,s.below.drew,s.hX,s.hU⟩
theorem GR.gh{ra rb rx ry ru rv r r':Rm}{v:Int}(s:GR w W X U ra rb rx ry ru rv g h x y u v n)(hn:NumR W (.agg #[.int .i64 r.s,.slice r.o r.l r.c]) z n)(hn':NumR W (.agg #[.int .i64 r'.s,.slice r'.o r'.l r'.c]) z' n):
  GR w ((((W.setCell ⟨w.heap.size,0,none⟩ (.int .i64 r.s)).setCell ⟨w.heap.size,1,none⟩ (.slice r.o r.l r.c)).setCell ⟨w.heap.size+1,0,none⟩ (.int .i64 r'.s)).setCell ⟨w.heap.size+1,1,none⟩ (.slice r'.o r'.l r'.c)) X U r r' rx ry ru rv z z' x y u v n:=by
 have b1:=s.hX;have b2:=s.hU;have hb:=s.b.box.others (show w.heap.size+1≠w.heap.size by omega) (.int .i64 r.s) (.slice r.o r.l r.c);exact⟨(RVar.write s.a.box hn).other hb (by omega) _ _,RVar.write hb (hn'.setCell s.a.box _ _),(s.r1.others (by omega) _ _).others (by omega) _ _,(s.r2.others (by omega) _ _).others (by omega) _ _,(s.r3.others (by omega) _ _).others (by omega) _ _,
  (s.x.other s.a.box (by omega) _ _).other hb (by omega) _ _,(s.y.other s.a.box (by omega) _ _).other hb (by omega) _ _,(s.u.other s.a.box (by omega) _ _).other hb (by omega) _ _,(s.v.other s.a.box (by omega) _ _).other hb (by omega) _ _,zan (zan s.below (by omega) _ _) (by omega) _ _,b1,b2⟩
theorem GR.xu{ra rb rx ry ru rv r r':Rm}{v:Int}(s:GR w W X U ra rb rx ry ru rv g h x y u v n)(hn:NumR W (.agg #[.int .i64 r.s,.slice r.o r.l r.c]) z n)(hn':NumR W (.agg #[.int .i64 r'.s,.slice r'.o r'.l r'.c]) z' n):
  GR w ((((W.setCell ⟨X,0,none⟩ (.int .i64 r.s)).setCell ⟨X,1,none⟩ (.slice r.o r.l r.c)).setCell ⟨U,0,none⟩ (.int .i64 r'.s)).setCell ⟨U,1,none⟩ (.slice r'.o r'.l r'.c)) X U ra rb r ry r' rv g h z y z' v n:=by
 have b1:=s.hX;have b2:=s.hU;have hb:=s.u.box.others (show U≠X by omega) (.int .i64 r.s) (.slice r.o r.l r.c);exact⟨(s.a.other s.x.box (by omega) _ _).other hb (by omega) _ _,(s.b.other s.x.box (by omega) _ _).other hb (by omega) _ _,(s.r1.others (by omega) _ _).others (by omega) _ _,(s.r2.others (by omega) _ _).others (by omega) _ _,(s.r3.others (by omega) _ _).others (by omega) _ _,
  (RVar.write s.x.box hn).other hb (by omega) _ _,(s.y.other s.x.box (by omega) _ _).other hb (by omega) _ _,RVar.write hb (hn'.setCell s.x.box _ _),(s.v.other s.x.box (by omega) _ _).other hb (by omega) _ _,zan (zan s.below (by omega) _ _) (by omega) _ _,b1,b2⟩
theorem GR.yv{ra rb rx ry ru rv r r':Rm}{v:Int}(s:GR w W X U ra rb rx ry ru rv g h x y u v n)(hn:NumR W (.agg #[.int .i64 r.s,.slice r.o r.l r.c]) z n)(hn':NumR W (.agg #[.int .i64 r'.s,.slice r'.o r'.l r'.c]) z' n):
  GR w ((((W.setCell ⟨X+1,0,none⟩ (.int .i64 r.s)).setCell ⟨X+1,1,none⟩ (.slice r.o r.l r.c)).setCell ⟨U+1,0,none⟩ (.int .i64 r'.s)).setCell ⟨U+1,1,none⟩ (.slice r'.o r'.l r'.c)) X U ra rb rx r ru r' g h x z u z' n:=by
 have b1:=s.hX;have b2:=s.hU;have hb:=s.v.box.others (show U+1≠X+1 by omega) (.int .i64 r.s) (.slice r.o r.l r.c);exact⟨(s.a.other s.y.box (by omega) _ _).other hb (by omega) _ _,(s.b.other s.y.box (by omega) _ _).other hb (by omega) _ _,(s.r1.others (by omega) _ _).others (by omega) _ _,(s.r2.others (by omega) _ _).others (by omega) _ _,(s.r3.others (by omega) _ _).others (by omega) _ _,
  (s.x.other s.y.box (by omega) _ _).other hb (by omega) _ _,(RVar.write s.y.box hn).other hb (by omega) _ _,(s.u.other s.y.box (by omega) _ _).other hb (by omega) _ _,RVar.write hb (hn'.setCell s.y.box _ _),zan (zan s.below (by omega) _ _) (by omega) _ _,b1,b2⟩
def GcdRPost (w:World)(a b:Int)(n:Nat)(e:Ending)(w':World):Prop:=
 ∃ vg vx vy g x y,e=.returned (.tuple #[vg,vx,vy])∧NumR w' vg g n∧NumR w' vx x n∧NumR w' vy y n∧g=x*a+y*b∧0≤g∧(∃ p,a=p*g)∧(∃ p,b=p*g)∧Below w.heap.size w w'
theorem GR.give{ra rb rx ry ru rv q1 q2 q3:Rm}{v z1 z2 z3:Int}(s:GR w W X U ra rb rx ry ru rv g h x y u v n)
  (n1:NumR W (.agg #[.int .i64 q1.s,.slice q1.o q1.l q1.c]) z1 n) (n2:NumR W (.agg #[.int .i64 q2.s,.slice q2.o q2.l q2.c]) z2 n) (n3:NumR W (.agg #[.int .i64 q3.s,.slice q3.o q3.l q3.c]) z3 n) (he:z1=z2*a+z3*b) (h0:0≤z1) (ha:∃ p,a=p*z1) (hb:∃ p,b=p*z1):
  GcdRPost w a b n (.returned (.tuple #[.agg #[.int .i64 q1.s,.slice q1.o q1.l q1.c],.agg #[.int .i64 q2.s,.slice q2.o q2.l q2.c],.agg #[.int .i64 q3.s,.slice q3.o q3.l q3.c]])) ((((((W.setCell ⟨w.heap.size+1+1,0,none⟩ (.int .i64 q1.s)).setCell ⟨w.heap.size+1+1,1,none⟩ (.slice q1.o q1.l q1.c)).setCell ⟨w.heap.size+1+1+1,0,none⟩ (.int .i64 q2.s)).setCell ⟨w.heap.size+1+1+1,1,none⟩ (.slice q2.o q2.l q2.c)).setCell ⟨w.heap.size+1+1+1+1,0,none⟩ (.int .i64 q3.s)).setCell ⟨w.heap.size+1+1+1+1,1,none⟩ (.slice q3.o q3.l q3.c)):=by
 have h2:=s.r2.others (show w.heap.size+1+1+1≠w.heap.size+1+1 by omega) (.int .i64 q1.s) (.slice q1.o q1.l q1.c);have h3:=(s.r3.others (show w.heap.size+1+1+1+1≠w.heap.size+1+1 by omega) (.int .i64 q1.s) (.slice q1.o q1.l q1.c)).others (show w.heap.size+1+1+1+1≠w.heap.size+1+1+1 by omega) (.int .i64 q2.s) (.slice q2.o q2.l q2.c);exact⟨_,_,_,z1,z2,z3,rfl,((n1.setCell s.r1 _ _).setCell h2 _ _).setCell h3 _ _,((n2.setCell s.r1 _ _).setCell h2 _ _).setCell h3 _ _,((n3.setCell s.r1 _ _).setCell h2 _ _).setCell h3 _ _,he,h0,ha,hb,zan (zan (zan s.below (by omega) _ _) (by omega) _ _) (by omega) _ _⟩
theorem GcdRPost.drew{e:Ending}(h:GcdRPost w a b n e W):GcdRPost w a b n e W.drew:=by
 obtain⟨vg,vx,vy,g,x,y,h1,h2,h3,h4,h5,h6,h7,h8,h9⟩:=h;exact⟨vg,vx,vy,g,x,y,h1,h2,h3,h4,h5,h6,h7,h8,h9.drew⟩
end Go.Proofs.YtncamilanceahaaGreat
