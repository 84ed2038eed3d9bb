import Derived.Test.YtncamilanceahaaGreatBgU
set_option maxRecDepth 100000
set_option maxHeartbeats 1600000
set_option linter.unusedSimpArgs false
namespace Go.Proofs.YtncamilanceahaaGreat
open Go.RowKit
variable{W:World}{n:Int}{o:Option Addr}{l k:Nat}
def gensF (gs:List (List Int))(n:Int):Nat:=match gs with
 | []=>0
 | g::t=>if genF g n=0 then gensF t n else genF g n
def nmF (x:Nmd):Nat:=if nmOk x.name=false then 3 else if sizeOk x.n=false then 1 else if 10<x.gens.length then 2 else gensF x.gens x.n
theorem zhH {gs:List (List Int)}(h:∀ g∈gs,genF g n=0):gensF gs n=0:=by
 induction gs with
 | nil=>rfl
 | cons g t ih=>rw [gensF,if_pos (h g (List.mem_cons_self ..))];exact ih fun y hy=>h y (List.mem_cons_of_mem _ hy)
theorem zhI {gs:List (List Int)}(h:gensF gs n=0):∀ g∈gs,genF g n=0:=by
 induction gs with
 | nil=>intro g hg;cases hg
 | cons g t ih=>
  rw [gensF] at h;by_cases h0:genF g n=0
  ·rw [if_pos h0] at h;intro y hy;rcases List.mem_cons.1 hy with rfl | hy
   ·exact h0
   ·exact ih h y hy
  ·rw [if_neg h0] at h;exact absurd h h0
theorem zet (gs:List (List Int))(n:Int)(k:Nat)(hk:k<gs.length):gensF (gs.drop k) n=if genF gs[k] n=0 then gensF (gs.drop (k+1)) n else genF gs[k] n:=by
 rw [List.drop_eq_getElem_cons hk,gensF]
theorem zeT {x:Nmd}:nmF x=0↔NmOk x:=by
 unfold nmF;constructor
 ·intro h;cases h1:nmOk x.name with
  | false=>rw [if_pos h1] at h;cases h
  | true=>
  rw [if_neg (by rw [h1];decide)] at h;cases h2:sizeOk x.n with
  | false=>rw [if_pos h2] at h;cases h
  | true=>
  rw [if_neg (by rw [h2];decide)] at h;by_cases h3:10<x.gens.length
  ·rw [if_pos h3] at h;cases h
  ·rw [if_neg h3] at h;exact⟨h1,of_decide_eq_true h2,by omega,zhI h⟩
 ·intro h;rw [if_neg (by rw [h.name];decide),if_neg (by rw [show sizeOk x.n=true from decide_eq_true h.n];decide),if_neg (by have:=h.few;omega)];exact zhH h.gens
theorem zd0 (w:World)(q:Nc)(hq:NcIn w q)(hl:q.x.gens.length≤1000)(hg:∀ g∈q.x.gens,g.length≤1000000):
  Calls Tryz.prog 9 #[q.val] w fun e w'=>e=.returned (errV (nmF q.x))∧Below w.heap.size w w':=by
 obtain⟨⟨nm,n,gens⟩,go,gl,gc⟩:=q;have hin:RowsS w (.slice go gl gc) gens:=hq;dsimp only at hl hg;have hgl:gl=gens.length:=by
  obtain⟨_,_,e,-⟩:=id hin;simp only [zV] at e;exact e.2.1
 subst hgl;have HIN:=hide hin;have HG:=hide hg;clear hq hin hg;show Calls _ _ #[.agg #[.string nm,.int .i64 n,.slice go gens.length gc]] w _;have X0:=hide (ThreeV.new w (.string nm) (.int .i64 n) (.slice go gens.length gc) 25);have HB:=hide (zi w (.cells #[.string nm,.int .i64 n,.slice go gens.length gc] 25));obtain⟨c0,c1,c2,-⟩:=X0.out;obtain⟨F,hF⟩:∃ F,nmF ⟨nm,n,gens⟩=F:=⟨_,rfl⟩;rw [hF];unfold nmF at hF;dsimp only at hF;cases hn:nmOk nm with
 | false=>
  rw [if_pos hn] at hF;subst hF;go_enter Tryz.func9,Tryz.ntmps9;go_wp2_with fail;refine(zJ nm _).mono ?_;rintro e w1 ⟨rfl,rfl⟩;rw [hn];clear hn;go_wp2;go_ret;exact⟨rfl,HB.out⟩
 | true=>
 rw [if_neg (by rw [hn];decide)] at hF;cases hz:sizeOk n with
 | false=>
  rw [if_pos hz] at hF;subst hF;go_enter Tryz.func9,Tryz.ntmps9;go_wp2_with fail;refine(zJ nm _).mono ?_;rintro e w1 ⟨rfl,rfl⟩;rw [hn];clear hn;go_wp2_with fail;refine(zbx n _).mono ?_;rintro e w1 ⟨rfl,rfl⟩;rw [hz];clear hz;go_wp2;go_ret;exact⟨rfl,HB.out⟩
 | true=>
 rw [if_neg (by rw [hz];decide)] at hF;by_cases h10:10<gens.length
 ·rw [if_pos h10] at hF;subst hF;have g0:decide (10<(gens.length:Int))=true:=decide_eq_true (by omega);go_enter Tryz.func9,Tryz.ntmps9;go_wp2_with fail;refine(zJ nm _).mono ?_;rintro e w1 ⟨rfl,rfl⟩;rw [hn];clear hn;go_wp2_with fail;refine(zbx n _).mono ?_;rintro e w1 ⟨rfl,rfl⟩;rw [hz];clear hz h10;go_wp2;go_ret;exact⟨rfl,HB.out⟩
 rw [if_neg h10] at hF;have g0:decide (10<(gens.length:Int))=false:=decide_eq_false (by omega);have HF:=hide hF;clear hF h10;go_enter Tryz.func9,Tryz.ntmps9;go_wp2_with fail;generalize w.alloc (.cells #[.string nm,.int .i64 n,.slice go gens.length gc] 25)=W at *;refine(zJ nm _).mono ?_;rintro e w1 ⟨rfl,rfl⟩;rw [hn];clear hn;go_wp2_with fail;refine(zbx n _).mono ?_;rintro e w1 ⟨rfl,rfl⟩;rw [hz];clear hz;go_wp2_with fail;go_loopw [23] (fun i wr=>∃ k:Nat,k≤gens.length∧i=.int .i64 k∧Hid (gensF (gens.drop k) n=F)∧Hid (ThreeV wr w.heap.size (.string nm) (.int .i64 n) (.slice go gens.length gc))∧Hid (Below w.heap.size w wr)) (fun i _=>gens.length-(intOf i).toNat)
 case atStart=>exact⟨0,Nat.zero_le _,rfl,HF,X0,HB⟩
 case round=>
  clear HF X0 HB c0 c1 c2;obtain⟨k,hk,rfl,HK,X0,HB⟩:=hrel;obtain⟨c0,c1,c2,-⟩:=X0.out;by_cases hkl:k<gens.length
  ·have hf:=HK.out;rw [zet gens n k hkl] at hf;obtain⟨go',gc',e,-,hh⟩:=HIN.out;simp only [zV,true_and] at e;obtain⟨rfl,rfl⟩:=e;obtain⟨b,off,rfl,hlt,hc⟩:=hh (by omega);obtain⟨u,hu,hr⟩:=hc k gens[k] (List.getElem?_eq_getElem hkl);obtain⟨uo,uc,rfl⟩:=hr.form;have d0:=(HB.out.cell (p:=⟨b,off+k,none⟩) hlt).trans hu;have hltw:b<wr.heap.size:=zT hlt HB.out.size;have HR:=hide (hr.below HB.out zL);have HL:=hide (HG.out gens[k] (List.getElem_mem hkl));have HFF:=hide hf;clear hh hc hu hr hf HK;generalize gens[k]=g at *;obtain⟨l,hl'⟩:∃ l,g.length=l:=⟨_,rfl⟩;rw [hl'] at d0 HR;have HLL:=hide hl';clear hl';go_wp2_with fail
   go_region_held3 (fun w'=>w'.cell? ⟨w.heap.size,1,none⟩=some (.int .i64 n)∧w'.cell? ⟨w.heap.size,2,none⟩=some (.slice (some ⟨b,off,none⟩) gens.length gc)∧w'.cell? ⟨b,off+k,none⟩=some (.slice uo l uc)) (go_keep)
    (first
     |(go_at_call 25;refine(zd4 _ (.slice uo l uc) g n (HR.out.below ((zB _ _).drew) zL) HL.out).mono ?_;rintro e w3 ⟨rfl,hw3⟩;have hb3:Below wr.heap.size wr w3:=(by rw [hw3];exact(zB _ _).drew);have X3:=hide (X0.out.later hb3);have HB3:=hide (HB.out.trans (hb3.mono HB.out.size));obtain⟨y0,y1,y2,-⟩:=X3.out;have cv:=(hb3.cell (p:=⟨b,off+k,none⟩) hltw).trans d0;clear hw3 hb3))
   clear c0 c1 c2 d0 X0 HB HR;by_cases h0:genF g n=0
   ·rw [h0];have e0:errV 0=.nilIface:=rfl;rw [e0];have hf:=HFF.out;rw [if_pos h0] at hf;have HF2:=hide hf;clear hf h0 e0 HFF;go_wp2;go_roundw
    case rel=>exact⟨k+1,by omega,by go_num,HF2,X3,HB3⟩
    case measure=>simp [intOf];omega
   ·have hf:=HFF.out;rw [if_neg h0] at hf;have e0:errV (genF g n)=.iface 66 (.int .i64 (genF g n:Nat)):=if_neg h0;rw [e0];have HF2:Hid (errV F=.iface 66 (.int .i64 (genF g n:Nat))):=by rw [← hf];exact e0
    clear hf h0 e0 HFF;go_wp2;go_ret;exact⟨by rw [HF2.out];rfl,HB3.out⟩
  ·obtain rfl:k=gens.length:=by omega
   have hf:=HK.out;rw [List.drop_length] at hf;have HF2:Hid (errV F=.nilIface):=by rw [← hf];rfl
   clear hf HK;go_wp2;go_ret;exact⟨by rw [HF2.out];rfl,HB.out⟩
theorem Tryz.asErrnoB (v:Value)(w:World):(Instr.typeAssert (.iface 66 v) 35 66 true).run Tryz.prog w=.ok (.tuple #[v,.bool true]) w:=by kernel_rfl
theorem zjf (n:Int)(hn:0<n)(w:World):Calls Tryz.prog 8 #[.iface 66 (.int .i64 n),.int .i64 n] w fun e w'=>e=.returned (.bool true)∧w'=w:=by
 have has:=Tryz.asErrnoB;have e1:decide (0<n)=true:=decide_eq_true hn;go_enter Tryz.func8,Tryz.ntmps8;go_wp2;go_ret;exact⟨by simp,rfl⟩
theorem zbk (k:Nat)(w:World):Calls Tryz.prog 8 #[errV k,.int .i64 ((k:Nat):Int)] w fun e w'=>e=.returned (.bool true)∧w'=w:=by
 by_cases h:k=0
 ·subst h;have e0:errV 0=.nilIface:=rfl;rw [e0];go_enter Tryz.func8,Tryz.ntmps8;go_wp2;go_ret;exact⟨rfl,rfl⟩
 ·have e0:errV k=.iface 66 (.int .i64 (k:Int)):=if_neg h;rw [e0];exact zjf (k:Int) (by omega) w
theorem zit (w:World)(q:Nc)(hq:NcIn w q)(hl:q.x.gens.length≤1000)(hg:∀ g∈q.x.gens,g.length≤1000000):
  Calls Tryz.prog 6 #[q.val] w fun e w'=>e=.returned (.int .i64 ((nmF q.x:Nat):Int))∧Below w.heap.size w w':=by
 obtain⟨⟨nm,n,gens⟩,go,gl,gc⟩:=q;have hin:RowsS w (.slice go gl gc) gens:=hq;dsimp only at hl hg;have hgl:gl=gens.length:=by
  obtain⟨_,_,e,-⟩:=id hin;simp only [zV] at e;exact e.2.1
 subst hgl;have HIN:=hide hin;have HG:=hide hg;clear hq hin hg;show Calls _ _ #[.agg #[.string nm,.int .i64 n,.slice go gens.length gc]] w _;have X0:=hide (ThreeV.new w (.string nm) (.int .i64 n) (.slice go gens.length gc) 25);have HB:=hide (zi w (.cells #[.string nm,.int .i64 n,.slice go gens.length gc] 25));obtain⟨c0,c1,c2,-⟩:=X0.out;obtain⟨F,hF⟩:∃ F,nmF ⟨nm,n,gens⟩=F:=⟨_,rfl⟩;rw [hF];unfold nmF at hF;dsimp only at hF;cases hn:nmOk nm with
 | false=>
  rw [if_pos hn] at hF;subst hF;go_enter Tryz.func6,Tryz.ntmps6;go_wp2_with fail;refine(zaO nm _).mono ?_;rintro e w1 ⟨rfl,rfl⟩;rw [hn];clear hn;go_wp2;go_ret;exact⟨rfl,HB.out⟩
 | true=>
 rw [if_neg (by rw [hn];decide)] at hF;by_cases hz1:n<1
 ·have hz:sizeOk n=false:=decide_eq_false (by omega);rw [if_pos hz] at hF;subst hF;have g1:decide (n<1)=true:=decide_eq_true hz1;go_enter Tryz.func6,Tryz.ntmps6;go_wp2_with fail;refine(zaO nm _).mono ?_;rintro e w1 ⟨rfl,rfl⟩;rw [hn];clear hn hz;go_wp2;go_ret;exact⟨rfl,HB.out⟩
 have g1:decide (n<1)=false:=decide_eq_false hz1;by_cases hz4:4<n
 ·have hz:sizeOk n=false:=decide_eq_false (by omega);rw [if_pos hz] at hF;subst hF;have g4:decide (4<n)=true:=decide_eq_true hz4;go_enter Tryz.func6,Tryz.ntmps6;go_wp2_with fail;refine(zaO nm _).mono ?_;rintro e w1 ⟨rfl,rfl⟩;rw [hn];clear hn hz;go_wp2;go_ret;exact⟨rfl,HB.out⟩
 have g4:decide (4<n)=false:=decide_eq_false hz4;rw [if_neg (by rw [show sizeOk n=true from decide_eq_true (by omega)];decide)] at hF;by_cases h10:10<gens.length
 ·rw [if_pos h10] at hF;subst hF;have g0:decide (10<(gens.length:Int))=true:=decide_eq_true (by omega);go_enter Tryz.func6,Tryz.ntmps6;go_wp2_with fail;refine(zaO nm _).mono ?_;rintro e w1 ⟨rfl,rfl⟩;rw [hn];clear hn h10 hz1 hz4;go_wp2;go_ret;exact⟨rfl,HB.out⟩
 rw [if_neg h10] at hF;have g0:decide (10<(gens.length:Int))=false:=decide_eq_false (by omega);have HF:=hide hF;clear hF h10 hz1 hz4;go_enter Tryz.func6,Tryz.ntmps6;go_wp2_with fail;generalize w.alloc (.cells #[.string nm,.int .i64 n,.slice go gens.length gc] 25)=W at *;refine(zaO nm _).mono ?_;rintro e w1 ⟨rfl,rfl⟩;rw [hn];clear hn;go_wp2_with fail;go_loopw [4] (fun i wr=>∃ k:Nat,k≤gens.length∧i=.int .i64 k∧Hid (gensF (gens.drop k) n=F)∧Hid (ThreeV wr w.heap.size (.string nm) (.int .i64 n) (.slice go gens.length gc))∧Hid (Below w.heap.size w wr)) (fun i _=>gens.length-(intOf i).toNat)
 case atStart=>exact⟨0,Nat.zero_le _,rfl,HF,X0,HB⟩
 case round=>
  clear HF X0 HB c0 c1 c2;obtain⟨k,hk,rfl,HK,X0,HB⟩:=hrel;obtain⟨c0,c1,c2,-⟩:=X0.out;by_cases hkl:k<gens.length
  ·have hf:=HK.out;rw [zet gens n k hkl] at hf;obtain⟨go',gc',e,-,hh⟩:=HIN.out;simp only [zV,true_and] at e;obtain⟨rfl,rfl⟩:=e;obtain⟨b,off,rfl,hlt,hc⟩:=hh (by omega);obtain⟨u,hu,hr⟩:=hc k gens[k] (List.getElem?_eq_getElem hkl);obtain⟨uo,uc,rfl⟩:=hr.form;have d0:=(HB.out.cell (p:=⟨b,off+k,none⟩) hlt).trans hu;have hltw:b<wr.heap.size:=zT hlt HB.out.size;have HR:=hide (hr.below HB.out zL);have HL:=hide (HG.out gens[k] (List.getElem_mem hkl));have HFF:=hide hf;clear hh hc hu hr hf HK;generalize gens[k]=g at *;obtain⟨l,hl'⟩:∃ l,g.length=l:=⟨_,rfl⟩;rw [hl'] at d0 HR;have HLL:=hide hl';clear hl';go_wp2_with fail
   go_region_held3 (fun w'=>w'.cell? ⟨w.heap.size,1,none⟩=some (.int .i64 n)∧w'.cell? ⟨w.heap.size,2,none⟩=some (.slice (some ⟨b,off,none⟩) gens.length gc)∧w'.cell? ⟨b,off+k,none⟩=some (.slice uo l uc)) (go_keep)
    (first
     |(go_at_call 21;refine(zes _ (.slice uo l uc) g n (HR.out.below ((zB _ _).drew) zL) HL.out).mono ?_;rintro e w3 ⟨rfl,hw3⟩;have hb3:Below wr.heap.size wr w3:=(by rw [hw3];exact(zB _ _).drew);have X3:=hide (X0.out.later hb3);have HB3:=hide (HB.out.trans (hb3.mono HB.out.size));obtain⟨y0,y1,y2,-⟩:=X3.out;have cv:=(hb3.cell (p:=⟨b,off+k,none⟩) hltw).trans d0;clear hw3 hb3))
   clear c0 c1 c2 d0 X0 HB HR;by_cases h0:genF g n=0
   ·rw [h0];have hf:=HFF.out;rw [if_pos h0] at hf;have HF2:=hide hf;clear hf h0 HFF;go_wp2;go_roundw
    case rel=>exact⟨k+1,by omega,by go_num,HF2,X3,HB3⟩
    case measure=>simp [intOf];omega
   ·have hf:=HFF.out;rw [if_neg h0] at hf;have h1:(0:Int)<((genF g n:Nat):Int):=by omega
    have g5:decide ((0:Int)<((genF g n:Nat):Int))=true:=decide_eq_true h1;have HF2:=hide hf;clear hf h0 HFF;go_wp2;go_ret;exact⟨by rw [HF2.out];rfl,HB3.out⟩
  ·obtain rfl:k=gens.length:=by omega
   have HF0:Hid (F=0):=by have h:=HK.out;rw [List.drop_length] at h;exact h.symm
   go_wp2;go_ret;exact⟨by rw [HF0.out];rfl,HB.out⟩
def fnS (C:Nat)(b:Bool)(i:Nat)(c:Nat→Value)(W:World):Prop:=
 (i=10→∃ B,c 10=.pointer (some ⟨B,0,none⟩)∧C≤B∧(b=false→BoxT W B (.string ⟨#[]⟩) (.int .i64 0) (.slice none 0 0))) ∧
 (i=11→∃ B,c 10=.pointer (some ⟨B,0,none⟩)∧C≤B∧BoxT W B (.string ⟨#[]⟩) (.int .i64 0) (.slice none 0 0))
theorem zaf{C:Nat}{b:Bool}{c:Nat→Value}{i:Nat}(h:i≠10)(h':i≠11):fnS C b i c W:=⟨fun e=>absurd e h,fun e=>absurd e h'⟩
theorem fnStays (C:Nat)(b:Bool):Stays fiD (fnS C b) where
 later:=fun i c W W' hb h=>by
  obtain⟨h0,h1⟩:=h;refine⟨fun e=>?_,fun e=>?_⟩
  ·obtain⟨B,a1,a2,a4⟩:=h0 e;exact⟨B,a1,a2,fun hf=>(a4 hf).later hb⟩
  ·obtain⟨B,a1,a2,a4⟩:=h1 e;exact⟨B,a1,a2,a4.later hb⟩
 other:=fun i j c v W hne hm h=>by
  obtain⟨h0,h1⟩:=h;refine⟨fun e=>?_,fun e=>?_⟩
  ·subst e;rw [zb _ _ hne];exact h0 rfl
  ·subst e;have h:¬ i=8∧¬ i=10:=by simpa [fiD] using hm
   rw [zb _ _ (fun e=>h.2 e.symm)];exact h1 rfl
def RefG (r:Nat × List Nmd)(W:World)(o:Option Addr)(l k:Nat):Prop:=r.1=0→∃ qs:List Nc,qs.map (·.x)=r.2∧CatN W (.slice o l k) qs
theorem RefG.later {r:Nat × List Nmd}{W':World}(h:RefG r W o l k)(hb:Below W.heap.size W W'):RefG r W' o l k:=fun h0=>
 let ⟨qs,h1,h2⟩:=h h0;⟨qs,h1,h2.below hb⟩
theorem zi4{w w':World}{r:Nat × List Nmd}{e:Ending}(h:RefRes w r e w'):∃ o l k,e=.returned (.tuple #[.slice o l k,.int .i64 ((r.1:Nat):Int)])∧RefG r w' o l k∧Below w.heap.size w w':=by
 obtain⟨h |⟨h1,u,qs,h2,h3,h4⟩,hb⟩:=h
 ·exact⟨none,0,0,h.2,fun h0=>absurd h0 h.1,hb⟩
 ·obtain⟨o,c,rfl,-⟩:=id h4;exact⟨o,_,c,by rw [h1];exact h2,fun _=>⟨qs,h3,h4⟩,hb⟩
theorem zgx {r:Nat × List Nmd}{e:Value}(h:CatG r W o l k e):e=errV r.1:=by
 rcases h with⟨-,-,-,-,h⟩ |⟨h0,h,-⟩
 ·exact h
 ·rw [h0,h];rfl
def bagS:Nat→List Nat
 | 3=>[1,2]
 | 4=>[3]
 | 5=>[0,4]
 | _=>[]
end Go.Proofs.YtncamilanceahaaGreat
/- For any bound. The greatest that goes into both: what lies where while it is reckoned. -/
namespace Go.Proofs.YtncamilanceahaaGreat.GK
open Go.RowKit Limbs
variable{W w W':World}{z y g h x u v z':Int}{B G X Y H U V C:Nat}
variable {KB:Nat}
structure Var (KB:Nat)(W:World)(B:Nat)(r:Nm)(z:Int):Prop where
 box:Box W B (.bool r.neg) (.slice r.o r.l r.c)
 num:NumL W (.agg #[.bool r.neg,.slice r.o r.l r.c]) z KB
 lt:B<W.heap.size
theorem Var.later{r:Nm}(h:Var KB W B r z)(hb:Below W.heap.size W W'):Var KB W' B r z:=⟨h.box.later hb h.lt,h.num.below hb zL,zT h.lt hb.size⟩
theorem Var.drew{r:Nm}(h:Var KB W B r z):Var KB W.drew B r z:=⟨h.box,h.num,h.lt⟩
theorem Var.other{r s:Nm}(h:Var KB W B r z)(hc:Var KB W C s y)(hne:B≠C)(v0 v1:Value):Var KB ((W.setCell ⟨C,0,none⟩ v0).setCell ⟨C,1,none⟩ v1) B r z:=
 ⟨(h.box.other hne _ _).other hne _ _,h.num.wrote hc.box (by simp) (by simp),by simpa using h.lt⟩
theorem Var.write{s r:Nm}(hc:Var KB W C s y)(hn:NumL W (.agg #[.bool r.neg,.slice r.o r.l r.c]) z KB):Var KB ((W.setCell ⟨C,0,none⟩ (.bool r.neg)).setCell ⟨C,1,none⟩ (.slice r.o r.l r.c)) C r z:=
 ⟨hc.box.write _ _,hn.wrote hc.box (by simp) (by simp),by simpa using hc.lt⟩
structure VarQ (KB:Nat)(W:World)(B:Nat)(r:Nm)(z:Int):Prop where
 box:Box W B (.bool r.neg) (.slice r.o r.l r.c)
 num:NumL W (.agg #[.bool r.neg,.slice r.o r.l r.c]) z (KB+1)
 lt:B<W.heap.size
theorem VarQ.later{r:Nm}(h:VarQ KB W B r z)(hb:Below W.heap.size W W'):VarQ KB W' B r z:=⟨h.box.later hb h.lt,h.num.below hb zL,zT h.lt hb.size⟩
theorem VarQ.drew{r:Nm}(h:VarQ KB W B r z):VarQ KB W.drew B r z:=⟨h.box,h.num,h.lt⟩
theorem VarQ.other{r s:Nm}(h:VarQ KB W B r z)(hc:Var KB W C s y)(hne:B≠C)(v0 v1:Value):VarQ KB ((W.setCell ⟨C,0,none⟩ v0).setCell ⟨C,1,none⟩ v1) B r z:=
 ⟨(h.box.other hne _ _).other hne _ _,h.num.wrote hc.box (by simp) (by simp),by simpa using h.lt⟩
structure GSt (KB:Nat)(w W:World)(G X Y H U V:Nat)(rg rx ry rh ru rv:Nm)(g h x u y v:Int):Prop where
 g:Var KB W G rg g
 x:Var KB W X rx x
 y:Var KB W Y ry y
 h:Var KB W H rh h
 u:Var KB W U ru u
 v:Var KB W V rv v
 below:Below w.heap.size w W
theorem GSt.later{rg rx ry rh ru rv:Nm}(s:GSt KB w W G X Y H U V rg rx ry rh ru rv g h x u y v)(hb:Below W.heap.size W W'):GSt KB w W' G X Y H U V rg rx ry rh ru rv g h x u y v:=
 ⟨s.g.later hb,s.x.later hb,s.y.later hb,s.h.later hb,s.u.later hb,s.v.later hb,s.below.trans (hb.mono s.below.size)⟩
theorem GSt.drew{rg rx ry rh ru rv:Nm}(s:GSt KB w W G X Y H U V rg rx ry rh ru rv g h x u y v):GSt KB w W.drew G X Y H U V rg rx ry rh ru rv g h x u y v:=
 ⟨s.g.drew,s.x.drew,s.y.drew,s.h.drew,s.u.drew,s.v.drew,s.below.drew⟩
theorem GSt.gh{rg rx ry rh ru rv r r':Nm}(s:GSt KB w W G X Y H U V rg rx ry rh ru rv g h x u y v)(b:Blocks w G X Y H U V)
  (hn:NumL W (.agg #[.bool r.neg,.slice r.o r.l r.c]) z KB) (hn':NumL W (.agg #[.bool r'.neg,.slice r'.o r'.l r'.c]) z' KB):
  GSt KB w ((((W.setCell ⟨G,0,none⟩ (.bool r.neg)).setCell ⟨G,1,none⟩ (.slice r.o r.l r.c)).setCell ⟨H,0,none⟩ (.bool r'.neg)).setCell ⟨H,1,none⟩ (.slice r'.o r'.l r'.c)) G X Y H U V r rx ry r' ru rv z z' x u y v:=by
 obtain⟨b1,b2,b3,b4,b5,b6,b7,b8,b9⟩:=b;have hh:=s.h.other s.g (by omega) (.bool r.neg) (.slice r.o r.l r.c);have hg:=s.g.write hn;exact⟨hg.other hh (by omega) _ _,(s.x.other s.g (by omega) _ _).other hh (by omega) _ _,(s.y.other s.g (by omega) _ _).other hh (by omega) _ _,hh.write (hn'.wrote s.g.box (by simp) (by simp)),(s.u.other s.g (by omega) _ _).other hh (by omega) _ _,(s.v.other s.g (by omega) _ _).other hh (by omega) _ _,
  (((s.below.setCell (by simp;omega) _).setCell (by simp;omega) _).setCell (by simp;omega) _).setCell (by simp;omega) _⟩
theorem GSt.xu{rg rx ry rh ru rv r r':Nm}(s:GSt KB w W G X Y H U V rg rx ry rh ru rv g h x u y v)(b:Blocks w G X Y H U V)
  (hn:NumL W (.agg #[.bool r.neg,.slice r.o r.l r.c]) z KB) (hn':NumL W (.agg #[.bool r'.neg,.slice r'.o r'.l r'.c]) z' KB):
  GSt KB w ((((W.setCell ⟨X,0,none⟩ (.bool r.neg)).setCell ⟨X,1,none⟩ (.slice r.o r.l r.c)).setCell ⟨U,0,none⟩ (.bool r'.neg)).setCell ⟨U,1,none⟩ (.slice r'.o r'.l r'.c)) G X Y H U V rg r ry rh r' rv g h z z' y v:=by
 obtain⟨b1,b2,b3,b4,b5,b6,b7,b8,b9⟩:=b;have hu:=s.u.other s.x (by omega) (.bool r.neg) (.slice r.o r.l r.c);have hx:=s.x.write hn;exact⟨(s.g.other s.x (by omega) _ _).other hu (by omega) _ _,hx.other hu (by omega) _ _,(s.y.other s.x (by omega) _ _).other hu (by omega) _ _,(s.h.other s.x (by omega) _ _).other hu (by omega) _ _,hu.write (hn'.wrote s.x.box (by simp) (by simp)),(s.v.other s.x (by omega) _ _).other hu (by omega) _ _,
  (((s.below.setCell (by simp;omega) _).setCell (by simp;omega) _).setCell (by simp;omega) _).setCell (by simp;omega) _⟩
theorem GSt.yv{rg rx ry rh ru rv r r':Nm}(s:GSt KB w W G X Y H U V rg rx ry rh ru rv g h x u y v)(b:Blocks w G X Y H U V)
  (hn:NumL W (.agg #[.bool r.neg,.slice r.o r.l r.c]) z KB) (hn':NumL W (.agg #[.bool r'.neg,.slice r'.o r'.l r'.c]) z' KB):
  GSt KB w ((((W.setCell ⟨Y,0,none⟩ (.bool r.neg)).setCell ⟨Y,1,none⟩ (.slice r.o r.l r.c)).setCell ⟨V,0,none⟩ (.bool r'.neg)).setCell ⟨V,1,none⟩ (.slice r'.o r'.l r'.c)) G X Y H U V rg rx r rh ru r' g h x u z z':=by
 obtain⟨b1,b2,b3,b4,b5,b6,b7,b8,b9⟩:=b;have hv:=s.v.other s.y (by omega) (.bool r.neg) (.slice r.o r.l r.c);have hy:=s.y.write hn;exact⟨(s.g.other s.y (by omega) _ _).other hv (by omega) _ _,(s.x.other s.y (by omega) _ _).other hv (by omega) _ _,hy.other hv (by omega) _ _,(s.h.other s.y (by omega) _ _).other hv (by omega) _ _,(s.u.other s.y (by omega) _ _).other hv (by omega) _ _,hv.write (hn'.wrote s.y.box (by simp) (by simp)),
  (((s.below.setCell (by simp;omega) _).setCell (by simp;omega) _).setCell (by simp;omega) _).setCell (by simp;omega) _⟩
def GcdPost (KB:Nat)(w:World)(a b:Int)(e:Ending)(w':World):Prop:=
 ∃ vg vx vy g x y,e=.returned (.tuple #[vg,vx,vy])∧NumL w' vg g KB∧NumL w' vx x KB∧NumL w' vy y KB∧g=x*a+y*b∧0≤g∧(∃ p,a=p*g)∧(∃ p,b=p*g)∧Below w.heap.size w w'
end Go.Proofs.YtncamilanceahaaGreat.GK
