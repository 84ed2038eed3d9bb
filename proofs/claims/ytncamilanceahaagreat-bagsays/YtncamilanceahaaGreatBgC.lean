import Derived.Test.YtncamilanceahaaGreatBgL
set_option maxRecDepth 100000
set_option maxHeartbeats 1600000
set_option linter.unusedSimpArgs false
namespace Go.Proofs.YtncamilanceahaaGreat
open Go.RowKit
variable{W W' w:World}{v:Value}{cap b off k:Nat}{ks:List Int}{n:Int}
structure Nc where
 x:Nmd
 o:Option Addr
 l:Nat
 c:Nat
def Nc.cells (q:Nc):List Value:=[.string q.x.name,.int .i64 q.x.n,.slice q.o q.l q.c]
def Nc.val (q:Nc):Value:=.agg #[.string q.x.name,.int .i64 q.x.n,.slice q.o q.l q.c]
def NcIn (W:World)(q:Nc):Prop:=RowsS W (.slice q.o q.l q.c) q.x.gens
theorem NcIn.below{q:Nc}(h:NcIn W q)(hb:Below W.heap.size W W'):NcIn W' q:=RowsS.below h hb
def CatN (W:World)(v:Value)(qs:List Nc):Prop:=
 ∃ ao cap,v=.slice ao qs.length cap∧qs.length≤cap∧(0<qs.length→∃ b off,ao=some ⟨b,off,none⟩∧b<W.heap.size∧∀ i (q:Nc),qs[i]?=some q →
  W.cell? ⟨b,off+i*3,none⟩=some (.string q.x.name)∧W.cell? ⟨b,off+i*3+1,none⟩=some (.int .i64 q.x.n)∧W.cell? ⟨b,off+i*3+2,none⟩=some (.slice q.o q.l q.c)∧NcIn W q)
theorem CatN.below{qs:List Nc}(h:CatN W v qs)(hb:Below W.heap.size W W'):CatN W' v qs:=by
 obtain⟨ao,cap,e,hn,h⟩:=h;refine⟨ao,cap,e,hn,fun h0=>?_⟩;obtain⟨b,off,e,hlt,h⟩:=h h0;refine⟨b,off,e,zT hlt hb.size,fun i p hp=>?_⟩;obtain⟨h1,h2,h3,h4⟩:=h i p hp;exact⟨(hb.cell (p:=⟨b,off+i*3,none⟩) hlt).trans h1,(hb.cell (p:=⟨b,off+i*3+1,none⟩) hlt).trans h2,(hb.cell (p:=⟨b,off+i*3+2,none⟩) hlt).trans h3,h4.below hb⟩
theorem CatN.form{qs:List Nc}(h:CatN W v qs)(h0:0<qs.length):∃ b off cap,v=.slice (some ⟨b,off,none⟩) qs.length cap:=by
 obtain⟨ao,cap,e,hn,h⟩:=h;obtain⟨b,off,e',-⟩:=h h0;exact⟨b,off,cap,by rw [e,e']⟩
theorem CatN.at{qs:List Nc}(h:CatN W (.slice (some ⟨b,off,none⟩) qs.length cap) qs)(i:Nat)(hi:i<qs.length):b<W.heap.size ∧
  W.cell? ⟨b,off+i*3,none⟩=some (.string qs[i].x.name)∧W.cell? ⟨b,off+i*3+1,none⟩=some (.int .i64 qs[i].x.n)∧W.cell? ⟨b,off+i*3+2,none⟩=some (.slice qs[i].o qs[i].l qs[i].c)∧NcIn W qs[i]:=by
 obtain⟨ao,cap',e,hn,h⟩:=h;simp only [zV,true_and] at e;obtain⟨rfl,rfl⟩:=e;obtain⟨b',off',e,hlt,h⟩:=h (by omega);simp only [Option.some.injEq,Addr.mk.injEq,and_true] at e;obtain⟨rfl,rfl⟩:=e;exact⟨hlt,h i qs[i] (by simp [hi])⟩
theorem zai (qs:List Nc):(qs.flatMap Nc.cells).length=qs.length*3:=by
 induction qs with
 | nil=>rfl
 | cons q qs ih=>rw [List.flatMap_cons,List.length_append,ih,List.length_cons];simp [Nc.cells];omega
theorem zX (qs:List Nc):∀ i (h:i<qs.length) (j:Nat),j<3→(qs.flatMap Nc.cells)[i*3+j]?=qs[i].cells[j]?:=by
 induction qs with
 | nil=>intro i h;exact absurd h (by simp)
 | cons p qs ih=>
  intro i h j hj;rw [List.flatMap_cons];cases i with
  | zero=>rw [Nat.zero_mul,Nat.zero_add,List.getElem?_append_left (by simp [Nc.cells];omega)];rfl
  | succ i=>
   rw [List.getElem?_append_right (by simp [Nc.cells];omega),show(i+1)*3+j-p.cells.length=i*3+j by simp [Nc.cells];omega];exact ih i (by simpa using h) j hj
theorem zaP (qs:List Nc):∀ u∈qs.flatMap Nc.cells,u.oneCell'=true:=fun u hu=>by
 obtain⟨q,-,h⟩:=List.mem_flatMap.1 hu;simp only [Nc.cells,List.mem_cons,List.not_mem_nil,or_false] at h;rcases h with rfl | rfl | rfl <;> rfl
theorem zeR (qs:List Nc):∀ i (h:i<qs.length) (q:Nc),q.x.name=qs[i].x.name→q.x.n=qs[i].x.n→(qs.set i q).flatMap Nc.cells=(qs.flatMap Nc.cells).set (i*3+2) (.slice q.o q.l q.c):=by
 induction qs with
 | nil=>intro i h;exact absurd h (by simp)
 | cons p qs ih=>
  intro i h q h1 h2;cases i with
  | zero=>
   rw [List.set_cons_zero,List.flatMap_cons,List.flatMap_cons,List.set_append_left _ _ (by simp [Nc.cells])];congr 1;simp only [List.getElem_cons_zero] at h1 h2;simp [Nc.cells,h1,h2]
  | succ i=>
   rw [List.set_cons_succ,List.flatMap_cons,List.flatMap_cons,List.set_append_right _ _ (by simp [Nc.cells];omega),show(i+1)*3+2-p.cells.length=i*3+2 by simp [Nc.cells];omega,ih i (by simpa using h) q (by simpa using h1) (by simpa using h2)]
theorem zaZ{base:Nat}{t:TypeId}{qs:List Nc}(h:W.ownsRow base t 3 v qs.length (qs.flatMap Nc.cells))(hin:∀ q∈qs,NcIn W q):CatN W v qs:=by
 rcases h.2 with⟨rfl,hn⟩ |⟨g,cap,cur,rfl,hb,hh,hc1,hc2,hc3,hc4⟩
 ·exact⟨none,0,by rw [hn],by omega,fun h0=>absurd h0 (by omega)⟩
 ·refine⟨_,cap,rfl,hc1,fun h0=>⟨g,0,rfl,zm hh,fun i q hi=>?_⟩⟩;obtain⟨hi',rfl⟩:=List.getElem?_eq_some_iff.1 hi;have hcell:∀ k u,k<qs.length*3→(qs.flatMap Nc.cells)[k]?=some u→W.cell? ⟨g,k,none⟩=some u:=fun k u hk hu=>by
   have:=World.news_of_block hh k u (by rw [← hc4,List.getElem?_take,if_pos hk] at hu;exact hu);have e:(⟨g,0,none⟩:Addr).add k=⟨g,k,none⟩:=by unfold Addr.add;split <;> simp_all
   rwa [e] at this
  rw [Nat.zero_add];refine⟨hcell _ _ (by omega) ?_,hcell _ _ (by omega) ?_,hcell _ _ (by omega) ?_,hin _ (List.getElem_mem hi')⟩
  ·have:=zX qs i hi' 0 (by omega);rw [Nat.add_zero] at this;rw [this];rfl
  ·rw [zX qs i hi' 1 (by omega)];rfl
  ·rw [zX qs i hi' 2 (by omega)];rfl
theorem CatN.news{qs:List Nc}(h:CatN W (.slice (some ⟨b,off,none⟩) qs.length cap) qs)(j:Nat)(u:Value)(hu:(qs.flatMap Nc.cells)[j]?=some u):W.cell? ((⟨b,off,none⟩:Addr).add j)=some u:=by
 have ea:(⟨b,off,none⟩:Addr).add j=⟨b,off+j,none⟩:=by unfold Addr.add;split <;> simp_all
 rw [ea];have hj:j<qs.length*3:=by
  have:=(List.getElem?_eq_some_iff.1 hu).1
  rwa [zai] at this
 have hi:j/3<qs.length:=by omega
 obtain⟨-,c0,c1,c2,-⟩:=h.at (j/3) hi;have hd:j=(j/3)*3+j%3:=by omega
 have h3:j%3<3:=Nat.mod_lt _ (by decide);rw [hd,zX qs (j/3) hi (j%3) h3] at hu;rw [show off+j=off+j/3*3+j%3 by omega];generalize j%3=r at *
 match r,h3 with
 | 0,_=>simp only [Nc.cells,List.getElem?_cons_zero,Option.some.injEq] at hu;subst hu;exact c0
 | 1,_=>simp only [Nc.cells,List.getElem?_cons_succ,List.getElem?_cons_zero,Option.some.injEq] at hu;subst hu;exact c1
 | 2,_=>simp only [Nc.cells,List.getElem?_cons_succ,List.getElem?_cons_zero,Option.some.injEq] at hu;subst hu;exact c2
theorem CatN.ins{qs:List Nc}(h:CatN W v qs):∀ q∈qs,NcIn W q:=fun q hq=>by
 obtain⟨i,hi,rfl⟩:=List.getElem_of_mem hq;obtain⟨b,off,cap,rfl⟩:=h.form (by omega);exact(h.at i hi).2.2.2.2
def nmTo (s:ByteArray)(k:Nat):Prop:=∀ i,i<k→(97≤byt s i∧byt s i≤122)∨(48≤byt s i∧byt s i≤57∧i≠0)
theorem zeU {s:ByteArray}(h1:1≤s.size)(h8:s.size≤8)(h:nmTo s s.size):nmOk s=true:=decide_eq_true ⟨h1,h8,h⟩
theorem zbL {s:ByteArray}(hk:k<s.size)(h:¬((97≤byt s k∧byt s k≤122)∨(48≤byt s k∧byt s k≤57∧k≠0))):nmOk s=false:=decide_eq_false fun h'=>h (h'.2.2 k hk)
theorem zcr {s:ByteArray}(h:¬(1≤s.size∧s.size≤8)):nmOk s=false:=decide_eq_false fun h'=>h ⟨h'.1,h'.2.1⟩
theorem zJ (s:ByteArray)(w:World):Calls Tryz.prog 10 #[.string s] w fun e w'=>e=.returned (.bool (nmOk s))∧w'=w:=by
 by_cases h1:(s.size:Int)<1
 ·have g1:decide ((s.size:Int)<1)=true:=decide_eq_true h1;rw [zcr (by omega)];go_enter Tryz.func10,Tryz.ntmps10;go_wp2;go_ret;exact⟨rfl,rfl⟩
 have g1:decide ((s.size:Int)<1)=false:=decide_eq_false h1;by_cases h8:8<(s.size:Int)
 ·have g2:decide (8<(s.size:Int))=true:=decide_eq_true h8;rw [zcr (by omega)];go_enter Tryz.func10,Tryz.ntmps10;go_wp2;go_ret;exact⟨rfl,rfl⟩
 have g2:decide (8<(s.size:Int))=false:=decide_eq_false h8;have hs8:s.size≤8:=by omega
 generalize hr:nmOk s=r;have HR:=hide hr;clear hr;go_enter Tryz.func10,Tryz.ntmps10;go_wp2;go_loopw [16] (fun i wr=>∃ k:Nat,k≤s.size∧i=.int .i64 k∧Hid (nmTo s k)∧wr=w) (fun i _=>s.size-(intOf i).toNat)
 case atStart=>exact⟨0,Nat.zero_le _,rfl,hide (fun i hi=>absurd hi (by omega)),rfl⟩
 case round=>
  obtain⟨k,hk,rfl,HT,hw⟩:=hrel;subst wr;by_cases hlt:k<s.size
  ·have hb:=zcK hlt;by_cases a1:97≤byt s k∧byt s k≤122
   ·have e1:decide (97≤((s[k]'hlt).toNat:Int))=true:=by rw [hb];simp;omega
    have e2:decide (((s[k]'hlt).toNat:Int)≤122)=true:=by rw [hb];simp;omega
    have HT':Hid (nmTo s (k+1)):=fun i hi=>by
     by_cases h:i<k
     ·exact HT.out i h
     ·obtain rfl:i=k:=by omega
      exact .inl a1
    cases d1:decide (48≤((s[k]'hlt).toNat:Int)) with
    | false=>
     go_wp2;go_roundw
     case rel=>exact⟨k+1,by omega,by go_num,HT',by first | rfl | trivial⟩
     case measure=>simp [intOf];omega
    | true=>
     go_wp2;go_roundw
     case rel=>exact⟨k+1,by omega,by go_num,HT',by first | rfl | trivial⟩
     case measure=>simp [intOf];omega
   ·have HA:Hid (¬(97≤byt s k∧byt s k≤122)):=a1;by_cases a2:48≤byt s k∧byt s k≤57
    ·have e1:decide (48≤((s[k]'hlt).toNat:Int))=true:=by rw [hb];simp;omega
     have e2:decide (((s[k]'hlt).toNat:Int)≤57)=true:=by rw [hb];simp;omega
     have e3:decide (97≤((s[k]'hlt).toNat:Int))=false:=by rw [hb];simp;omega
     by_cases h0:k=0
     ·subst h0;obtain rfl:false=r:=(zbL hlt (by rintro (h | h);exact HA.out h;exact h.2.2 rfl)).symm.trans HR.out;go_wp2;go_ret;exact⟨rfl,rfl⟩
     ·have e4:((k:Int)==0)=false:=beq_eq_false_iff_ne.2 (by omega);have HT':Hid (nmTo s (k+1)):=fun i hi=>by
       by_cases h:i<k
       ·exact HT.out i h
       ·obtain rfl:i=k:=by omega
        exact .inr ⟨a2.1,a2.2,h0⟩
      go_wp2;go_roundw
      case rel=>exact⟨k+1,by omega,by go_num,HT',by first | rfl | trivial⟩
      case measure=>simp [intOf];omega
    ·obtain rfl:false=r:=(zbL hlt (by rintro (h | h);exact HA.out h;exact a2 ⟨h.1,h.2.1⟩)).symm.trans HR.out;by_cases b1:97≤byt s k
     ·have e1:decide (97≤((s[k]'hlt).toNat:Int))=true:=by rw [hb];simp;omega
      have e2:decide (((s[k]'hlt).toNat:Int)≤122)=false:=by rw [hb];simp;omega
      have e3:decide (48≤((s[k]'hlt).toNat:Int))=true:=by rw [hb];simp;omega
      have e4:decide (((s[k]'hlt).toNat:Int)≤57)=false:=by rw [hb];simp;omega
      clear hb a1 a2 b1;go_wp2;go_ret;exact⟨rfl,rfl⟩
     ·have e1:decide (97≤((s[k]'hlt).toNat:Int))=false:=by rw [hb];simp;omega
      by_cases b2:48≤byt s k
      ·have e3:decide (48≤((s[k]'hlt).toNat:Int))=true:=by rw [hb];simp;omega
       have e4:decide (((s[k]'hlt).toNat:Int)≤57)=false:=by rw [hb];simp;omega
       clear hb a1 a2 b1 b2;go_wp2;go_ret;exact⟨rfl,rfl⟩
      ·have e3:decide (48≤((s[k]'hlt).toNat:Int))=false:=by rw [hb];simp;omega
       clear hb a1 a2 b1 b2;go_wp2;go_ret;exact⟨rfl,rfl⟩
  ·obtain rfl:k=s.size:=by omega
   obtain rfl:true=r:=(zeU (by omega) hs8 HT.out).symm.trans HR.out;go_wp2;go_ret;exact⟨rfl,rfl⟩
theorem zaO (s:ByteArray)(w:World):Calls Tryz.prog 11 #[.string s] w fun e w'=>e=.returned (.bool (nmOk s))∧w'=w:=by
 by_cases h1:(s.size:Int)<1
 ·have g1:decide ((s.size:Int)<1)=true:=decide_eq_true h1;rw [zcr (by omega)];go_enter Tryz.func11,Tryz.ntmps11;go_wp2;go_ret;exact⟨rfl,rfl⟩
 have g1:decide ((s.size:Int)<1)=false:=decide_eq_false h1;by_cases h8:8<(s.size:Int)
 ·have g2:decide (8<(s.size:Int))=true:=decide_eq_true h8;rw [zcr (by omega)];go_enter Tryz.func11,Tryz.ntmps11;go_wp2;go_ret;exact⟨rfl,rfl⟩
 have g2:decide (8<(s.size:Int))=false:=decide_eq_false h8;have hs8:s.size≤8:=by omega
 have h0:0<s.size:=by omega
 have hb0:=zcK h0;by_cases a0:byt s 0<97
 ·have e0:decide (((s[0]'h0).toNat:Int)<97)=true:=by rw [hb0];simp;omega
  rw [zbL h0 (by rintro (h | h);omega;exact h.2.2 rfl)];go_enter Tryz.func11,Tryz.ntmps11;go_wp2;go_ret;exact⟨rfl,rfl⟩
 have e0:decide (((s[0]'h0).toNat:Int)<97)=false:=by rw [hb0];simp;omega
 by_cases b0:122<byt s 0
 ·have e1:decide (122<((s[0]'h0).toNat:Int))=true:=by rw [hb0];simp;omega
  rw [zbL h0 (by rintro (h | h);omega;exact h.2.2 rfl)];go_enter Tryz.func11,Tryz.ntmps11;go_wp2;go_ret;exact⟨rfl,rfl⟩
 have e1:decide (122<((s[0]'h0).toNat:Int))=false:=by rw [hb0];simp;omega
 have HF:Hid (97≤byt s 0∧byt s 0≤122):=⟨by omega,by omega⟩;generalize hr:nmOk s=r;have HR:=hide hr;clear hr;go_enter Tryz.func11,Tryz.ntmps11;go_wp2;clear e0 e1 hb0;go_loopw [3] (fun i wr=>∃ k:Nat,k≤s.size∧i=.int .i64 k∧Hid (nmTo s k)∧wr=w) (fun i _=>s.size-(intOf i).toNat)
 case atStart=>exact⟨0,Nat.zero_le _,rfl,hide (fun i hi=>absurd hi (by omega)),rfl⟩
 case round=>
  obtain⟨k,hk,rfl,HT,hw⟩:=hrel;subst wr;by_cases hlt:k<s.size
  ·have hb:=zcK hlt;by_cases a1:97≤byt s k∧byt s k≤122
   ·have e1:decide (97≤((s[k]'hlt).toNat:Int))=true:=by rw [hb];simp;omega
    have e2:decide (((s[k]'hlt).toNat:Int)≤122)=true:=by rw [hb];simp;omega
    have HT':Hid (nmTo s (k+1)):=fun i hi=>by
     by_cases h:i<k
     ·exact HT.out i h
     ·obtain rfl:i=k:=by omega
      exact .inl a1
    go_wp2;go_roundw
    case rel=>exact⟨k+1,by omega,by go_num,HT',by first | rfl | trivial⟩
    case measure=>simp [intOf];omega
   ·have HA:Hid (¬(97≤byt s k∧byt s k≤122)):=a1;by_cases a2:48≤byt s k∧byt s k≤57
    ·have e1:decide (48≤((s[k]'hlt).toNat:Int))=true:=by rw [hb];simp;omega
     have e2:decide (((s[k]'hlt).toNat:Int)≤57)=true:=by rw [hb];simp;omega
     have e3:decide (97≤((s[k]'hlt).toNat:Int))=false:=by rw [hb];simp;omega
     have hk0:k≠0:=fun h=>by subst h;exact HA.out HF.out
     have HT':Hid (nmTo s (k+1)):=fun i hi=>by
      by_cases h:i<k
      ·exact HT.out i h
      ·obtain rfl:i=k:=by omega
       exact .inr ⟨a2.1,a2.2,hk0⟩
     go_wp2;go_roundw
     case rel=>exact⟨k+1,by omega,by go_num,HT',by first | rfl | trivial⟩
     case measure=>simp [intOf];omega
    ·obtain rfl:false=r:=(zbL hlt (by rintro (h | h);exact HA.out h;exact a2 ⟨h.1,h.2.1⟩)).symm.trans HR.out;by_cases b1:97≤byt s k
     ·have e1:decide (97≤((s[k]'hlt).toNat:Int))=true:=by rw [hb];simp;omega
      have e2:decide (((s[k]'hlt).toNat:Int)≤122)=false:=by rw [hb];simp;omega
      have e3:decide (48≤((s[k]'hlt).toNat:Int))=true:=by rw [hb];simp;omega
      have e4:decide (((s[k]'hlt).toNat:Int)≤57)=false:=by rw [hb];simp;omega
      clear hb a1 a2 b1;go_wp2;go_ret;exact⟨rfl,rfl⟩
     ·have e1:decide (97≤((s[k]'hlt).toNat:Int))=false:=by rw [hb];simp;omega
      by_cases b2:48≤byt s k
      ·have e3:decide (48≤((s[k]'hlt).toNat:Int))=true:=by rw [hb];simp;omega
       have e4:decide (((s[k]'hlt).toNat:Int)≤57)=false:=by rw [hb];simp;omega
       clear hb a1 a2 b1 b2;go_wp2;go_ret;exact⟨rfl,rfl⟩
      ·have e3:decide (48≤((s[k]'hlt).toNat:Int))=false:=by rw [hb];simp;omega
       clear hb a1 a2 b1 b2;go_wp2;go_ret;exact⟨rfl,rfl⟩
  ·obtain rfl:k=s.size:=by omega
   obtain rfl:true=r:=(zeU (by omega) hs8 HT.out).symm.trans HR.out;go_wp2;go_ret;exact⟨rfl,rfl⟩
def sizeOk (n:Int):Bool:=decide (1≤n∧n≤4)
theorem zbx (n:Int)(w:World):Calls Tryz.prog 24 #[.int .i64 n] w fun e w'=>e=.returned (.bool (sizeOk n))∧w'=w:=by
 unfold sizeOk;by_cases h1:1≤n
 ·have g1:decide (1≤n)=true:=decide_eq_true h1;by_cases h4:n≤4
  ·have g2:decide (n≤4)=true:=decide_eq_true h4;rw [decide_eq_true (show 1≤n∧n≤4 from⟨h1,h4⟩)];go_enter Tryz.func24,Tryz.ntmps24;go_wp2;go_ret;exact⟨rfl,rfl⟩
  ·have g2:decide (n≤4)=false:=decide_eq_false h4;rw [decide_eq_false (show ¬(1≤n∧n≤4) from fun h=>h4 h.2)];go_enter Tryz.func24,Tryz.ntmps24;go_wp2;go_ret;exact⟨rfl,rfl⟩
 ·have g1:decide (1≤n)=false:=decide_eq_false h1;rw [decide_eq_false (show ¬(1≤n∧n≤4) from fun h=>h1 h.1)];go_enter Tryz.func24,Tryz.ntmps24;go_wp2;go_ret;exact⟨rfl,rfl⟩
def errV (c:Nat):Value:=if c=0 then .nilIface else .iface 66 (.int .i64 (c:Int))
theorem RowS.form(h:RowS w v ks):∃ ao cap,v=.slice ao ks.length cap:=by
 obtain⟨ao,cap,e,-⟩:=h;exact⟨ao,cap,e⟩
theorem RowS.cellAt{ao:Option Addr}(h:RowS w (.slice ao ks.length cap) ks)(k:Nat)(hk:k<ks.length):∃ b off,ao=some ⟨b,off,none⟩∧b<w.heap.size∧w.cell? ⟨b,off+k,none⟩=some (.int .i64 (ks.getD k 0)):=by
 obtain⟨ao',cap',e,-,-,h⟩:=h;simp only [zV,true_and] at e;obtain⟨rfl,rfl⟩:=e;obtain⟨b,off,rfl,hlt,hc⟩:=h (by omega);exact⟨b,off,rfl,hlt,hc k hk⟩
theorem zeq{v:List Int}(hn:(v.length:Int)=n)(hk:k<v.length)(h:v.getD k 0 < -999∨999<v.getD k 0):genF v n=1:=by
 unfold genF;rw [if_pos hn,if_neg];rw [List.all_eq_true];intro h';have:=h' v[k] (List.getElem_mem hk);have e:v.getD k 0=v[k]:=by rw [zG,List.getElem?_eq_getElem hk];rfl
 rw [e] at h;simp at this;omega
theorem zep{v:List Int}(hn:(v.length:Int)=n)(h:∀ k,k<v.length→-999≤v.getD k 0∧v.getD k 0≤999):genF v n=0:=by
 refine zag.2 ⟨hn,fun z hz=>?_⟩;obtain⟨k,hk,rfl⟩:=List.getElem_of_mem hz;have:=h k hk
 rwa [zG,List.getElem?_eq_getElem hk] at this
theorem zd4 (w:World)(v:Value)(ks:List Int)(n:Int)(hv:RowS w v ks)(hl6:ks.length≤1000000):Calls Tryz.prog 25 #[v,.int .i64 n] w fun e w'=>e=.returned (errV (genF ks n))∧w'=w:=by
 have HV:=hide hv;obtain⟨ao,cap,rfl⟩:=hv.form;clear hv;by_cases hn:(ks.length:Int)=n
 ·have g1:((ks.length:Int) != n)=false:=by rw [bne_eq_false_iff_eq];exact hn
  have HN:=hide hn;generalize hr:genF ks n=r;have HR:=hide hr;clear hr hn;go_enter Tryz.func25,Tryz.ntmps25;go_wp2;go_loopw [13] (fun i wr=>∃ k:Nat,k≤ks.length∧i=.int .i64 k∧Hid (∀ j,j<k→-999≤ks.getD j 0∧ks.getD j 0≤999)∧wr=w) (fun i _=>ks.length-(intOf i).toNat)
  case atStart=>exact⟨0,Nat.zero_le _,rfl,hide (fun j hj=>absurd hj (by omega)),rfl⟩
  case round=>
   obtain⟨k,hk,rfl,HA,hw⟩:=hrel;subst wr;by_cases hkl:k<ks.length
   ·obtain⟨b,off,rfl,hlt,hc⟩:=HV.out.cellAt k hkl;have HG:Hid ((ks.getD k 0 < -999∨999<ks.getD k 0)→r=1):=fun h=>HR.out.symm.trans (zeq HN.out hkl h);have HA':Hid ((-999≤ks.getD k 0∧ks.getD k 0≤999)→∀ j,j<k+1→-999≤ks.getD j 0∧ks.getD j 0≤999):=fun h j hj=>by
     by_cases e:j<k
     ·exact HA.out j e
     ·obtain rfl:j=k:=by omega
      exact h
    generalize ks.getD k 0=z at *;by_cases h1:z < -999
    ·have e1:decide (z < -999)=true:=decide_eq_true h1;obtain rfl:=HG.out (.inl h1);clear h1;go_wp2;go_ret;exact⟨rfl,rfl⟩
    ·have e1:decide (z < -999)=false:=decide_eq_false h1;by_cases h2:999<z
     ·have e2:decide (999<z)=true:=decide_eq_true h2;obtain rfl:=HG.out (.inr h2);clear h1 h2;go_wp2;go_ret;exact⟨rfl,rfl⟩
     ·have e2:decide (999<z)=false:=decide_eq_false h2;have HA2:=hide (HA'.out ⟨by omega,by omega⟩);clear h1 h2;go_wp2;go_roundw
      case rel=>exact⟨k+1,by omega,by go_num,HA2,by first | rfl | trivial⟩
      case measure=>simp [intOf];omega
   ·obtain rfl:k=ks.length:=by omega
    obtain rfl:0=r:=(zep HN.out HA.out).symm.trans HR.out;go_wp2;go_ret;exact⟨rfl,rfl⟩
 ·have g1:((ks.length:Int) != n)=true:=by rw [bne_iff_ne];exact hn
  have hr:genF ks n=6:=by unfold genF;rw [if_neg hn]
  rw [hr];clear hn;go_enter Tryz.func25,Tryz.ntmps25;go_wp2;go_ret;exact⟨rfl,rfl⟩
theorem zes (w:World)(v:Value)(ks:List Int)(n:Int)(hv:RowS w v ks)(hl6:ks.length≤1000000):Calls Tryz.prog 21 #[v,.int .i64 n] w fun e w'=>e=.returned (.int .i64 ((genF ks n:Nat):Int))∧w'=w:=by
 have HV:=hide hv;obtain⟨ao,cap,rfl⟩:=hv.form;clear hv;by_cases hn:(ks.length:Int)=n
 ·have g1:((ks.length:Int) != n)=false:=by rw [bne_eq_false_iff_eq];exact hn
  have HN:=hide hn;generalize hr:genF ks n=r;have HR:=hide hr;clear hr hn;go_enter Tryz.func21,Tryz.ntmps21;go_wp2;go_loopw [5] (fun i wr=>∃ k:Nat,k≤ks.length∧i=.int .i64 k∧Hid (∀ j,j<k→-999≤ks.getD j 0∧ks.getD j 0≤999)∧wr=w) (fun i _=>ks.length-(intOf i).toNat)
  case atStart=>exact⟨0,Nat.zero_le _,rfl,hide (fun j hj=>absurd hj (by omega)),rfl⟩
  case round=>
   obtain⟨k,hk,rfl,HA,hw⟩:=hrel;subst wr;by_cases hkl:k<ks.length
   ·obtain⟨b,off,rfl,hlt,hc⟩:=HV.out.cellAt k hkl;have HG:Hid ((ks.getD k 0 < -999∨999<ks.getD k 0)→r=1):=fun h=>HR.out.symm.trans (zeq HN.out hkl h);have HA':Hid ((-999≤ks.getD k 0∧ks.getD k 0≤999)→∀ j,j<k+1→-999≤ks.getD j 0∧ks.getD j 0≤999):=fun h j hj=>by
     by_cases e:j<k
     ·exact HA.out j e
     ·obtain rfl:j=k:=by omega
      exact h
    generalize ks.getD k 0=z at *;by_cases h1:z < -999
    ·have e1:decide (z < -999)=true:=decide_eq_true h1;obtain rfl:=HG.out (.inl h1);clear h1;go_wp2;go_ret;exact⟨rfl,rfl⟩
    ·have e1:decide (z < -999)=false:=decide_eq_false h1;by_cases h2:999<z
     ·have e2:decide (999<z)=true:=decide_eq_true h2;obtain rfl:=HG.out (.inr h2);clear h1 h2;go_wp2;go_ret;exact⟨rfl,rfl⟩
     ·have e2:decide (999<z)=false:=decide_eq_false h2;have HA2:=hide (HA'.out ⟨by omega,by omega⟩);clear h1 h2;go_wp2;go_roundw
      case rel=>exact⟨k+1,by omega,by go_num,HA2,by first | rfl | trivial⟩
      case measure=>simp [intOf];omega
   ·obtain rfl:k=ks.length:=by omega
    obtain rfl:0=r:=(zep HN.out HA.out).symm.trans HR.out;go_wp2;go_ret;exact⟨rfl,rfl⟩
 ·have g1:((ks.length:Int) != n)=true:=by rw [bne_iff_ne];exact hn
  have hr:genF ks n=6:=by unfold genF;rw [if_neg hn]
  rw [hr];clear hn;go_enter Tryz.func21,Tryz.ntmps21;go_wp2;go_ret;exact⟨rfl,rfl⟩
theorem zfq (w:World)(va vb:Value)(xs ys:List Int)(ha:RowS w va xs)(hb:RowS w vb ys)(hl6:xs.length≤1000000):Calls Tryz.prog 36 #[va,vb] w fun e w'=>e=.returned (.bool (decide (xs=ys)))∧Below w.heap.size w w':=by
 have HA:=hide ha;have HB:=hide hb;obtain⟨ao,acap,rfl⟩:=ha.form;obtain⟨bo,bcap,rfl⟩:=hb.form;clear ha hb;by_cases hl:xs.length=ys.length
 ·have g1:((xs.length:Int) !=(ys.length:Int))=false:=by rw [bne_eq_false_iff_eq];omega
  have HL:=hide hl;generalize hr:decide (xs=ys)=r;have HR:=hide hr;clear hr hl;go_enter Tryz.func36,Tryz.ntmps36;go_wp2;go_loopw [5] (fun i wr=>∃ k:Nat,k≤xs.length∧i=.int .i64 k∧Hid (∀ j,j<k→xs.getD j 0=ys.getD j 0)∧Hid (Below w.heap.size w wr)) (fun i _=>xs.length-(intOf i).toNat)
  case atStart=>exact⟨0,Nat.zero_le _,rfl,hide (fun j hj=>absurd hj (by omega)),hide (zB _ _)⟩
  case round=>
   obtain⟨k,hk,rfl,HE,HBE⟩:=hrel;by_cases hkl:k<xs.length
   ·have hky:k<ys.length:=by have:=HL.out;omega
    obtain⟨b1,o1,rfl,hlt1,c1⟩:=(HA.out.below HBE.out zL).cellAt k hkl;obtain⟨b2,o2,rfl,hlt2,c2⟩:=(HB.out.below HBE.out zL).cellAt k hky;have HNE:Hid (xs.getD k 0≠ys.getD k 0→r=false):=fun h=>by
     rw [← HR.out];exact decide_eq_false fun e=>h (by rw [e])
    have HE':Hid (xs.getD k 0=ys.getD k 0→∀ j,j<k+1→xs.getD j 0=ys.getD j 0):=fun h j hj=>by
     by_cases e:j<k
     ·exact HE.out j e
     ·obtain rfl:j=k:=by omega
      exact h
    generalize xs.getD k 0=z at *;generalize ys.getD k 0=y at *;have HBD:=hide (HBE.out.drew);go_wp2_with fail
    go_region_held3 (fun w'=>w'.cell? ⟨b1,o1+k,none⟩=some (.int .i64 z)∧w'.cell? ⟨b2,o2+k,none⟩=some (.int .i64 y)) (go_keep) (fail)
    by_cases hz:z=y
    ·have e1:(z != y)=false:=by rw [bne_eq_false_iff_eq];exact hz
     have HE2:=hide (HE'.out hz);clear hz;go_wp2;go_roundw
     case rel=>exact⟨k+1,by omega,by go_num,HE2,by first | exact HBD | exact HBE⟩
     case measure=>simp [intOf];omega
    ·have e1:(z != y)=true:=by rw [bne_iff_ne];exact hz
     obtain rfl:=HNE.out hz;clear hz;go_wp2;go_ret;exact⟨rfl,by first | exact HBD.out | exact HBE.out⟩
   ·obtain rfl:k=xs.length:=by omega
    obtain rfl:true=r:=by
     rw [← HR.out];refine(decide_eq_true ?_).symm;apply List.ext_getElem HL.out;intro j h1 h2;have:=HE.out j h1
     rwa [zG,zG,List.getElem?_eq_getElem h1,List.getElem?_eq_getElem h2] at this
    go_wp2;go_ret;exact⟨rfl,HBE.out⟩
 ·have g1:((xs.length:Int) !=(ys.length:Int))=true:=by rw [bne_iff_ne];omega
  have hr:decide (xs=ys)=false:=decide_eq_false fun e=>hl (by rw [e]);rw [hr];clear hr hl;go_enter Tryz.func36,Tryz.ntmps36;go_wp2;go_ret;exact⟨rfl,zB _ _⟩
theorem zhk (w:World)(va vb:Value)(xs ys:List Int)(ha:RowS w va xs)(hb:RowS w vb ys)(hl6:xs.length≤1000000):Calls Tryz.prog 56 #[va,vb] w fun e w'=>e=.returned (.bool (decide (xs=ys)))∧Below w.heap.size w w':=by
 have HA:=hide ha;have HB:=hide hb;obtain⟨ao,acap,rfl⟩:=ha.form;obtain⟨bo,bcap,rfl⟩:=hb.form;clear ha hb;by_cases hl:xs.length=ys.length
 ·have g1:((xs.length:Int) !=(ys.length:Int))=false:=by rw [bne_eq_false_iff_eq];omega
  have HL:=hide hl;generalize hr:decide (xs=ys)=r;have HR:=hide hr;clear hr hl;go_enter Tryz.func56,Tryz.ntmps56;go_wp2;go_loopw [13] (fun i wr=>∃ k:Nat,k≤xs.length∧i=.int .i64 k∧Hid (∀ j,j<k→xs.getD j 0=ys.getD j 0)∧Hid (Below w.heap.size w wr)) (fun i _=>xs.length-(intOf i).toNat)
  case atStart=>exact⟨0,Nat.zero_le _,rfl,hide (fun j hj=>absurd hj (by omega)),hide (zB _ _)⟩
  case round=>
   obtain⟨k,hk,rfl,HE,HBE⟩:=hrel;by_cases hkl:k<xs.length
   ·have hky:k<ys.length:=by have:=HL.out;omega
    obtain⟨b1,o1,rfl,hlt1,c1⟩:=(HA.out.below HBE.out zL).cellAt k hkl;obtain⟨b2,o2,rfl,hlt2,c2⟩:=(HB.out.below HBE.out zL).cellAt k hky;have HNE:Hid (xs.getD k 0≠ys.getD k 0→r=false):=fun h=>by
     rw [← HR.out];exact decide_eq_false fun e=>h (by rw [e])
    have HE':Hid (xs.getD k 0=ys.getD k 0→∀ j,j<k+1→xs.getD j 0=ys.getD j 0):=fun h j hj=>by
     by_cases e:j<k
     ·exact HE.out j e
     ·obtain rfl:j=k:=by omega
      exact h
    generalize xs.getD k 0=z at *;generalize ys.getD k 0=y at *;have HBD:=hide (HBE.out.drew);go_wp2_with fail
    go_region_held3 (fun w'=>w'.cell? ⟨b1,o1+k,none⟩=some (.int .i64 z)∧w'.cell? ⟨b2,o2+k,none⟩=some (.int .i64 y)) (go_keep) (fail)
    by_cases hz:z=y
    ·have e1:(z != y)=false:=by rw [bne_eq_false_iff_eq];exact hz
     have HE2:=hide (HE'.out hz);clear hz;go_wp2;go_roundw
     case rel=>exact⟨k+1,by omega,by go_num,HE2,by first | exact HBD | exact HBE⟩
     case measure=>simp [intOf];omega
    ·have e1:(z != y)=true:=by rw [bne_iff_ne];exact hz
     obtain rfl:=HNE.out hz;clear hz;go_wp2;go_ret;exact⟨rfl,by first | exact HBD.out | exact HBE.out⟩
   ·obtain rfl:k=xs.length:=by omega
    obtain rfl:true=r:=by
     rw [← HR.out];refine(decide_eq_true ?_).symm;apply List.ext_getElem HL.out;intro j h1 h2;have:=HE.out j h1
     rwa [zG,zG,List.getElem?_eq_getElem h1,List.getElem?_eq_getElem h2] at this
    go_wp2;go_ret;exact⟨rfl,HBE.out⟩
 ·have g1:((xs.length:Int) !=(ys.length:Int))=true:=by rw [bne_iff_ne];omega
  have hr:decide (xs=ys)=false:=decide_eq_false fun e=>hl (by rw [e]);rw [hr];clear hr hl;go_enter Tryz.func56,Tryz.ntmps56;go_wp2;go_ret;exact⟨rfl,zB _ _⟩
end Go.Proofs.YtncamilanceahaaGreat
