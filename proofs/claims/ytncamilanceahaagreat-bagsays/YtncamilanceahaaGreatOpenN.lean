import Derived.Test.YtncamilanceahaaGreatBjE
set_option maxRecDepth 100000
set_option maxHeartbeats 3200000
set_option linter.unusedSimpArgs false
namespace Go.Proofs.YtncamilanceahaaGreat
open Go.RowKit
variable{v:Value}{n b0:Nat}
theorem Nat.pos_of_lt'{k l:Nat}(h:k<l):0<l:=by omega
theorem zgl (w:World)(ao:Option Addr)(cap:Nat)(os:List OpC)(nm:ByteArray)(n:Int)(gens:List (List Int))(go:Option Addr)(gl gc:Nat)(hops:OpsN w (.slice ao os.length cap) os)(hin:NcIn w ⟨⟨nm,n,gens⟩,go,gl,gc⟩):
  Calls Tryz.prog 3 #[.slice ao os.length cap,.agg #[.string nm,.int .i64 n,.slice go gl gc]] w (fun e w'=>e=.returned (.bool true)∧Below w.heap.size w w'):=by
 have HO:=hide hops;have HI:=hide hin;have HB:=hide (zi w (.cells #[.string nm,.int .i64 n,.slice go gl gc] 25));have X3:=hide (ThreeV.new w (.string nm) (.int .i64 n) (.slice go gl gc) 25);have hgl:gl=gens.length:=by
  obtain⟨_,_,e,-⟩:=id hin;simp only [zV] at e;exact e.2.1
 have HGL:=hide hgl;clear hops hin hgl;go_enter Tryz.func3,Tryz.ntmps3;go_wp2_with fail;generalize w.alloc (.cells #[.string nm,.int .i64 n,.slice go gl gc] 25)=W0 at *;refine(zgn W0).mono ?_;rintro e w1 ⟨rfl,hb1⟩;have X3':=hide (X3.out.later hb1);clear X3;have X3:=X3';clear X3';have HB':=hide (HB.out.trans (hb1.mono HB.out.size));clear HB;have HB:=HB';clear HB';clear hb1;go_wp2_with fail;refine(zh7 w1 _ os 60 (HO.out.below HB.out) (by omega)).mono ?_;rintro e w2 ⟨rfl,rfl⟩;obtain⟨c0,c1,c2,-⟩:=X3.out;cases hL:lightL os 60 with
 | false=>
  go_wp2;go_ret;exact⟨rfl,HB.out⟩
 | true=>
  by_cases h14:14<gl
  ·have g0:decide (14<(gl:Int))=true:=decide_eq_true (by omega);clear h14;go_wp2;go_ret;exact⟨rfl,HB.out⟩
  have g0:decide (14<(gl:Int))=false:=decide_eq_false (by omega);by_cases h30:30<nm.size
  ·have g1:decide (30<(nm.size:Int))=true:=decide_eq_true (by omega);clear h30;go_wp2;go_ret;exact⟨rfl,HB.out⟩
  have g1:decide (30<(nm.size:Int))=false:=decide_eq_false (by omega);obtain⟨hl60,hli⟩:=zh6 hL;have HLI:=hide hli;have HLN:=hide hl60;have H14:=hide h14;clear hli hL hl60 h14 h30;go_upto_block 0 with fail;go_cut [4,6] from 19 (fun _ _ wc=>wc=w2∧∀ g∈gens,g.length≤10)
  case first=>
   clear HLI HLN g0 g1;have hgl14:gl≤14:=by have:=H14.out;omega
   go_wp2_with fail;go_loopw [6] (fun i wr=>∃ k:Nat,k≤gl∧i=.int .i64 k∧wr=w2∧Hid (∀ g∈gens.take k,g.length≤10)) (fun i _=>gl-(intOf i).toNat)
   case atStart=>exact⟨0,Nat.zero_le _,rfl,rfl,hide (fun g hg=>by simp at hg)⟩
   case round=>
    obtain⟨k,hk,rfl,hwr,HT⟩:=hrel;subst wr;by_cases hkl:k<gl
    ·have HKL:Hid (k<gens.length):=by show _<_;have:=HGL.out;omega
     obtain⟨go',gc',e,-,hh⟩:=HI.out.below HB.out;simp only [zV] at e;obtain⟨rfl,-,rfl⟩:=e;obtain⟨b,off,rfl,hlt,hc⟩:=hh (Nat.pos_of_lt' HKL.out);obtain⟨u,hu,hr⟩:=hc k gens[k] (List.getElem?_eq_getElem HKL.out);obtain⟨uo,uc,rfl⟩:=hr.form;obtain⟨l,hl⟩:∃ l,gens[k].length=l:=⟨_,rfl⟩;rw [hl] at hu;have HLL:Hid (l≤10→∀ g∈gens.take (k+1),g.length≤10):=fun h10 g hg=>by
      rw [List.take_succ_eq_append_getElem HKL.out] at hg;rcases List.mem_append.1 hg with h | h
      ·exact HT.out g h
      ·rw [List.mem_singleton.1 h];exact Nat.le_trans (Nat.le_of_eq hl) h10
     clear hh hc hr hl;by_cases h10:10<l
     ·have g0:decide (10<(l:Int))=true:=decide_eq_true (by omega);clear h10;go_wp2;go_ret;exact⟨rfl,HB.out⟩
     ·have g0:decide (10<(l:Int))=false:=decide_eq_false (by omega);have HL2:=hide (HLL.out (by omega));clear h10 HLL;go_wp2;go_roundw
      case rel=>exact⟨k+1,by omega,by go_num,by trivial,HL2⟩
      case measure=>simp [intOf];omega
    ·obtain rfl:k=gl:=by omega
     have HT2:Hid (∀ g∈gens,g.length≤10):=by
      have h:=HT.out;rw [HGL.out,List.take_length] at h;exact h
     clear HT;go_wp2_with fail;go_meet
     case rel=>exact⟨rfl,HT2.out⟩
  case rest=>
   obtain⟨rfl,h10⟩:=hcut;apply_assumption;exact zgj w _ ao cap w.heap.size os nm n gens go gl gc HB.out HO.out (fun q hq=>(HLI.out q hq).2) (by have:=HLN.out;omega) X3.out HI.out (by have:=HGL.out;have:=H14.out;omega) h10
open Go.ChangeShapes Go.WideShapes Go.ChangeAt Go.Joins Limbs
theorem Tryz.cellsIntS:Tryz.prog.cellsOf 28=1:=by kernel_rfl
theorem Tryz.cellsInt:Tryz.prog.cellsOf 3=1:=by kernel_rfl
theorem ze0 {H:Type}{enc:TypeId × Value→H}{W:World}{y:DataW H × List MemPlace}
  (h:DataW.trod enc Tryz.prog W 0 (fun _=>true) true n 28 [v]=some y):∃ ks,RowS W v ks:=by
 rcases open_ints Tryz.underlying28 Tryz.underlying3 Tryz.cellsInt h with⟨hcs,_⟩ |⟨x,l,c,zs,hcs,_,hl,hm,hz,_,hcell,hwz⟩
 ·simp only [List.cons.injEq,and_true] at hcs;subst hcs;exact⟨[],none,0,rfl,Nat.le_refl _,fun i=>by simp,fun h=>absurd h (by simp)⟩
 ·simp only [List.cons.injEq,and_true] at hcs;subst hcs;have hz':zs.length=c:=by simpa using hz
  have hlen:(zs.take l).length=l:=by rw [List.length_take];omega
  refine⟨zs.take l,some x,c,by rw [hlen],by rw [hlen];exact hl,fun i=>?_,fun h0=>?_⟩
  ·by_cases hi:i<(zs.take l).length
   ·rw [zG,List.getElem?_eq_getElem hi,Option.getD_some];have:=hwz _ (List.mem_of_mem_take (List.getElem_mem hi));simp [Lit.wf,IntKind.min,IntKind.max,IntKind.signed,IntKind.bits] at this;rw [List.getElem_take];omega
   ·rw [zG,List.getElem?_eq_none (by omega)];simp
  ·obtain⟨blk,off,spot⟩:=x;rw [hlen] at h0;have h00:=hcell 0 (by omega);have hspot:spot=none:=by simpa [Addr.add] using World.cell?_spot h00
   subst hspot;refine⟨blk,off,rfl,World.block_lt_of_cell? W _ h00,fun i hi=>?_⟩;rw [hlen] at hi;have:=hcell i (by omega);rw [zay zs l i (by omega)];by_cases hi0:i=0
   ·subst hi0;simpa [Addr.add] using this
   ·simpa [Addr.add,hi0] using this
theorem Tryz.cellsOpF:Tryz.prog.cellsOf 50=4:=by kernel_rfl
theorem Tryz.cellsStrF:Tryz.prog.cellsOf 9=1:=by kernel_rfl
instance:Inhabited OpC:=⟨⟨⟨0,⟨#[]⟩,0,[]⟩,none,0⟩⟩
section
variable {H:Type}{enc:TypeId × Value→H}{W:World}
theorem ziI{cs:List Value}{y:DataW H × List MemPlace}(h:DataW.trod enc Tryz.prog W 0 (fun _=>true) true n 50 cs=some y):
  ∃ q:OpC,cs[0]?=some (.int .i64 q.o.kind)∧cs[1]?=some (.string q.o.name)∧cs[2]?=some (.int .i64 q.o.n)∧cs[3]?=some q.row∧RowS W q.row q.o.v:=by
 obtain⟨xs,k,-,-,hl,hxl,hf⟩:=DataW.trod_struct Tryz.underlying50 h;rw [Tryz.cellsOpF] at hl
 match cs,hl with
 | [v0,v1,v2,v3],_=>
  match xs,hxl with
  | [x0,x1,x2,x3],_=>
   have g0:DataW.trod enc Tryz.prog W 0 (fun _=>true) true k 3 (([v0,v1,v2,v3].drop 0).take (Tryz.prog.cellsOf 3))=[x0,x1,x2,x3][0]?:=hf 0 _ rfl;have g1:DataW.trod enc Tryz.prog W 0 (fun _=>true) true k 9 (([v0,v1,v2,v3].drop 1).take (Tryz.prog.cellsOf 9))=[x0,x1,x2,x3][1]?:=hf 1 _ rfl;have g2:DataW.trod enc Tryz.prog W 0 (fun _=>true) true k 3 (([v0,v1,v2,v3].drop 2).take (Tryz.prog.cellsOf 3))=[x0,x1,x2,x3][2]?:=hf 2 _ rfl;have g3:DataW.trod enc Tryz.prog W 0 (fun _=>true) true k 28 (([v0,v1,v2,v3].drop 3).take (Tryz.prog.cellsOf 28))=[x0,x1,x2,x3][3]?:=hf 3 _ rfl;rw [Tryz.cellsInt] at g0 g2;rw [Tryz.cellsStrF] at g1;rw [Tryz.cellsIntS] at g3;obtain⟨kd,e0,-,-⟩:=DataW.trod_int Tryz.underlying3 g0;obtain⟨name,e1,-,-⟩:=DataW.trod_string Tryz.underlying9 g1;obtain⟨nn,e2,-,-⟩:=DataW.trod_int Tryz.underlying3 g2;obtain⟨ks,hr⟩:=ze0 (v:=v3) g3;have e0':v0=.int .i64 kd:=by simpa using e0
   have e1':v1=.string name:=by simpa using e1
   have e2':v2=.int .i64 nn:=by simpa using e2
   obtain⟨vo,vc,e3'⟩:=RowS.form hr;subst e0' e1' e2' e3';exact⟨⟨⟨kd,name,nn,ks⟩,vo,vc⟩,rfl,rfl,rfl,rfl,hr⟩
theorem ziJ{y:DataW H × List MemPlace}(h:DataW.trod enc Tryz.prog W 0 (fun _=>true) true n 22 [v]=some y):∃ os,OpsN W v os:=by
 rcases Go.Deep.open_slice Tryz.underlying22 h with⟨e,-⟩ |⟨a,l,c,m,n,D,Pl,e,-,hl,hm,hmm,-,hc⟩
 ·have e':v=.slice none 0 0:=by simpa using e
  exact⟨[],none,0,e',by decide,fun h=>absurd h (by decide)⟩
 ·have e':v=.slice (some a) l c:=by simpa using e
  have hm':l≤m:=by simp at hmm;omega
  have each:∀ i,i<l→∃ q:OpC,W.cell? (a.add (i*4+0))=some (.int .i64 q.o.kind)∧W.cell? (a.add (i*4+1))=some (.string q.o.name)∧W.cell? (a.add (i*4+2))=some (.int .i64 q.o.n)∧W.cell? (a.add (i*4+3))=some q.row∧RowS W q.row q.o.v:=fun i hi=>by
   obtain⟨cs,h1,h2⟩:=hc i (by omega);rw [Tryz.cellsOpF] at h1;obtain⟨-,hlen,hcell⟩:=World.cells?_some h1;obtain⟨q,e0,e1,e2,e3,hr⟩:=ziI h2;have c0:=hcell 0 (by omega);have c1:=hcell 1 (by omega);have c2:=hcell 2 (by omega);have c3:=hcell 3 (by omega);rw [Go.Deep.add_add,e0] at c0;rw [Go.Deep.add_add,e1] at c1;rw [Go.Deep.add_add,e2] at c2;rw [Go.Deep.add_add,e3] at c3;exact⟨q,c0,c1,c2,c3,hr⟩
  obtain⟨q,hq⟩:=Go.Deep.choose_lt each;have hlen:((List.range l).map q).length=l:=by simp
  refine⟨(List.range l).map q,some a,c,by rw [hlen];exact e',by rw [hlen];exact hl,fun h0=>?_⟩;rw [hlen] at h0;obtain⟨k0,-⟩:=hq 0 h0;obtain⟨blk,off,spot⟩:=a;have hsp:spot=none:=by simpa [Addr.add] using World.cell?_spot k0
  subst hsp;refine⟨blk,off,rfl,by simpa [Addr.add] using World.block_lt_of_cell? W _ k0,fun i r hi=>?_⟩;obtain⟨hi',e⟩:=List.getElem?_eq_some_iff.1 hi;rw [hlen] at hi';have e2:r=q i:=by simpa using e.symm
  obtain⟨c0,c1,c2,c3,hr⟩:=hq i hi';rw [Go.WideShapes.add_plain] at c0 c1 c2 c3;rw [e2];refine⟨by simpa using c0,?_,?_,?_,hr⟩
  ·rw [Nat.add_assoc];exact c1
  ·rw [Nat.add_assoc];exact c2
  ·rw [Nat.add_assoc];exact c3
theorem ziK {r:Reach}{d:DataW H}{p:List MemPlace}(hv:Value.okWide Tryz.prog W r b0 22 v)(h:DataW.Trod enc Tryz.prog W 0 (fun _=>true) true 22 v d p):∃ os,OpsN W v os:=by
 obtain⟨a0,len,cap,rfl⟩:=okWide_slice Tryz.underlying22 hv;obtain⟨fuel,hf⟩:=h;exact ziJ (v:=.slice a0 len cap) hf
end
theorem Tryz.cellsNamedF:Tryz.prog.cellsOf 25=3:=by kernel_rfl
section
variable {H:Type}{enc:TypeId × Value→H}{W:World}
theorem ziL{y:DataW H × List MemPlace}(h:DataW.trod enc Tryz.prog W 0 (fun _=>true) true n 23 [v]=some y):∃ rs,RowsS W v rs:=by
 rcases Go.Deep.open_slice1 Tryz.underlying23 Tryz.cellsIntS h with⟨hcs,_⟩ |⟨a,l,c,m,n,V,D,Pl,hcs,_,hl,hm,hmm,_,hc⟩
 ·simp only [List.cons.injEq,and_true] at hcs;subst hcs;exact⟨[],none,0,rfl,by simp,fun h=>absurd h (by simp)⟩
 ·simp only [List.cons.injEq,and_true] at hcs;subst hcs;have hm':l≤m:=by simp at hmm;omega
  have each:∀ i,i<l→∃ ks:List Int,RowS W (V i) ks:=fun i hi=>ze0 (hc i (by omega)).2;obtain⟨q,hq⟩:=Go.Deep.choose_lt each;have hlen:((List.range l).map q).length=l:=by simp
  refine⟨(List.range l).map q,some a,c,by rw [hlen],by rw [hlen];exact hl,fun h0=>?_⟩;rw [hlen] at h0;obtain⟨k0,-⟩:=hc 0 (by omega);obtain⟨blk,off,spot⟩:=a;have hsp:spot=none:=by simpa [Addr.add] using World.cell?_spot k0
  subst hsp;refine⟨blk,off,rfl,by simpa [Addr.add] using World.block_lt_of_cell? W _ k0,fun i rs hi=>?_⟩;obtain⟨hi',e⟩:=List.getElem?_eq_some_iff.1 hi;rw [hlen] at hi';have e':rs=q i:=by simpa using e.symm
  obtain⟨c0,-⟩:=hc i (by omega);rw [Go.WideShapes.add_plain] at c0;rw [e'];exact⟨_,c0,hq i hi'⟩
theorem ziH {r:Reach}{d:DataW H}{p:List MemPlace}(hv:Value.okWide Tryz.prog W r b0 25 v)(h:DataW.Trod enc Tryz.prog W 0 (fun _=>true) true 25 v d p):∃ q:Nc,v=q.val∧NcIn W q:=by
 obtain⟨c0,c1,c2,y0,y1,y2,m,rfl,rfl,rfl,hy0,hy1,hy2⟩:=open_agg3 Tryz.underlying25 (by kernel_rfl) Tryz.cellsNamedF hv h;obtain⟨name,e0,-,-⟩:=DataW.trod_string Tryz.underlying9 hy0;obtain⟨nn,e1,-,-⟩:=DataW.trod_int Tryz.underlying3 hy1;obtain⟨rs,hr⟩:=ziL (v:=c2) hy2;simp only [List.cons.injEq,and_true] at e0 e1;subst e0 e1;obtain⟨go,gc,rfl,-⟩:=id hr;exact⟨⟨⟨name,nn,rs⟩,go,rs.length,gc⟩,rfl,hr⟩
end
end Go.Proofs.YtncamilanceahaaGreat
