import Derived.Test.YtnhbfehfipafoaaGreatDoorBgB
import Derived.Test.YtnhbfehfipafoaaGreatDoorJoins
import Derived.ProofKit
import Derived.Lib.SmallJoins
import Derived.ChangeOld
import Derived.Test.YtnhbfehfipafoaaGreatDoorWaJ
import Derived.Test.YtnhbfehfipafoaaGreatDoorBgC
import Derived.Deep.SlicePairs
import Derived.Test.YtnhbfehfipafoaaGreatDoorSrR
namespace Go.Proofs.YtnhbfehfipafoaaGreatDoor
open Go.ChangeShapes Go.WideShapes Go.ChangeAt Go.RowKit Go.Joins Limbs
theorem Tryz.cellsIntS:Tryz.prog.cellsOf 41=1:=by kernel_rfl
theorem Tryz.cellsInt:Tryz.prog.cellsOf 3=1:=by kernel_rfl
set_option maxRecDepth 100000 in
theorem zhW {H:Type}{enc:TypeId × Value→H}{W:World}{n:Nat}{v:Value}{y:DataW H × List MemPlace}
  (h:DataW.trod enc Tryz.prog W 0 (fun _=>true) true n 41 [v]=some y):∃ ks,RowS W v ks:=by
 rcases open_ints Tryz.underlying41 Tryz.underlying3 Tryz.cellsInt h with⟨hcs,_⟩ |⟨x,l,c,zs,hcs,_,hl,hm,hz,_,hcell,hwz⟩
 ·simp only [List.cons.injEq,and_true] at hcs
  subst hcs
  exact⟨[],none,0,rfl,Nat.le_refl _,fun i=>by simp,fun h=>absurd h (by simp)⟩
 ·simp only [List.cons.injEq,and_true] at hcs
  subst hcs
  have hz':zs.length=c:=by simpa using hz
  have hlen:(zs.take l).length=l:=by rw [List.length_take];omega
  refine⟨zs.take l,some x,c,by rw [hlen],by rw [hlen];exact hl,fun i=>?_,fun h0=>?_⟩
  ·by_cases hi:i < (zs.take l).length
   ·rw [List.getD_eq_getElem?_getD,List.getElem?_eq_getElem hi,Option.getD_some]
    have:=hwz _ (List.mem_of_mem_take (List.getElem_mem hi))
    simp [Lit.wf,IntKind.min,IntKind.max,IntKind.signed,IntKind.bits] at this
    rw [List.getElem_take]
    omega
   ·rw [List.getD_eq_getElem?_getD,List.getElem?_eq_none (by omega)]
    simp
  ·obtain⟨blk,off,spot⟩:=x
   rw [hlen] at h0
   have h00:=hcell 0 (by omega)
   have hspot:spot=none:=by simpa [Addr.add] using World.cell?_spot h00
   subst hspot
   refine⟨blk,off,rfl,World.block_lt_of_cell? W _ h00,fun i hi=>?_⟩
   rw [hlen] at hi
   have:=hcell i (by omega)
   rw [zg1 zs l i (by omega)]
   by_cases hi0:i=0
   ·subst hi0;simpa [Addr.add] using this
   ·simpa [Addr.add,hi0] using this
end Go.Proofs.YtnhbfehfipafoaaGreatDoor
/- Operations that came in, as they read: all four cells. -/
namespace Go.Proofs.YtnhbfehfipafoaaGreatDoor
open Go.ChangeShapes Go.WideShapes Go.ChangeAt Go.RowKit Go.Joins
theorem Tryz.cellsOpF:Tryz.prog.cellsOf 43=4:=by kernel_rfl
theorem Tryz.cellsStrF:Tryz.prog.cellsOf 9=1:=by kernel_rfl
instance:Inhabited OpC:=⟨⟨⟨0,⟨#[]⟩,0,[]⟩,none,0⟩⟩
section
variable {H:Type}{enc:TypeId × Value→H}{W:World}
set_option maxRecDepth 100000 in
theorem zeS {n:Nat}{cs:List Value}{y:DataW H × List MemPlace}(h:DataW.trod enc Tryz.prog W 0 (fun _=>true) true n 43 cs=some y):
  ∃ q:OpC,cs[0]?=some (.int .i64 q.o.kind)∧cs[1]?=some (.string q.o.name)∧cs[2]?=some (.int .i64 q.o.n)∧cs[3]?=some q.row∧RowS W q.row q.o.v:=by
 obtain⟨xs,k,-,-,hl,hxl,hf⟩:=DataW.trod_struct Tryz.underlying43 h
 rw [Tryz.cellsOpF] at hl
 match cs,hl with
 | [v0,v1,v2,v3],_=>
  match xs,hxl with
  | [x0,x1,x2,x3],_=>
   have g0:DataW.trod enc Tryz.prog W 0 (fun _=>true) true k 3 (([v0,v1,v2,v3].drop 0).take (Tryz.prog.cellsOf 3))=[x0,x1,x2,x3][0]?:=hf 0 _ rfl
   have g1:DataW.trod enc Tryz.prog W 0 (fun _=>true) true k 9 (([v0,v1,v2,v3].drop 1).take (Tryz.prog.cellsOf 9))=[x0,x1,x2,x3][1]?:=hf 1 _ rfl
   have g2:DataW.trod enc Tryz.prog W 0 (fun _=>true) true k 3 (([v0,v1,v2,v3].drop 2).take (Tryz.prog.cellsOf 3))=[x0,x1,x2,x3][2]?:=hf 2 _ rfl
   have g3:DataW.trod enc Tryz.prog W 0 (fun _=>true) true k 41 (([v0,v1,v2,v3].drop 3).take (Tryz.prog.cellsOf 41))=[x0,x1,x2,x3][3]?:=hf 3 _ rfl
   rw [Tryz.cellsInt] at g0 g2
   rw [Tryz.cellsStrF] at g1
   rw [Tryz.cellsIntS] at g3
   obtain⟨kd,e0,-,-⟩:=DataW.trod_int Tryz.underlying3 g0
   obtain⟨name,e1,-,-⟩:=DataW.trod_string Tryz.underlying9 g1
   obtain⟨nn,e2,-,-⟩:=DataW.trod_int Tryz.underlying3 g2
   obtain⟨ks,hr⟩:=zhW (v:=v3) g3
   have e0':v0=.int .i64 kd:=by simpa using e0
   have e1':v1=.string name:=by simpa using e1
   have e2':v2=.int .i64 nn:=by simpa using e2
   obtain⟨vo,vc,e3'⟩:=RowS.form hr
   subst e0' e1' e2' e3'
   exact⟨⟨⟨kd,name,nn,ks⟩,vo,vc⟩,rfl,rfl,rfl,rfl,hr⟩
set_option maxRecDepth 100000 in
theorem zhV {n:Nat}{v:Value}{y:DataW H × List MemPlace}(h:DataW.trod enc Tryz.prog W 0 (fun _=>true) true n 44 [v]=some y):∃ os,OpsN W v os:=by
 rcases Go.Deep.open_slice Tryz.underlying44 h with⟨e,-⟩ |⟨a,l,c,m,n,D,Pl,e,-,hl,hm,hmm,-,hc⟩
 ·have e':v=.slice none 0 0:=by simpa using e
  exact⟨[],none,0,e',by decide,fun h=>absurd h (by decide)⟩
 ·have e':v=.slice (some a) l c:=by simpa using e
  have hm':l≤m:=by simp at hmm;omega
  have each:∀ i,i < l→∃ q:OpC,W.cell? (a.add (i * 4+0))=some (.int .i64 q.o.kind)∧W.cell? (a.add (i * 4+1))=some (.string q.o.name)∧W.cell? (a.add (i * 4+2))=some (.int .i64 q.o.n)∧W.cell? (a.add (i * 4+3))=some q.row∧RowS W q.row q.o.v:=fun i hi=>by
   obtain⟨cs,h1,h2⟩:=hc i (by omega)
   rw [Tryz.cellsOpF] at h1
   obtain⟨-,hlen,hcell⟩:=World.cells?_some h1
   obtain⟨q,e0,e1,e2,e3,hr⟩:=zeS h2
   have c0:=hcell 0 (by omega)
   have c1:=hcell 1 (by omega)
   have c2:=hcell 2 (by omega)
   have c3:=hcell 3 (by omega)
   rw [Go.Deep.add_add,e0] at c0
   rw [Go.Deep.add_add,e1] at c1
   rw [Go.Deep.add_add,e2] at c2
   rw [Go.Deep.add_add,e3] at c3
   exact⟨q,c0,c1,c2,c3,hr⟩
  obtain⟨q,hq⟩:=Go.Deep.choose_lt each
  have hlen:((List.range l).map q).length=l:=by simp
  refine⟨(List.range l).map q,some a,c,by rw [hlen];exact e',by rw [hlen];exact hl,fun h0=>?_⟩
  rw [hlen] at h0
  obtain⟨k0,-⟩:=hq 0 h0
  obtain⟨blk,off,spot⟩:=a
  have hsp:spot=none:=by simpa [Addr.add] using World.cell?_spot k0
  subst hsp
  refine⟨blk,off,rfl,by simpa [Addr.add] using World.block_lt_of_cell? W _ k0,fun i r hi=>?_⟩
  obtain⟨hi',e⟩:=List.getElem?_eq_some_iff.1 hi
  rw [hlen] at hi'
  have e2:r=q i:=by simpa using e.symm
  obtain⟨c0,c1,c2,c3,hr⟩:=hq i hi'
  rw [Go.WideShapes.add_plain] at c0 c1 c2 c3
  rw [e2]
  refine⟨by simpa using c0,?_,?_,?_,hr⟩
  ·rw [Nat.add_assoc];exact c1
  ·rw [Nat.add_assoc];exact c2
  ·rw [Nat.add_assoc];exact c3
end
end Go.Proofs.YtnhbfehfipafoaaGreatDoor
/- Acts with all their parts, and texts, that came in: as they read. -/
namespace Go.Proofs.YtnhbfehfipafoaaGreatDoor
open Go.ChangeShapes Go.WideShapes Go.ChangeAt Go.RowKit Go.Joins
theorem Tryz.cellsActW:Tryz.prog.cellsOf 46=9:=by kernel_rfl
theorem Tryz.cellsU64:Tryz.prog.cellsOf 40=1:=by kernel_rfl
theorem Tryz.cellsOpsW:Tryz.prog.cellsOf 44=1:=by kernel_rfl
def TxtsN (w:World)(v:Value)(ss:List ByteArray):Prop:=
 ∃ ao cap,v=.slice ao ss.length cap∧ss.length≤cap∧(0 < ss.length→∃ b off,ao=some ⟨b,off,none⟩∧b < w.heap.size∧∀ i s,ss[i]?=some s→w.cell? ⟨b,off+i,none⟩=some (.string s))
theorem TxtsN.below {w w':World}{v:Value}{ss:List ByteArray}(h:TxtsN w v ss)(hb:Below w.heap.size w w'):TxtsN w' v ss:=by
 obtain⟨ao,cap,e,hn,h⟩:=h
 refine⟨ao,cap,e,hn,fun h0=>?_⟩
 obtain⟨b,off,e,hlt,h⟩:=h h0
 exact⟨b,off,e,Nat.lt_of_lt_of_le hlt hb.size,fun i p hp=>(hb.cell (p:=⟨b,off+i,none⟩) hlt).trans (h i p hp)⟩
instance:Inhabited ActW:=⟨⟨⟨#[]⟩,0,⟨#[]⟩,0,default,.bool false,[]⟩⟩
section
variable {H:Type}{enc:TypeId × Value→H}{W:World}
set_option maxRecDepth 100000 in
theorem zhT {n:Nat}{cs:List Value}{y:DataW H × List MemPlace}(h:DataW.trod enc Tryz.prog W 0 (fun _=>true) true n 46 cs=some y):∃ p:ActW,p.ok W∧cs=p.cells:=by
 obtain⟨xs,k,-,-,hl,hxl,hf⟩:=DataW.trod_struct Tryz.underlying46 h
 rw [Tryz.cellsActW] at hl
 match cs,hl with
 | [v0,v1,v2,v3,v4,v5,v6,v7,v8],_=>
  match xs,hxl with
  | [x0,x1,x2,x3,x4,x5],_=>
   have g0:DataW.trod enc Tryz.prog W 0 (fun _=>true) true k 9 (([v0,v1,v2,v3,v4,v5,v6,v7,v8].drop 0).take (Tryz.prog.cellsOf 9))=[x0,x1,x2,x3,x4,x5][0]?:=hf 0 _ rfl
   have g1:DataW.trod enc Tryz.prog W 0 (fun _=>true) true k 3 (([v0,v1,v2,v3,v4,v5,v6,v7,v8].drop 1).take (Tryz.prog.cellsOf 3))=[x0,x1,x2,x3,x4,x5][1]?:=hf 1 _ rfl
   have g2:DataW.trod enc Tryz.prog W 0 (fun _=>true) true k 9 (([v0,v1,v2,v3,v4,v5,v6,v7,v8].drop 2).take (Tryz.prog.cellsOf 9))=[x0,x1,x2,x3,x4,x5][2]?:=hf 2 _ rfl
   have g3:DataW.trod enc Tryz.prog W 0 (fun _=>true) true k 40 (([v0,v1,v2,v3,v4,v5,v6,v7,v8].drop 3).take (Tryz.prog.cellsOf 40))=[x0,x1,x2,x3,x4,x5][3]?:=hf 3 _ rfl
   have g4:DataW.trod enc Tryz.prog W 0 (fun _=>true) true k 43 (([v0,v1,v2,v3,v4,v5,v6,v7,v8].drop 4).take (Tryz.prog.cellsOf 43))=[x0,x1,x2,x3,x4,x5][4]?:=hf 4 _ rfl
   have g5:DataW.trod enc Tryz.prog W 0 (fun _=>true) true k 44 (([v0,v1,v2,v3,v4,v5,v6,v7,v8].drop 8).take (Tryz.prog.cellsOf 44))=[x0,x1,x2,x3,x4,x5][5]?:=hf 5 _ rfl
   rw [Tryz.cellsStrF] at g0 g2
   rw [Tryz.cellsInt] at g1
   rw [Tryz.cellsU64] at g3
   rw [Tryz.cellsOpF] at g4
   rw [Tryz.cellsOpsW] at g5
   obtain⟨s0,e0,-,-⟩:=DataW.trod_string Tryz.underlying9 g0
   obtain⟨z1,e1,-,hw1⟩:=DataW.trod_int Tryz.underlying3 g1
   obtain⟨s2,e2,-,-⟩:=DataW.trod_string Tryz.underlying9 g2
   obtain⟨z3,e3,-,hw3⟩:=DataW.trod_int Tryz.underlying40 g3
   obtain⟨q,q0,q1,q2,q3,hq⟩:=zeS (cs:=[v4,v5,v6,v7]) g4
   obtain⟨os,hos⟩:=zhV (v:=v8) g5
   have e0':v0=.string s0:=by simpa using e0
   have e1':v1=.int .i64 z1:=by simpa using e1
   have e2':v2=.string s2:=by simpa using e2
   have e3':v3=.int .u64 z3:=by simpa using e3
   have e4':v4=.int .i64 q.o.kind:=by simpa using q0
   have e5':v5=.string q.o.name:=by simpa using q1
   have e6':v6=.int .i64 q.o.n:=by simpa using q2
   have e7':v7=q.row:=by simpa using q3
   refine⟨⟨s0,z1,s2,z3,q,v8,os⟩,⟨?_,?_,hq,hos⟩,by rw [e0',e1',e2',e3',e4',e5',e6',e7'];rfl⟩
   ·simp [Lit.wf] at hw1
    exact⟨hw1.1,hw1.2⟩
   ·simp [Lit.wf] at hw3
    exact⟨hw3.1,Int.lt_of_le_of_lt hw3.2 (by decide)⟩
theorem zjb {a:Addr}{v:Value}(h:W.cell? (a.add 0)=some v):∃ b off,a=⟨b,off,none⟩∧b < W.heap.size:=by
 obtain⟨b,off,spot⟩:=a
 have hs:spot=none:=by simpa [Addr.add] using World.cell?_spot h
 subst hs
 exact⟨b,off,rfl,by simpa [Addr.add] using World.block_lt_of_cell? W _ h⟩
set_option maxRecDepth 100000 in
theorem zhU {r:Reach}{b0:Nat}{v:Value}{d:DataW H}{p:List MemPlace}(hv:Value.okWide Tryz.prog W r b0 22 v)(h:DataW.Trod enc Tryz.prog W 0 (fun _=>true) true 22 v d p):∃ al,ActsW W v al:=by
 obtain⟨a0,len,cap,rfl⟩:=okWide_slice Tryz.underlying22 hv
 obtain⟨fuel,hf⟩:=h
 rcases Go.Deep.open_slice Tryz.underlying22 hf with⟨e,-⟩ |⟨a,l,c,m,n,D,Pl,e,-,hl,hm,hmm,-,hc⟩
 ·have e':Value.slice a0 len cap=.slice none 0 0:=by simpa [Value.cells] using e
  rw [e']
  exact⟨[],none,0,rfl,Nat.le_refl _,fun h=>absurd h (by decide)⟩
 ·have e':Value.slice a0 len cap=.slice (some a) l c:=by simpa [Value.cells] using e
  rw [e']
  have hm':l≤m:=by simp at hmm;omega
  have each:∀ i,i < l→∃ q:ActW,q.ok W∧∀ j u,q.cells[j]?=some u→W.cell? (a.add (i * 9+j))=some u:=fun i hi=>by
   obtain⟨cs,h1,h2⟩:=hc i (by omega)
   rw [Tryz.cellsActW] at h1
   obtain⟨-,hlen,hcell⟩:=World.cells?_some h1
   obtain⟨q,hq,rfl⟩:=zhT h2
   refine⟨q,hq,fun j u hu=>?_⟩
   have hj:=(List.getElem?_eq_some_iff.1 hu).1
   have:=hcell j (by omega)
   rw [Go.Deep.add_add,hu] at this
   exact this
  obtain⟨q,hq⟩:=Go.Deep.choose_lt each
  have hlen:((List.range l).map q).length=l:=by simp
  refine⟨(List.range l).map q,some a,c,by rw [hlen],by rw [hlen];omega,fun h0=>?_⟩
  rw [hlen] at h0
  have c0:=(hq 0 h0).2 0 _ rfl
  obtain⟨b,off,rfl,hlt⟩:=zjb (by simpa using c0)
  refine⟨b,off,rfl,hlt,fun i p hp=>?_⟩
  obtain⟨hi,e⟩:=List.getElem?_eq_some_iff.1 hp
  rw [hlen] at hi
  have ep:p=q i:=by simpa using e.symm
  subst ep
  refine⟨(hq i hi).1,fun j u hu=>?_⟩
  have:=(hq i hi).2 j u hu
  rw [Go.WideShapes.add_plain] at this
  rw [Nat.add_assoc]
  exact this
end
end Go.Proofs.YtnhbfehfipafoaaGreatDoor
