import Derived.Test.YtncamilanceahaaGreatBgC
import Derived.Lib.AppendZeros
set_option maxRecDepth 100000
set_option maxHeartbeats 1600000
set_option linter.unusedSimpArgs false
namespace Go.Proofs.YtncamilanceahaaGreat
open Go.RowKit
variable{W:World}{v:Value}{n sz cap base:Nat}{ao:Option Addr}
structure PlV (w:World)(b2 b3:Nat)(ao:Option Addr)(cap:Nat)(qs:List Nc)(s:ByteArray):Prop where
 c2:w.cell? ⟨b2,0,none⟩=some (.slice ao qs.length cap)
 l2:b2<w.heap.size
 c3:w.cell? ⟨b3,0,none⟩=some (.string s)
 l3:b3<w.heap.size
 cat:CatN w (.slice ao qs.length cap) qs
theorem PlV.below{w w':World}{b2 b3:Nat}{qs:List Nc}{s:ByteArray}(h:PlV w b2 b3 ao cap qs s)(hb:Below w.heap.size w w'):PlV w' b2 b3 ao cap qs s:=
 ⟨(hb.cell (p:=⟨b2,0,none⟩) h.l2).trans h.c2,zT h.l2 hb.size,(hb.cell (p:=⟨b3,0,none⟩) h.l3).trans h.c3,zT h.l3 hb.size,h.cat.below hb⟩
theorem ziW (w:World)(b2 b3:Nat)(ao:Option Addr)(cap:Nat)(qs:List Nc)(s:ByteArray)(h:PlV w b2 b3 ao cap qs s)(k:Nat)(hk:k<qs.length)(hq:qs.length≤1000000):
  Calls Tryz.prog 50 #[.int .i64 (k:Int),.pointer (some ⟨b2,0,none⟩),.pointer (some ⟨b3,0,none⟩)] w fun e w'=>e=.returned (.bool (!nlt qs[k].x.name s))∧Below w.heap.size w w':=by
 obtain⟨c2,l2,c3,l3,hc⟩:=h;obtain⟨b,off,cap',e⟩:=hc.form (by omega);simp only [zV,true_and] at e;obtain⟨rfl,rfl⟩:=e;obtain⟨hlt,d0,-,-,-⟩:=hc.at k hk;have HB:=hide ((zB w.heap.size w).drew);clear hc;unfold nlt;generalize qs[k].x.name=nm at *;go_enter Tryz.func50,Tryz.ntmps50;go_wp2_with fail
 go_region_held3 (fun w'=>w'.cell? ⟨b2,0,none⟩=some (.slice (some ⟨b,off,none⟩) qs.length cap)∧w'.cell? ⟨b3,0,none⟩=some (.string s)∧w'.cell? ⟨b,off+k*3,none⟩=some (.string nm)) (go_keep) (fail)
 go_wp2;go_ret;exact⟨rfl,HB.out⟩
theorem zhS (i j:Nat):((i:Int)+(j:Int))/2=(((i+j)/2:Nat):Int):=by omega
theorem zjl (w:World)(b2 b3:Nat)(ao:Option Addr)(cap:Nat)(qs:List Nc)(s:ByteArray)(h:PlV w b2 b3 ao cap qs s)(hq:qs.length≤1000000)(hs:(qs.map (·.x)).Pairwise (fun x y=>nlt x.name y.name=true)):
  Calls Tryz.prog 49 #[.int .i64 (qs.length:Int),.func (.func 50) #[] #[.pointer (some ⟨b2,0,none⟩),.pointer (some ⟨b3,0,none⟩)]] w fun e w'=>e=.returned (.int .i64 (placeL (qs.map (·.x)) s:Nat))∧Below w.heap.size w w':=by
 have HP:=hide h;have HS:=hide hs;clear h hs;go_enter Tryz.func49,Tryz.ntmps49;go_wp2;go_loopw [5,6] (fun i j wr=>∃ a b:Nat,a≤placeL (qs.map (·.x)) s∧placeL (qs.map (·.x)) s≤b∧b≤qs.length∧i=.int .i64 a∧j=.int .i64 b∧Hid (Below w.heap.size w wr)) (fun i j _=>(intOf j).toNat-(intOf i).toNat)
 case atStart=>exact⟨0,qs.length,Nat.zero_le _,by have:=zbi (qs.map (·.x)) s;rwa [zM] at this,Nat.le_refl _,rfl,rfl,hide (zB _ _)⟩
 case round=>
  obtain⟨a,b,ha,hb,hbl,rfl,rfl,HB⟩:=hrel;by_cases hab:a<b
  ·have hm1:(a+b)/2<b:=by omega
   have hm2:a≤(a+b)/2:=by omega
   have e2:=zhS a b;have HP1:=hide (HP.out.below HB.out);have hcal:=ziW wr b2 b3 ao cap qs s HP1.out ((a+b)/2) (by omega) hq;have HC:=hide hcal;have HLo:Hid (nlt qs[(a+b)/2].x.name s=true→(a+b)/2+1≤placeL (qs.map (·.x)) s):=fun h=>by
    by_cases h':(a+b)/2+1≤placeL (qs.map (·.x)) s
    ·exact h'
    ·have:=zdm HS.out (s:=s) (i:=(a+b)/2) (by omega) (by rw [zM];omega);rw [List.getElem_map,h] at this;cases this
   have HUp:Hid (nlt qs[(a+b)/2].x.name s=false→placeL (qs.map (·.x)) s≤(a+b)/2):=fun h=>by
    by_cases h':placeL (qs.map (·.x)) s≤(a+b)/2
    ·exact h'
    ·obtain⟨h1,h2⟩:=zbP (cs:=qs.map (·.x)) (s:=s) (i:=(a+b)/2) (by omega);rw [List.getElem_map,h] at h2;cases h2
   clear hcal;generalize placeL (qs.map (·.x)) s=P at *;generalize nlt qs[(a+b)/2].x.name s=r at *;generalize (a+b)/2=m at *;go_wp2_with fail;refine HC.out.mono ?_;rintro e w2 ⟨rfl,hb2⟩;have HB2:=hide (HB.out.trans (hb2.mono HB.out.size));clear hb2 HC HP1 e2;cases r with
   | true=>
    have hlo:=HLo.out rfl;clear HLo HUp;go_wp2;go_roundw
    case rel=>exact⟨m+1,b,hlo,hb,hbl,by go_num,rfl,HB2⟩
    case measure=>simp [intOf];omega
   | false=>
    have hup:=HUp.out rfl;clear HLo HUp;go_wp2;go_roundw
    case rel=>exact⟨a,m,ha,hup,by omega,rfl,rfl,HB2⟩
    case measure=>simp [intOf];omega
  ·have hP:placeL (qs.map (·.x)) s=a:=by omega
   have HPP:=hide hP;clear hP;go_wp2;go_ret;exact⟨by rw [HPP.out];rfl,HB.out⟩
def CatV (w:World)(v:Value)(qs:List Nc):Prop:=∃ u,v=.agg #[u]∧CatN w u qs
theorem zcs (W:World)(u:Value)(t:TypeId):(W.alloc (.cells #[u] t)).cell? ⟨W.heap.size,0,none⟩=some u:=by
 rw [World.cell?_alloc_new];rfl
theorem zi (W:World)(ob:Obj):Below W.heap.size W (W.alloc ob):=(zB _ _).alloc zL _
theorem zdn (w:World)(v:Value)(qs:List Nc)(s:ByteArray)(h:CatV w v qs)(hq:qs.length≤1000000)(hs:(qs.map (·.x)).Pairwise (fun x y=>nlt x.name y.name=true)):
  Calls Tryz.prog 32 #[v,.string s] w fun e w'=>e=.returned (.tuple #[.int .i64 (placeL (qs.map (·.x)) s:Nat),.bool (hasL (qs.map (·.x)) s)])∧Below w.heap.size w w':=by
 obtain⟨u,rfl,hu⟩:=h;obtain⟨ao,cap,rfl,-⟩:=id hu;have hb1:=zi w (.cells #[.slice ao qs.length cap] 45);have hb2:=zi (w.alloc (.cells #[.slice ao qs.length cap] 45)) (.cells #[.string s] 9);have hb12:=hb1.trans (hb2.mono hb1.size);have HP:Hid (PlV ((w.alloc (.cells #[.slice ao qs.length cap] 45)).alloc (.cells #[.string s] 9)) w.heap.size (w.heap.size+1) ao cap qs s):=by
  refine⟨(hb2.cell (p:=⟨w.heap.size,0,none⟩) (by simp)).trans (zcs _ _ _),by simp;omega,?_,by simp,hu.below hb12⟩;have:=zcs (w.alloc (.cells #[.slice ao qs.length cap] 45)) (.string s) 9;have e:(w.alloc (.cells #[.slice ao qs.length cap] 45)).heap.size=w.heap.size+1:=by simp
  rwa [e] at this
 have HB:=hide hb12;obtain⟨p2,-,p3,-,-⟩:=HP.out;have HL:=zbi (qs.map (·.x)) s;rw [zM] at HL;have HSE:=hide (fun(W0:World) (hP:PlV W0 w.heap.size (w.heap.size+1) ao cap qs s)=>zjl W0 _ _ ao cap qs s hP hq hs);have HH:Hid (∀ h:placeL (qs.map (·.x)) s<qs.length,hasL (qs.map (·.x)) s=decide (qs[placeL (qs.map (·.x)) s].x.name=s)):=fun hlt=>by
  by_cases h:hasL (qs.map (·.x)) s=true
  ·rw [h];obtain⟨h1,h2⟩:=(zaz hs).1 h;rw [List.getElem_map] at h2;exact(decide_eq_true h2).symm
  ·rw [Bool.not_eq_true] at h;rw [h];refine(decide_eq_false fun h'=>?_).symm;have:hasL (qs.map (·.x)) s=true:=(zaz hs).2 ⟨by rw [zM];exact hlt,by rw [List.getElem_map];exact h'⟩;rw [h] at this;cases this
 have HNo:Hid (¬ placeL (qs.map (·.x)) s<qs.length→hasL (qs.map (·.x)) s=false):=fun hlt=>by
  cases h:hasL (qs.map (·.x)) s with
  | false=>rfl
  | true=>
   obtain⟨h1,-⟩:=(zaz hs).1 h;rw [zM] at h1;exact absurd h1 hlt
 clear hb1 hb2 hb12 hs hu;generalize placeL (qs.map (·.x)) s=P at *;generalize hasL (qs.map (·.x)) s=r at *;go_enter Tryz.func32,Tryz.ntmps32;go_wp2_with fail;generalize ((w.alloc (.cells #[.slice ao qs.length cap] 45)).alloc (.cells #[.string s] 9))=W0 at *;refine(HSE.out W0 HP.out).mono ?_;rintro e w1 ⟨rfl,hb1⟩;have HP1:=hide (HP.out.below hb1);have HB1:=hide (HB.out.trans (hb1.mono HB.out.size));have HBD:=hide (HB1.out.drew);clear hb1 p2 p3 HP HB;obtain⟨p2,-,p3,-,hcat⟩:=HP1.out;by_cases hlt:P<qs.length
 ·obtain⟨b,off,cap',e⟩:=hcat.form (by omega);simp only [zV,true_and] at e;obtain⟨rfl,rfl⟩:=e;obtain⟨hbl,d0,-,-,-⟩:=hcat.at _ hlt;have HE:Hid ((qs[P].x.name.toList==s.toList)=r):=(zdC _ _).trans (HH.out hlt).symm;clear hcat HH HNo;generalize qs[P].x.name=nm at *;go_wp2_with fail
  go_region_held3 (fun w'=>w'.cell? ⟨w.heap.size,0,none⟩=some (.slice (some ⟨b,off,none⟩) qs.length cap)∧w'.cell? ⟨w.heap.size+1,0,none⟩=some (.string s)∧w'.cell? ⟨b,off+P*3,none⟩=some (.string nm)) (go_keep) (fail)
  go_wp2;go_ret2;exact⟨by rw [HE.out];rfl,HBD.out⟩
 ·obtain rfl:=HNo.out hlt;clear hcat HH HNo;go_wp2_with fail;refine wp_region_held_drew (S:=(fun w'=>w'.cell? ⟨w.heap.size,0,none⟩=some (.slice ao qs.length cap)∧w'.cell? ⟨w.heap.size+1,0,none⟩=some (.string s))) (by kernel_rfl) (by(try dsimp only);go_keep) (fun hHeld=>?_);refine ze 0 12 ?_;try simp only [zA]
  refine ze 1 13 ?_;try simp only [zA]
  refine ze 2 14 ?_;try simp only [zA]
  refine ze 3 15 ?_;try simp only [zA]
  refine ze 4 16 ?_;try simp only [zA]
  refine ze 5 17 ?_;try simp only [zA]
  refine ze 6 18 ?_;try simp only [zA]
  refine zj 7 19 ?_;try simp only [zA]
  refine zj 8 20 ?_;try simp only [zA]
  refine zj 9 21 ?_;try simp only [zA]
  refine zj 10 22 ?_;try simp only [zA]
  refine zj 11 23 ?_;try simp only [zA]
  refine zj 12 24 ?_;try simp only [zA]
  refine zj 13 25 ?_;try simp only [zA]
  refine zj 14 26 ?_;try simp only [zA]
  refine ze 15 27 ?_;try simp only [zA]
  refine ze 16 4 ?_;try simp only [zA]
  refine ze 17 5 ?_;try simp only [zA]
  refine wpAnyH_done (by kernel_rfl) ?_ _;go_wp2;go_ret2;exact⟨rfl,HBD.out⟩
def SeqV (W:World)(v:Value)(n:Nat)(cs:List Value):Prop:=
 ∃ ao cap,v=.slice ao n cap∧n≤cap∧(0<n→∃ b off,ao=some ⟨b,off,none⟩∧b<W.heap.size∧∀ j u,cs[j]?=some u→W.cell? ⟨b,off+j,none⟩=some u)
theorem SeqV.below{C:Nat}{W':World}{cs:List Value}(h:SeqV W v n cs)(hb:Below C W W')(hC:W.heap.size≤C):SeqV W' v n cs:=by
 obtain⟨ao,cap,e,hn,h⟩:=h;refine⟨ao,cap,e,hn,fun h0=>?_⟩;obtain⟨b,off,e,hlt,h⟩:=h h0;exact⟨b,off,e,zT hlt hb.size,fun j u hu=>(hb.cell (p:=⟨b,off+j,none⟩) (zT hlt hC)).trans (h j u hu)⟩
theorem zaX (b off k:Nat):(⟨b,off,none⟩:Addr).add k=⟨b,off+k,none⟩:=by unfold Addr.add;split <;> simp_all
theorem SeqV.take{cs:List Value}(h:SeqV W (.slice ao n cap) n cs)(k:Nat)(hk:k≤n):SeqV W (.slice ao k cap) k (cs.take (k*sz)):=by
 obtain⟨ao',cap',e,hn,h⟩:=h;simp only [zV,true_and] at e;obtain⟨rfl,rfl⟩:=e;refine⟨ao,cap,rfl,by omega,fun h0=>?_⟩;obtain⟨b,off,e,hlt,h⟩:=h (by omega);exact⟨b,off,e,hlt,fun j u hu=>h j u (by
  rw [List.getElem?_take] at hu;split at hu
  ·exact hu
  ·cases hu)⟩
theorem SeqV.drop{cs:List Value}(h:SeqV W (.slice ao n cap) n cs)(k:Nat)(hk:k≤n)(so:Option Addr)(hso:k<n→∀ b off,ao=some ⟨b,off,none⟩→so=some ⟨b,off+k*sz,none⟩):SeqV W (.slice so (n-k) (cap-k)) (n-k) (cs.drop (k*sz)):=by
 obtain⟨ao',cap',e,hn,h⟩:=h;simp only [zV,true_and] at e;obtain⟨rfl,rfl⟩:=e;refine⟨so,cap-k,rfl,by omega,fun h0=>?_⟩;obtain⟨b,off,rfl,hlt,h⟩:=h (by omega);refine⟨b,off+k*sz,hso (by omega) b off rfl,hlt,fun j u hu=>?_⟩;rw [List.getElem?_drop] at hu;have:=h (k*sz+j) u hu
 rwa [← Nat.add_assoc] at this
theorem zgd {P:Program}(w:World)(t ty e:TypeId)(i:TypeInfo)(ht:P.underlying t=some (.slice e))(hi:P.info? e=some i)(b:Option Addr)(n cap:Nat)(hn:n≤cap)(ao:Option Addr)(c:Nat):
  (Builtin.append_ #[t,t] ty #[.slice b n cap,.slice ao 0 c]).run P w=.ok (.slice b n cap) w:=by
 cases ao <;> cases b <;> simp [Builtin.append_,run_underlying ht,sizeOf,typeInfo,hi,Builtin.lenOf,Builtin.firstCells,loadCells,loadCellsFrom,hn,storeCells]
theorem zak{e:TypeId}{xs:List Value}(h:W.ownsRow base e sz v n xs):∃ o c,v=.slice o n c∧n≤c:=by
 rcases h.2 with⟨rfl,rfl⟩ |⟨g,cap,cur,rfl,-,-,hle,-⟩
 ·exact⟨_,_,rfl,Nat.le_refl _⟩
 ·exact⟨_,_,rfl,hle⟩
theorem zaE {P:Program}(w W:World)(base:Nat)(hw:w.heap.size≤base)(hbw:Below base w W)(hbase:base≤W.heap.size)(t ty e:TypeId)(i:TypeInfo)(z:Value)(sz by':Nat)(ht:P.underlying t=some (.slice e))(hi:P.info? e=some i)(hz:i.zero=some z)
  (hsize:i.size=sz) (hby:i.bytes=by') (hzs:z.cells.size=sz) (hsz:0<sz) (v:Value) (n:Nat) (xs:List Value) (hown:W.ownsRow base e sz v n xs)
  (u:Value) (m:Nat) (ys:List Value) (hl:ys.length=m*sz) (hu:SeqV w u m ys) (h1:∀ y∈ys,y.oneCell'=true) (h63:n+m≤maxLen) (hbytes:(n+m)*by'≤140737488355328):
  ∃ o c W',(Builtin.append_ #[t,t] ty #[v,u]).run P W=.ok (.slice o (n+m) c) W'∧W'.ownsRow base e sz (.slice o (n+m) c) (n+m) (xs++ys)∧Below base w W':=by
 obtain⟨ao,cap,rfl,hcap,hh⟩:=hu;by_cases h0:m=0
 ·subst h0;obtain⟨o,c,rfl,hlc⟩:=zak hown;have:ys=[]:=List.eq_nil_of_length_eq_zero (by simpa using hl);subst this;exact⟨o,c,W,zgd W _ _ _ i ht hi o n c hlc ao cap,by simpa using hown,hbw⟩
 ·obtain⟨b,off,rfl,hlt,hc⟩:=hh (by omega);obtain⟨v',W',hr,hown',hg,-⟩:=run_append_own (P:=P) W base t ty e i z sz by' ht hi hz hsize hby hzs hsz v n xs hown ⟨b,off,none⟩ m cap ys hl (fun j y hy=>by rw [zaX];exact(hbw.cell (p:=⟨b,off+j,none⟩) (zT hlt hw)).trans (hc j y hy)) h1 h63 hbytes hbase;obtain⟨o,c,rfl,-⟩:=zak hown';exact⟨o,c,W',hr,hown',hbw.grown hg hbase (fun k hk=>(hown.lt k hk).1)⟩
theorem zal{e:TypeId}{xs:List Value}(h:W.ownsRow base e sz v n xs):SeqV W v n xs:=by
 have hx:=h.1;rcases h.2 with⟨rfl,rfl⟩ |⟨g,cap,cur,rfl,hb,hh,hc1,hc2,hc3,hc4⟩
 ·exact⟨none,0,rfl,Nat.le_refl _,fun h0=>absurd h0 (by omega)⟩
 ·refine⟨_,cap,rfl,hc1,fun h0=>⟨g,0,rfl,zm hh,fun k u hu=>?_⟩⟩;have hk:k<n*sz:=by
   have:=(List.getElem?_eq_some_iff.1 hu).1;omega
  have:=World.news_of_block hh k u (by rw [← hc4,List.getElem?_take,if_pos hk] at hu;exact hu);rw [zaX] at this;exact this
theorem ze4 (w:World)(e:TypeId)(z:Value)(m cp:Nat)(hge:m≤cp)(hle:cp≤maxLen):
  (w.drew.alloc (.cells (Builtin.zeroCells z.cells m++Builtin.zeroCells z.cells (cp-m)) e)).ownsRow w.heap.size e z.cells.size (.slice (some ⟨w.heap.size,0,none⟩) 0 cp) 0 []:=by
 refine⟨by simp,.inr ⟨w.heap.size,_,_,rfl,Nat.le_refl _,heap_alloc_new w.drew _,Nat.zero_le _,hle,?_,by simp⟩⟩;rw [Array.size_append,size_zeroCells,size_zeroCells,← Nat.add_mul];congr 1;omega
theorem zby{qs:List Nc}(h:CatN W v qs):SeqV W v qs.length (qs.flatMap Nc.cells):=by
 obtain⟨ao,cap,e,hn,hh⟩:=id h;refine⟨ao,cap,e,hn,fun h0=>?_⟩;obtain⟨b,off,e',hlt,-⟩:=hh h0;subst e e';exact⟨b,off,rfl,hlt,fun j u hu=>by have:=h.news j u hu;rwa [zaX] at this⟩
theorem zd3{qs:List Nc}(h:SeqV W v qs.length (qs.flatMap Nc.cells))(hin:∀ q∈qs,NcIn W q):CatN W v qs:=by
 obtain⟨ao,cap,e,hn,hh⟩:=h;refine⟨ao,cap,e,hn,fun h0=>?_⟩;obtain⟨b,off,e',hlt,hc⟩:=hh h0;refine⟨b,off,e',hlt,fun i q hi=>?_⟩;obtain⟨hi',rfl⟩:=List.getElem?_eq_some_iff.1 hi;refine⟨?_,?_,?_,hin _ (List.getElem_mem hi')⟩
 ·have:=zX qs i hi' 0 (by omega);rw [Nat.add_zero] at this;exact hc _ _ (by rw [this];rfl)
 ·have:=hc (i*3+1) _ ((zX qs i hi' 1 (by omega)).trans rfl);rwa [← Nat.add_assoc] at this
 ·have:=hc (i*3+2) _ ((zX qs i hi' 2 (by omega)).trans rfl);rwa [← Nat.add_assoc] at this
abbrev Gc:=Value × List Int
def GcIn (W:World)(g:Gc):Prop:=RowS W g.1 g.2
theorem zdr{gs:List (List Int)}(h:RowsS W v gs):∃ ps:List Gc,ps.map (·.2)=gs∧SeqV W v ps.length (ps.map (·.1))∧∀ g∈ps,GcIn W g:=by
 obtain⟨ao,cap,rfl,hn,hh⟩:=h;by_cases h0:gs.length=0
 ·obtain rfl:=List.eq_nil_of_length_eq_zero h0;exact⟨[],rfl,⟨ao,cap,rfl,by simp,fun h=>absurd h (by simp)⟩,fun _ h=>by cases h⟩
 ·obtain⟨b,off,rfl,hlt,hc⟩:=hh (by omega)
  let f:Nat→Value:=fun i=>if hi:i<gs.length then Classical.choose (hc i gs[i] (by simp [hi])) else undef
  have hf:∀ i (hi:i<gs.length),W.cell? ⟨b,off+i,none⟩=some (f i)∧RowS W (f i) gs[i]:=fun i hi=>by
   have:=Classical.choose_spec (hc i gs[i] (by simp [hi]));simpa only [f,dif_pos hi] using this
  have hrl:((List.range gs.length).map fun i=>(f i,gs.getD i [])).length=gs.length:=by simp
  refine⟨(List.range gs.length).map fun i=>(f i,gs.getD i []),?_,⟨_,cap,by rw [hrl],by rw [hrl];exact hn,fun _=>⟨b,off,rfl,hlt,fun j u hu=>?_⟩⟩,fun g hg=>?_⟩
  ·apply List.ext_getElem (by rw [zM,hrl]);intro i h1 h2;rw [List.getElem_map,List.getElem_map,List.getElem_range,zG,List.getElem?_eq_getElem h2];rfl
  ·have hj:j<gs.length:=by have:=(List.getElem?_eq_some_iff.1 hu).1;simpa using this
   rw [List.getElem?_map,List.getElem?_map,List.getElem?_range hj] at hu;rw [(hf j hj).1];simpa using hu
  ·obtain⟨i,hi,rfl⟩:=List.getElem_of_mem hg;rw [hrl] at hi;have:=(hf i hi).2;rw [List.getElem_map,List.getElem_range];show RowS W (f i) (gs.getD i [])
   rwa [zG,List.getElem?_eq_getElem hi]
theorem zbj{ps:List Gc}(h:SeqV W v ps.length (ps.map (·.1)))(hin:∀ g∈ps,GcIn W g):RowsS W v (ps.map (·.2)):=by
 obtain⟨ao,cap,e,hn,hh⟩:=h;refine⟨ao,cap,by rw [zM];exact e,by rw [zM];exact hn,fun h0=>?_⟩;rw [zM] at h0;obtain⟨b,off,e',hlt,hc⟩:=hh h0;refine⟨b,off,e',hlt,fun i r hi=>?_⟩;obtain⟨hi',rfl⟩:=List.getElem?_eq_some_iff.1 hi;rw [zM] at hi';exact⟨ps[i].1,hc i _ (by rw [List.getElem?_map,List.getElem?_eq_getElem hi'];rfl),by rw [List.getElem_map];exact hin _ (List.getElem_mem hi')⟩
theorem zeo{ps:List Gc}(hin:∀ g∈ps,GcIn W g):∀ u∈ps.map (·.1),u.oneCell'=true:=fun u hu=>by
 obtain⟨g,hg,rfl⟩:=List.mem_map.1 hu;obtain⟨ao,cap,e,-⟩:=hin g hg;rw [e];rfl
end Go.Proofs.YtncamilanceahaaGreat
