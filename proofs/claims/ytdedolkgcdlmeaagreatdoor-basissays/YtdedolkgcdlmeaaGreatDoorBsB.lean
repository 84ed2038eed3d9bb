import Derived.Test.YtdedolkgcdlmeaaGreatDoorMeetW
import Derived.Test.YtdedolkgcdlmeaaGreatDoorIdxO
import Derived.Deep.CutRange
import Derived.Deep.CutBlock
set_option maxRecDepth 100000
set_option maxHeartbeats 6400000
set_option linter.unusedSimpArgs false
namespace Go.Proofs.YtdedolkgcdlmeaaGreatDoor
open Go.RowKit Limbs Digs
variable {ca cb Na:Int}{w:World}
theorem zbP{Nb:Int}(h:bothC ca cb Na Nb=0):ca=0∧cb=0∧Na=Nb:=by
 unfold bothC at h;by_cases h1:ca=0
 ·rw [if_neg (fun h'=>h' h1)] at h;by_cases h2:cb=0
  ·rw [if_neg (fun h'=>h' h2)] at h;by_cases h3:Na=Nb
   ·exact⟨h1,h2,h3⟩
   ·rw [if_pos h3] at h;omega
  ·rw [if_pos h2] at h;exact absurd h h2
 ·rw [if_pos h1] at h;exact absurd h h1
theorem zbo(ha:0≤ca)(hb:0≤cb)(Na Nb:Int):0≤bothC ca cb Na Nb:=by
 unfold bothC;split
 ·exact ha
 ·split
  ·exact hb
  ·split <;> decide
theorem zex(ha:0≤ca)(Na:Int)(rs:List Raw):0≤withC ca Na rs:=by
 unfold withC;split
 ·exact ha
 ·split
  ·decide
  ·exact(ze7 rs).2
theorem zaa{u:Value}{N:Int}{rss:List (List Raw)}{c:Int}(hu:MatL w u rss)(hlt:∀ rs∈rss,lightV rs=true)(hb:BF N rss c)(h0:c=0):∃ n:Nat,N=(n:Int)∧1≤n∧n≤4∧LatN w (.agg #[.int .i64 (n:Int),u]) n (zsOf rss) 8:=by
 obtain⟨h1,h2,h3,h4⟩:=hb.good h0;obtain⟨n,rfl⟩:=Int.eq_ofNat_of_zero_le (show 0≤N by omega);rw [Int.toNat_natCast] at h4;have hcn:=zaP.1 h3;exact⟨n,rfl,by omega,by omega,⟨u,rfl,hu.toN (n:=8) (fun rs h=>(hcn.2.2.2 rs h).2) (fun rs h=>zaH (hlt rs h))⟩,h4⟩
theorem zgQ:∀ n,n<5→nbK n (n*8+2) 8 n≤100000:=by decide +kernel
theorem zlh:∀ n,n<5→nbK (n+n) ((n+n)*8+2) 8 (n+n)≤100000:=by decide +kernel
theorem zgO:∀ n,n<5→RoomF n 8∧RoomF n (n*8+2):=by
 unfold RoomF;decide +kernel
theorem zgP:∀ m,1≤m→m≤4→RoomS m (8+1):=fun m _ h=>(show ∀ m,m<5→RoomS m 9 by unfold RoomS;decide +kernel) m (by omega)
theorem zl0 (w:World)(ua ub:Value)(Na Nb:Int)(ra rb:List (List Raw))(ca cb:Int)(hua:MatL w ua ra)(hub:MatL w ub rb)(hla:∀ rs∈ra,lightV rs=true)(hlb:∀ rs∈rb,lightV rs=true)(hba:BF Na ra ca)(hbb:BF Nb rb cb)(f:Int)(hfe:bothC ca cb Na Nb=f):
  Calls Tryz.prog 30 #[.agg #[.int .i64 Na,ua],.agg #[.int .i64 Nb,ub]] w fun e w'=>∃ i o l k,e=.returned (.tuple #[.agg #[.int .i64 i,.slice o l k],errOf f])∧Below w.heap.size w w':=by
 have hf0:0≤f:=by have:=zbo hba.nonneg hbb.nonneg Na Nb;omega
 by_cases hf:0<f
 ·refine(zlY w ua ub Na Nb ra rb ca cb hua hub hla hlb hba hbb f hf hfe).mono ?_;rintro e w' ⟨rfl,hb⟩;exact⟨_,_,_,_,rfl,hb⟩
 ·skip;obtain⟨h1,h2,h3⟩:=zbP (show bothC ca cb Na Nb=0 by omega);obtain⟨n,e1,hn1,hn4,LA⟩:=zaa hua hla hba h1;obtain⟨m,e2,hm1,hm4,LB⟩:=zaa hub hlb hbb h2;obtain rfl:m=n:=by omega
  rw [e1,e2];obtain rfl:f=0:=by omega
  rw [show errOf 0=.nilIface from rfl];refine(zlV w _ _ m 8 _ _ LA LB hn1 hn4 (zgQ m (by omega))).mono ?_;rintro e w' ⟨v,hs,rfl,hl,hb,-,-⟩;obtain⟨⟨u',rfl,⟨o,k,rfl,-,-⟩⟩,-⟩:=hl;exact⟨_,_,_,_,rfl,hb⟩
theorem zkw (w:World)(ua ub:Value)(Na Nb:Int)(ra rb:List (List Raw))(ca cb:Int)(hua:MatL w ua ra)(hub:MatL w ub rb)(hla:∀ rs∈ra,lightV rs=true)(hlb:∀ rs∈rb,lightV rs=true)(hba:BF Na ra ca)(hbb:BF Nb rb cb)(f:Int)(hfe:bothC ca cb Na Nb=f):
  Calls Tryz.prog 31 #[.agg #[.int .i64 Na,ua],.agg #[.int .i64 Nb,ub]] w fun e w'=>∃ i o l k,e=.returned (.tuple #[.agg #[.int .i64 i,.slice o l k],errOf f])∧Below w.heap.size w w':=by
 have hf0:0≤f:=by have:=zbo hba.nonneg hbb.nonneg Na Nb;omega
 by_cases hf:0<f
 ·refine(zku w ua ub Na Nb ra rb ca cb hua hub hla hlb hba hbb f hf hfe).mono ?_;rintro e w' ⟨rfl,hb⟩;exact⟨_,_,_,_,rfl,hb⟩
 ·skip;obtain⟨h1,h2,h3⟩:=zbP (show bothC ca cb Na Nb=0 by omega);obtain⟨n,e1,hn1,hn4,LA⟩:=zaa hua hla hba h1;obtain⟨m,e2,hm1,hm4,LB⟩:=zaa hub hlb hbb h2;obtain rfl:m=n:=by omega
  rw [e1,e2];obtain rfl:f=0:=by omega
  rw [show errOf 0=.nilIface from rfl];refine(zkt w _ _ m 8 _ _ LA LB hn1 hn4 (zlh m (by omega))).mono ?_;rintro e w' ⟨v,hs,rfl,hl,hb,-⟩;obtain⟨⟨u',rfl,⟨o,k,rfl,-,-⟩⟩,-⟩:=hl;exact⟨_,_,_,_,rfl,hb⟩
theorem zjT (w:World)(ua ub:Value)(Na Nb:Int)(ra rb:List (List Raw))(ca cb:Int)(hua:MatL w ua ra)(hub:MatL w ub rb)(hla:∀ rs∈ra,lightV rs=true)(hlb:∀ rs∈rb,lightV rs=true)(hba:BF Na ra ca)(hbb:BF Nb rb cb)(f:Int)(hfe:bothC ca cb Na Nb=f):
  Calls Tryz.prog 32 #[.agg #[.int .i64 Na,ua],.agg #[.int .i64 Nb,ub]] w fun e w'=>∃ b,e=.returned (.tuple #[.bool b,errOf f])∧Below w.heap.size w w':=by
 have hf0:0≤f:=by have:=zbo hba.nonneg hbb.nonneg Na Nb;omega
 by_cases hf:0<f
 ·refine(zjU w ua ub Na Nb ra rb ca cb hua hub hla hlb hba hbb f hf hfe).mono ?_;rintro e w' ⟨rfl,hb⟩;exact⟨_,rfl,hb⟩
 ·skip;obtain⟨h1,h2,h3⟩:=zbP (show bothC ca cb Na Nb=0 by omega);obtain⟨n,e1,hn1,hn4,LA⟩:=zaa hua hla hba h1;obtain⟨m,e2,hm1,hm4,LB⟩:=zaa hub hlb hbb h2;obtain rfl:m=n:=by omega
  rw [e1,e2];obtain rfl:f=0:=by omega
  rw [show errOf 0=.nilIface from rfl];by_cases hin:∀ us∈zsOf ra,Gens m (InL (zsOf rb)) us
  ·refine(zfK w _ _ m 8 8 _ _ LA LB hn1 hn4 (by omega) true ⟨fun _=>hin,fun _=>rfl⟩).mono ?_;rintro e w' ⟨rfl,hb⟩;exact⟨_,rfl,hb⟩
  ·refine(zfK w _ _ m 8 8 _ _ LA LB hn1 hn4 (by omega) false ⟨fun h=>absurd h (by decide),fun h=>absurd h hin⟩).mono ?_;rintro e w' ⟨rfl,hb⟩;exact⟨_,rfl,hb⟩
theorem zjN (w:World)(ua ub:Value)(Na Nb:Int)(ra rb:List (List Raw))(ca cb:Int)(hua:MatL w ua ra)(hub:MatL w ub rb)(hla:∀ rs∈ra,lightV rs=true)(hlb:∀ rs∈rb,lightV rs=true)(hba:BF Na ra ca)(hbb:BF Nb rb cb)(f:Int)(hfe:bothC ca cb Na Nb=f):
  Calls Tryz.prog 38 #[.agg #[.int .i64 Na,ua],.agg #[.int .i64 Nb,ub]] w fun e w'=>∃ b o l k ev,e=.returned (.tuple #[.agg #[.bool b,.slice o l k],ev])∧(0<f→ev=errOf f)∧Below w.heap.size w w':=by
 have hf0:0≤f:=by have:=zbo hba.nonneg hbb.nonneg Na Nb;omega
 by_cases hf:0<f
 ·refine(zjO w ua ub Na Nb ra rb ca cb hua hub hla hlb hba hbb f hf hfe).mono ?_;rintro e w' ⟨rfl,hb⟩;exact⟨_,_,_,_,_,rfl,fun _=>rfl,hb⟩
 ·skip;obtain⟨h1,h2,h3⟩:=zbP (show bothC ca cb Na Nb=0 by omega);obtain⟨n,e1,hn1,hn4,LA⟩:=zaa hua hla hba h1;obtain⟨m,e2,hm1,hm4,LB⟩:=zaa hub hlb hbb h2;obtain rfl:m=n:=by omega
  rw [e1,e2];obtain rfl:f=0:=by omega
  rw [show errOf 0=.nilIface from rfl];obtain⟨-,pk,G⟩:=id LB;by_cases hin:∀ us∈zsOf ra,Gens m (InL (zsOf rb)) us
  ·refine(zjP w _ _ m 8 8 _ _ pk LA LB G hn1 hn4 (by omega) hin zgP).mono ?_;rintro e w' ⟨hb,⟨-,rfl⟩ |⟨-,v,M,rfl,hv,-⟩⟩
   ·exact⟨_,_,_,_,_,rfl,fun h=>absurd h hf,hb⟩
   ·obtain⟨⟨a,b,c,d⟩,rfl⟩:=hv.nm;exact⟨_,_,_,_,_,rfl,fun h=>absurd h hf,hb⟩
  ·refine(zjQ w _ _ m 8 8 _ _ pk LA LB G hn1 hn4 (by omega) hin).mono ?_;rintro e w' ⟨rfl,hb⟩;exact⟨_,_,_,_,_,rfl,fun h=>absurd h hf,hb⟩
theorem zle (w:World)(ua ub:Value)(Na Nb:Int)(ra rb:List (List Raw))(ca cb:Int)(hua:MatL w ua ra)(hub:MatL w ub rb)(hla:∀ rs∈ra,lightV rs=true)(hlb:∀ rs∈rb,lightV rs=true)(hba:BF Na ra ca)(hbb:BF Nb rb cb)(f:Int)(hfe:bothC ca cb Na Nb=f):
  Calls Tryz.prog 39 #[.agg #[.int .i64 Na,ua],.agg #[.int .i64 Nb,ub]] w fun e w'=>∃ o l k fr ev,e=.returned (.tuple #[.agg #[.slice o l k,.int .i64 fr],ev])∧(0<f→ev=errOf f)∧Below w.heap.size w w':=by
 have hf0:0≤f:=by have:=zbo hba.nonneg hbb.nonneg Na Nb;omega
 by_cases hf:0<f
 ·refine(zgJ w ua ub Na Nb ra rb ca cb hua hub hla hlb hba hbb f hf hfe).mono ?_;rintro e w' ⟨rfl,hb⟩;exact⟨_,_,_,_,_,rfl,fun _=>rfl,hb⟩
 ·skip;obtain⟨h1,h2,h3⟩:=zbP (show bothC ca cb Na Nb=0 by omega);obtain⟨n,e1,hn1,hn4,LA⟩:=zaa hua hla hba h1;obtain⟨m,e2,hm1,hm4,LB⟩:=zaa hub hlb hbb h2;obtain rfl:m=n:=by omega
  rw [e1,e2];obtain rfl:f=0:=by omega
  rw [show errOf 0=.nilIface from rfl];obtain⟨-,pk,G⟩:=id LB;by_cases hin:∀ us∈zsOf ra,Gens m (InL (zsOf rb)) us
  ·refine(zgK w _ _ m 8 8 _ _ pk LA LB G hn1 hn4 (by omega) hin zgP).mono ?_;rintro e w' ⟨u,M,zs,rfl,⟨o,k,rfl,-,-⟩,-,-,-,-,-,-,hb,-⟩;exact⟨_,_,_,_,_,rfl,fun h=>absurd h hf,hb⟩
  ·refine(zgL w _ _ m 8 8 _ _ pk LA LB G hn1 hn4 (by omega) hin).mono ?_;rintro e w' ⟨rfl,hb⟩;exact⟨_,_,_,_,_,rfl,fun h=>absurd h hf,hb⟩
theorem zjd (w:World)(ua:Value)(Na:Int)(ra:List (List Raw))(ca:Int)(hua:MatL w ua ra)(hla:∀ rs∈ra,lightV rs=true)(hba:BF Na ra ca):
  Calls Tryz.prog 27 #[.agg #[.int .i64 Na,ua]] w fun e w'=>∃ i o l k,e=.returned (.tuple #[.agg #[.int .i64 i,.slice o l k],errOf ca])∧Below w.heap.size w w':=by
 by_cases hf:0<ca
 ·refine(zje w ua Na ra ca hua hla hba ca hf rfl).mono ?_;rintro e w' ⟨rfl,hb⟩;exact⟨_,_,_,_,rfl,hb⟩
 ·have h0:ca=0:=by have:=hba.nonneg;omega
  obtain⟨n,rfl,hn1,hn4,LA⟩:=zaa hua hla hba h0;rw [h0,show errOf 0=.nilIface from rfl];refine(zjf w _ n 8 _ LA hn1 hn4 (by decide) (zgO n (by omega)).1 (zgO n (by omega)).2).mono ?_;rintro e w' ⟨v,ms,fs,rfl,hl,-,-,-,hb⟩;obtain⟨⟨u',rfl,⟨o,k,rfl,-,-⟩⟩,-⟩:=hl;exact⟨_,_,_,_,rfl,hb⟩
theorem zhx{rs:List Raw}(h:withC ca Na rs=0):ca=0∧(rs.length:Int)=Na∧rs.all Raw.num=true:=by
 unfold withC at h;by_cases h1:ca=0
 ·rw [if_neg (fun h'=>h' h1)] at h;by_cases h2:(rs.length:Int)=Na
  ·rw [if_neg (fun h'=>h' h2)] at h;refine⟨h1,h2,?_⟩;unfold faultV at h;split at h
   ·omega
   ·unfold faulty at h;cases e:rs.all Raw.num
    ·rw [e] at h;exact absurd h (by decide)
    ·rfl
  ·rw [if_pos h2] at h;omega
 ·rw [if_pos h1] at h;exact absurd h h1
theorem zd0 (w:World)(ua x:Value)(Na:Int)(ra:List (List Raw))(rs:List Raw)(ca:Int)(hua:MatL w ua ra)(hx:VecL w x rs)(hla:∀ rs∈ra,lightV rs=true)(hlx:lightV rs=true)(hba:BF Na ra ca)(f:Int)(hfe:withC ca Na rs=f):
  Calls Tryz.prog 41 #[.agg #[.int .i64 Na,ua],x] w fun e w'=>∃ o l k b,e=.returned (.tuple #[.slice o l k,.bool b,errOf f])∧Below w.heap.size w w':=by
 have hf0:0≤f:=by have:=zex hba.nonneg Na rs;omega
 by_cases hf:0<f
 ·refine(zky w ua x Na ra rs ca hua hx hla hba f hf hfe).mono ?_;rintro e w' ⟨rfl,hb⟩;exact⟨_,_,_,_,rfl,hb⟩
 ·obtain⟨h1,h2,h3⟩:=zhx (show withC ca Na rs=0 by omega);obtain⟨n,rfl,hn1,hn4,LA⟩:=zaa hua hla hba h1;obtain rfl:f=0:=by omega
  rw [show errOf 0=.nilIface from rfl];have hxn:=hx.nums (n:=8) h3 (zaH hlx);obtain⟨hm,p,F⟩:=id LA;refine(zf9 w _ _ n 8 8 _ p (rs.map Raw.z) hm F hxn (by rw [zM];omega) hn1 hn4 (by omega)).mono ?_;rintro e w' ⟨hb,⟨-,P,rfl,-⟩ |⟨-,rfl⟩⟩
  ·exact⟨_,_,_,_,rfl,hb⟩
  ·exact⟨_,_,_,_,rfl,hb⟩
theorem zdS (w:World)(ua x:Value)(Na:Int)(ra:List (List Raw))(rs:List Raw)(ca:Int)(hua:MatL w ua ra)(hx:VecL w x rs)(hla:∀ rs∈ra,lightV rs=true)(hlx:lightV rs=true)(hba:BF Na ra ca)(f:Int)(hfe:withC ca Na rs=f):
  Calls Tryz.prog 42 #[.agg #[.int .i64 Na,ua],x] w fun e w'=>∃ i o l k,e=.returned (.tuple #[.agg #[.int .i64 i,.slice o l k],errOf f])∧Below w.heap.size w w':=by
 have hf0:0≤f:=by have:=zex hba.nonneg Na rs;omega
 by_cases hf:0<f
 ·refine(zjS w ua x Na ra rs ca hua hx hla hba f hf hfe).mono ?_;rintro e w' ⟨rfl,hb⟩;exact⟨_,_,_,_,rfl,hb⟩
 ·obtain⟨h1,h2,h3⟩:=zhx (show withC ca Na rs=0 by omega);obtain⟨n,rfl,hn1,hn4,LA⟩:=zaa hua hla hba h1;obtain rfl:f=0:=by omega
  rw [show errOf 0=.nilIface from rfl];have hxn:=hx.nums (n:=8) h3 (zaH hlx);refine(zfJ w _ _ n 8 _ (rs.map Raw.z) LA hxn (by rw [zM];omega) hn1 hn4 (zgQ n (by omega))).mono ?_;rintro e w' ⟨v,hs,rfl,hl,hb,-,-⟩;obtain⟨⟨u',rfl,⟨o,k,rfl,-,-⟩⟩,-⟩:=hl;exact⟨_,_,_,_,rfl,hb⟩
theorem zeU (w W:World)(xo ao:Option Addr)(xcap acap BA:Nat)(Na ca:Int)(ra:List (List Raw))(rs:List Raw)(hbe:Below w.heap.size w W)(hX:VecL w (.slice xo rs.length xcap) rs)(hlx:lightV rs=true)(hrl:rs.length≤1000000)(hA:MatL w (.slice ao ra.length acap) ra)(hla:∀ rs∈ra,lightV rs=true)(hba:BF Na ra ca)(XA:BoxL W BA (.int .i64 Na) (.slice ao ra.length acap))(sl0 sl1 sl4 sl5 sl6 sl7 sl9 sl10 sl11 sl12 sl13 sl14 sl15 sl16 sl17 sl18 sl19 sl20 sl21 sl22 sl23 sl24 sl25 sl26 sl27 sl28 sl29 sl30 sl31 sl32 sl33 sl34 sl35 sl36 sl37 sl38 sl39 sl40 sl41 sl42 sl43 sl44 sl45 sl46 sl47 sl48 sl49 sl50 sl51 sl52 sl53 sl54 sl55 sl56 sl57 sl58 sl59 sl60 sl61 sl62 sl63 sl64 sl65 sl66 sl67 sl68 sl69 sl70 sl71 sl72 sl73 sl74 sl75 sl76 sl77 sl78 sl79 sl80 sl81 sl82 sl83 sl84 sl85 sl86 sl87 sl88 sl89 sl90 sl91 sl92 sl93 sl94 sl95 sl96 sl97 sl98 sl99 sl100 sl101 sl102 sl103 sl104 sl105 sl106 sl107 sl108 sl109 sl110 sl111 sl112 sl113 sl114 sl115 sl116 sl117 sl118 sl119 sl120 sl121 sl122 sl123 sl124 sl125 sl126 sl127 sl128 sl129 sl130 sl131 sl132 sl133 sl134 sl135 sl136 sl137 sl138 sl139 sl140 sl141 sl142 sl143 sl144 sl145 sl146 sl147 sl148 sl149 sl150 sl151 sl152 sl153 sl154 sl155 sl156 sl157 sl158 sl159 sl160 sl161 sl162 sl163 sl164 sl165 sl166 sl167 sl168 sl169 sl170 sl171 sl172 sl173 sl174 sl175:Value):
  (Code.tl (Code.tl (Code.tl (Code.tl (Code.tl (Code.tl (Code.tl (Code.tl (Code.tl (Code.tl (Code.tl (Code.tl (Code.tl (Code.tl (Code.tl (Code.tl (Code.tl ((Tryz.f6.body).getD .skip)))))))))))))))))).wp Tryz.prog (bodyPost Tryz.prog Tryz.f6 (fun e w'=>e=.returned (.bool true)∧Below w.heap.size w w')) ⟨#[sl0,sl1,(.slice xo rs.length xcap),(.pointer (some ⟨BA,0,none⟩)),sl4,sl5,sl6,sl7,(.int .i64 ca),sl9,sl10,sl11,sl12,sl13,sl14,sl15,sl16,sl17,sl18,sl19,sl20,sl21,sl22,sl23,sl24,sl25,sl26,sl27,sl28,sl29,sl30,sl31,sl32,sl33,sl34,sl35,sl36,sl37,sl38,sl39,sl40,sl41,sl42,sl43,sl44,sl45,sl46,sl47,sl48,sl49,sl50,sl51,sl52,sl53,sl54,sl55,sl56,sl57,sl58,sl59,sl60,sl61,sl62,sl63,sl64,sl65,sl66,sl67,sl68,sl69,sl70,sl71,sl72,sl73,sl74,sl75,sl76,sl77,sl78,sl79,sl80,sl81,sl82,sl83,sl84,sl85,sl86,sl87,sl88,sl89,sl90,sl91,sl92,sl93,sl94,sl95,sl96,sl97,sl98,sl99,sl100,sl101,sl102,sl103,sl104,sl105,sl106,sl107,sl108,sl109,sl110,sl111,sl112,sl113,sl114,sl115,sl116,sl117,sl118,sl119,sl120,sl121,sl122,sl123,sl124,sl125,sl126,sl127,sl128,sl129,sl130,sl131,sl132,sl133,sl134,sl135,sl136,sl137,sl138,sl139,sl140,sl141,sl142,sl143,sl144,sl145,sl146,sl147,sl148,sl149,sl150,sl151,sl152,sl153,sl154,sl155,sl156,sl157,sl158,sl159,sl160,sl161,sl162,sl163,sl164,sl165,sl166,sl167,sl168,sl169,sl170,sl171,sl172,sl173,sl174,sl175],[]⟩ W:=by
 simp only [Code.tl,Tryz.f6,Option.getD_some];have hfz:=zex hba.nonneg Na rs;by_cases h:ca=0
 ·by_cases hl:(rs.length:Int)=Na
  ·have hfe:withC ca Na rs=faultV rs:=by unfold withC;rw [if_neg (fun h'=>h' h),if_neg (fun h'=>h' hl)]
   have hf0:0≤faultV rs:=by omega
   have g0:(ca==0)=true:=by rw [beq_iff_eq];exact h
   have g1:((rs.length:Int) != Na)=false:=by rw [bne_eq_false_iff_eq];exact hl
   have g2:((rs.length:Int)==Na)=true:=by rw [beq_iff_eq];exact hl
   have HH:=hide h;have HHL:=hide hl;clear h hl;obtain⟨a0,a1,-,-⟩:=XA.1;go_wp2_with fail;refine(zhw W _ rs (hX.below hbe zL) hrl).mono ?_;rintro e w1 ⟨rfl,hb1⟩;have hbe1:=hbe.trans (hb1.mono hbe.size);replace XA:=XA.later hb1;clear hb1 a0 a1;obtain⟨a0,a1,-,-⟩:=XA.1;go_wp2_with fail;refine(zd0 w1 _ _ Na ra rs ca (hA.below hbe1 zL) (hX.below hbe1 zL) hla hlx hba (faultV rs) hfe).mono ?_;rintro e w2 ⟨mo,ml,mk,mb,rfl,hb2⟩;have HB2:=hide (hbe1.trans (hb2.mono hbe1.size));have XA2:=hide (XA.later hb2);clear hb2 a0 a1;obtain⟨a0,a1,-,-⟩:=XA2.out.1;go_wp2_with fail;refine(zdS w2 _ _ Na ra rs ca (hA.below HB2.out zL) (hX.below HB2.out zL) hla hlx hba (faultV rs) hfe).mono ?_;rintro e w3 ⟨ii,io,il,ik,rfl,hb3⟩;have HB3:=hide ((HB2.out.trans (hb3.mono HB2.out.size)).alloc (HB2.out.trans (hb3.mono HB2.out.size)).size (.cells #[.int .i64 ii,.slice io il ik] 55));clear hb3 a0 a1;go_wp2_with fail;refine(zaf (faultV rs) hf0 _).mono ?_;rintro e w4 ⟨rfl,rfl⟩;go_wp2_with fail;refine(zaf (faultV rs) hf0 _).mono ?_;rintro e w5 ⟨rfl,rfl⟩;go_wp2;go_ret;exact⟨rfl,HB3.out⟩
  ·have hfe:withC ca Na rs=6:=by unfold withC;rw [if_neg (fun h'=>h' h),if_pos hl]
   have hf0:(0:Int)≤6:=by decide
   have g0:(ca==0)=true:=by rw [beq_iff_eq];exact h
   have g1:((rs.length:Int) != Na)=true:=by rw [bne_iff_ne];exact hl
   have g2:((rs.length:Int)==Na)=false:=beq_eq_false_iff_ne.2 hl;have HH:=hide h;clear h;obtain⟨a0,a1,-,-⟩:=XA.1;go_wp2_with fail;refine(zd0 W _ _ Na ra rs ca (hA.below hbe zL) (hX.below hbe zL) hla hlx hba 6 hfe).mono ?_;rintro e w2 ⟨mo,ml,mk,mb,rfl,hb2⟩;have HB2:=hide (hbe.trans (hb2.mono hbe.size));have XA2:=hide (XA.later hb2);clear hb2 a0 a1;obtain⟨a0,a1,-,-⟩:=XA2.out.1;go_wp2_with fail;refine(zdS w2 _ _ Na ra rs ca (hA.below HB2.out zL) (hX.below HB2.out zL) hla hlx hba 6 hfe).mono ?_;rintro e w3 ⟨ii,io,il,ik,rfl,hb3⟩;have HB3:=hide ((HB2.out.trans (hb3.mono HB2.out.size)).alloc (HB2.out.trans (hb3.mono HB2.out.size)).size (.cells #[.int .i64 ii,.slice io il ik] 55));clear hb3 a0 a1;go_wp2_with fail;refine(zaf 6 hf0 _).mono ?_;rintro e w4 ⟨rfl,rfl⟩;go_wp2_with fail;refine(zaf 6 hf0 _).mono ?_;rintro e w5 ⟨rfl,rfl⟩;go_wp2;go_ret;exact⟨rfl,HB3.out⟩
 ·have hfe:withC ca Na rs=ca:=by unfold withC;rw [if_pos h]
  have hf0:=hba.nonneg;have g0:(ca==0)=false:=beq_eq_false_iff_ne.2 h;obtain⟨a0,a1,-,-⟩:=XA.1;go_wp2_with fail;refine(zd0 W _ _ Na ra rs ca (hA.below hbe zL) (hX.below hbe zL) hla hlx hba ca hfe).mono ?_;rintro e w2 ⟨mo,ml,mk,mb,rfl,hb2⟩;have HB2:=hide (hbe.trans (hb2.mono hbe.size));have XA2:=hide (XA.later hb2);clear hb2 a0 a1;obtain⟨a0,a1,-,-⟩:=XA2.out.1;go_wp2_with fail;refine(zdS w2 _ _ Na ra rs ca (hA.below HB2.out zL) (hX.below HB2.out zL) hla hlx hba ca hfe).mono ?_;rintro e w3 ⟨ii,io,il,ik,rfl,hb3⟩;have HB3:=hide ((HB2.out.trans (hb3.mono HB2.out.size)).alloc (HB2.out.trans (hb3.mono HB2.out.size)).size (.cells #[.int .i64 ii,.slice io il ik] 55));clear hb3 a0 a1;go_wp2_with fail;refine(zaf ca hf0 _).mono ?_;rintro e w4 ⟨rfl,rfl⟩;go_wp2_with fail;refine(zaf ca hf0 _).mono ?_;rintro e w5 ⟨rfl,rfl⟩;go_wp2;go_ret;exact⟨rfl,HB3.out⟩
theorem zcy (w W:World)(xo ao bo:Option Addr)(xcap acap bcap BA BB:Nat)(Na Nb ca cb f:Int)(ra rb:List (List Raw))(rs:List Raw)(hbe:Below w.heap.size w W)(hX:VecL w (.slice xo rs.length xcap) rs)(hlx:lightV rs=true)(hrl:rs.length≤1000000)(hA:MatL w (.slice ao ra.length acap) ra)(hla:∀ rs∈ra,lightV rs=true)(hba:BF Na ra ca)(XA:BoxL W BA (.int .i64 Na) (.slice ao ra.length acap))(hB:MatL w (.slice bo rb.length bcap) rb)(hlb:∀ rs∈rb,lightV rs=true)(hbb:BF Nb rb cb)(hfe:bothC ca cb Na Nb=f)(XB:BoxL W BB (.int .i64 Nb) (.slice bo rb.length bcap))(sl0 sl1 sl5 sl6 sl7 sl9 sl11 sl12 sl13 sl14 sl15 sl16 sl17 sl18 sl19 sl20 sl21 sl22 sl23 sl24 sl25 sl26 sl27 sl28 sl29 sl30 sl31 sl32 sl33 sl34 sl35 sl36 sl37 sl38 sl39 sl40 sl41 sl42 sl43 sl44 sl45 sl46 sl47 sl48 sl49 sl50 sl51 sl52 sl53 sl54 sl55 sl56 sl57 sl58 sl59 sl60 sl61 sl62 sl63 sl64 sl65 sl66 sl67 sl68 sl69 sl70 sl71 sl72 sl73 sl74 sl75 sl76 sl77 sl78 sl79 sl80 sl81 sl82 sl83 sl84 sl85 sl86 sl87 sl88 sl89 sl90 sl91 sl92 sl93 sl94 sl95 sl96 sl97 sl98 sl99 sl100 sl101 sl102 sl103 sl104 sl105 sl106 sl107 sl108 sl109 sl110 sl111 sl112 sl113 sl114 sl115 sl116 sl117 sl118 sl119 sl120 sl121 sl122 sl123 sl124 sl125 sl126 sl127 sl128 sl129 sl130 sl131 sl132 sl133 sl134 sl135 sl136 sl137 sl138 sl139 sl140 sl141 sl142 sl143 sl144 sl145 sl146 sl147 sl148 sl149 sl150 sl151 sl152 sl153 sl154 sl155 sl156 sl157 sl158 sl159 sl160 sl161 sl162 sl163 sl164 sl165 sl166 sl167 sl168 sl169 sl170 sl171 sl172 sl173 sl174 sl175:Value):
  (Code.tl (Code.tl (Code.tl (Code.tl (Code.tl (Code.tl (Code.tl (Code.tl ((Tryz.f6.body).getD .skip))))))))).wp Tryz.prog (bodyPost Tryz.prog Tryz.f6 (fun e w'=>e=.returned (.bool true)∧Below w.heap.size w w')) ⟨#[sl0,sl1,(.slice xo rs.length xcap),(.pointer (some ⟨BA,0,none⟩)),(.pointer (some ⟨BB,0,none⟩)),sl5,sl6,sl7,(.int .i64 ca),sl9,(.int .i64 f),sl11,sl12,sl13,sl14,sl15,sl16,sl17,sl18,sl19,sl20,sl21,sl22,sl23,sl24,sl25,sl26,sl27,sl28,sl29,sl30,sl31,sl32,sl33,sl34,sl35,sl36,sl37,sl38,sl39,sl40,sl41,sl42,sl43,sl44,sl45,sl46,sl47,sl48,sl49,sl50,sl51,sl52,sl53,sl54,sl55,sl56,sl57,sl58,sl59,sl60,sl61,sl62,sl63,sl64,sl65,sl66,sl67,sl68,sl69,sl70,sl71,sl72,sl73,sl74,sl75,sl76,sl77,sl78,sl79,sl80,sl81,sl82,sl83,sl84,sl85,sl86,sl87,sl88,sl89,sl90,sl91,sl92,sl93,sl94,sl95,sl96,sl97,sl98,sl99,sl100,sl101,sl102,sl103,sl104,sl105,sl106,sl107,sl108,sl109,sl110,sl111,sl112,sl113,sl114,sl115,sl116,sl117,sl118,sl119,sl120,sl121,sl122,sl123,sl124,sl125,sl126,sl127,sl128,sl129,sl130,sl131,sl132,sl133,sl134,sl135,sl136,sl137,sl138,sl139,sl140,sl141,sl142,sl143,sl144,sl145,sl146,sl147,sl148,sl149,sl150,sl151,sl152,sl153,sl154,sl155,sl156,sl157,sl158,sl159,sl160,sl161,sl162,sl163,sl164,sl165,sl166,sl167,sl168,sl169,sl170,sl171,sl172,sl173,sl174,sl175],[]⟩ W:=by
 simp only [Code.tl,Tryz.f6,Option.getD_some];have HB:=hide hbe;have YA:=hide XA;have YB:=hide XB;have hf0:0≤f:=by have:=zbo hba.nonneg hbb.nonneg Na Nb;omega
 have hc0:=hba.nonneg;clear hbe XA XB;obtain⟨a0,a1,-,-⟩:=YA.out.1;obtain⟨b0,b1,-,-⟩:=YB.out.1;go_wp2_with fail;refine(zbR W _ Na ra ca (hA.below HB.out zL) hla hba).mono ?_;rintro e w1 ⟨rfl,hb1⟩;replace HB:=hide (HB.out.trans (hb1.mono HB.out.size));replace YA:=hide (YA.out.later hb1);replace YB:=hide (YB.out.later hb1);clear a0 a1 b0 b1;obtain⟨a0,a1,-,-⟩:=YA.out.1;obtain⟨b0,b1,-,-⟩:=YB.out.1;clear hb1;go_wp2_with fail;refine(zaf ca hc0 _).mono ?_;rintro e w1' ⟨rfl,rfl⟩;go_wp2_with fail;refine(zl0 w1' _ _ Na Nb ra rb ca cb (hA.below HB.out zL) (hB.below HB.out zL) hla hlb hba hbb f hfe).mono ?_;rintro e w2 ⟨i2,o2,l2,k2,rfl,hb2⟩;have hN:=zbm w2 (.cells #[.int .i64 i2,.slice o2 l2 k2] 55);have hbn:=hb2.trans (hN.mono hb2.size);replace HB:=hide (HB.out.trans (hbn.mono HB.out.size));replace YA:=hide (YA.out.later hbn);replace YB:=hide (YB.out.later hbn);clear a0 a1 b0 b1;obtain⟨a0,a1,-,-⟩:=YA.out.1;obtain⟨b0,b1,-,-⟩:=YB.out.1;clear hN hbn hb2;go_upto_region 14 with fail;generalize (w2.alloc (.cells #[.int .i64 i2,.slice o2 l2 k2] 55))=W3 at *;go_wp2_with fail;refine(zkw W3 _ _ Na Nb ra rb ca cb (hA.below HB.out zL) (hB.below HB.out zL) hla hlb hba hbb f hfe).mono ?_;rintro e w4 ⟨i4,o4,l4,k4,rfl,hb4⟩;have hN:=zbm w4 (.cells #[.int .i64 i4,.slice o4 l4 k4] 55);have hbn:=hb4.trans (hN.mono hb4.size);replace HB:=hide (HB.out.trans (hbn.mono HB.out.size));replace YA:=hide (YA.out.later hbn);replace YB:=hide (YB.out.later hbn);clear a0 a1 b0 b1;obtain⟨a0,a1,-,-⟩:=YA.out.1;obtain⟨b0,b1,-,-⟩:=YB.out.1;clear hN hbn hb4;go_upto_region 15 with fail;generalize (w4.alloc (.cells #[.int .i64 i4,.slice o4 l4 k4] 55))=W5 at *;go_wp2_with fail;refine(zjT W5 _ _ Na Nb ra rb ca cb (hA.below HB.out zL) (hB.below HB.out zL) hla hlb hba hbb f hfe).mono ?_;rintro e w6 ⟨bI,rfl,hb6⟩;replace HB:=hide (HB.out.trans (hb6.mono HB.out.size));replace YA:=hide (YA.out.later hb6);replace YB:=hide (YB.out.later hb6);clear a0 a1 b0 b1;obtain⟨a0,a1,-,-⟩:=YA.out.1;obtain⟨b0,b1,-,-⟩:=YB.out.1;clear hb6;go_wp2_with fail;refine(zjd w6 _ Na ra ca (hA.below HB.out zL) hla hba).mono ?_;rintro e w7 ⟨i7,o7,l7,k7,rfl,hb7⟩;have hN:=zbm w7 (.cells #[.int .i64 i7,.slice o7 l7 k7] 55);have hbn:=hb7.trans (hN.mono hb7.size);replace HB:=hide (HB.out.trans (hbn.mono HB.out.size));replace YA:=hide (YA.out.later hbn);replace YB:=hide (YB.out.later hbn);clear a0 a1 b0 b1;obtain⟨a0,a1,-,-⟩:=YA.out.1;obtain⟨b0,b1,-,-⟩:=YB.out.1;clear hN hbn hb7;go_upto_region 17 with fail;generalize (w7.alloc (.cells #[.int .i64 i7,.slice o7 l7 k7] 55))=W8 at *;go_wp2_with fail;refine(zaf f hf0 _).mono ?_;rintro e wz0 ⟨rfl,rfl⟩;go_wp2_with fail;refine(zaf f hf0 _).mono ?_;rintro e wz1 ⟨rfl,rfl⟩;go_wp2_with fail;refine(zaf f hf0 _).mono ?_;rintro e wz2 ⟨rfl,rfl⟩;go_wp2_with fail;refine(zaf ca hc0 _).mono ?_;rintro e wz3 ⟨rfl,rfl⟩;go_wp2_with fail;refine(zjN wz3 _ _ Na Nb ra rb ca cb (hA.below HB.out zL) (hB.below HB.out zL) hla hlb hba hbb f hfe).mono ?_;rintro e w9 ⟨n9,o9,l9,k9,ev,rfl,hev,hb9⟩;have hN:=zbm w9 (.cells #[.bool n9,.slice o9 l9 k9] 29);have hbn:=hb9.trans (hN.mono hb9.size);replace HB:=hide (HB.out.trans (hbn.mono HB.out.size));replace YA:=hide (YA.out.later hbn);replace YB:=hide (YB.out.later hbn);clear a0 a1 b0 b1;obtain⟨a0,a1,-,-⟩:=YA.out.1;obtain⟨b0,b1,-,-⟩:=YB.out.1;clear hN hbn hb9;have HEV:=hide hev;clear hev;go_upto_region 20 with fail;generalize (w9.alloc (.cells #[.bool n9,.slice o9 l9 k9] 29))=W10 at *;go_wp2_with fail;refine(zle W10 _ _ Na Nb ra rb ca cb (hA.below HB.out zL) (hB.below HB.out zL) hla hlb hba hbb f hfe).mono ?_;rintro e w11 ⟨oq,lq,kq,frq,ev2,rfl,hev2,hb11⟩;have hN:=zbm w11 (.cells #[.slice oq lq kq,.int .i64 frq] 77);have hbn:=hb11.trans (hN.mono hb11.size);replace HB:=hide (HB.out.trans (hbn.mono HB.out.size));replace YA:=hide (YA.out.later hbn);replace YB:=hide (YB.out.later hbn);clear a0 a1 b0 b1;obtain⟨a0,a1,-,-⟩:=YA.out.1;obtain⟨b0,b1,-,-⟩:=YB.out.1;clear hN hbn hb11;have HEV2:=hide hev2;clear hev2;go_upto_region 21 with fail;generalize (w11.alloc (.cells #[.slice oq lq kq,.int .i64 frq] 77))=W12 at *;by_cases hf:0<f
 ·have g0:decide (0<f)=true:=decide_eq_true hf;obtain rfl:=HEV.out hf;obtain rfl:=HEV2.out hf;go_wp2_with fail;refine(zaf f hf0 _).mono ?_;rintro e wy ⟨rfl,rfl⟩;go_wp2_with fail;refine(zaf f hf0 _).mono ?_;rintro e wy2 ⟨rfl,rfl⟩;go_upto_if 141 with fail;go_cut [] from 142 (fun wx=>wx=wy2)
  case first=>
   go_wp2;go_meet
   case rel=>rfl
  case rest=>
   subst hcut;apply_assumption;exact zeU w _ xo ao xcap acap BA Na ca ra rs HB.out hX hlx hrl hA hla hba YA.out _ _ _ _ _ _ _ _ _ _ _ _ _ _ _ _ _ _ _ _ _ _ _ _ _ _ _ _ _ _ _ _ _ _ _ _ _ _ _ _ _ _ _ _ _ _ _ _ _ _ _ _ _ _ _ _ _ _ _ _ _ _ _ _ _ _ _ _ _ _ _ _ _ _ _ _ _ _ _ _ _ _ _ _ _ _ _ _ _ _ _ _ _ _ _ _ _ _ _ _ _ _ _ _ _ _ _ _ _ _ _ _ _ _ _ _ _ _ _ _ _ _ _ _ _ _ _ _ _ _ _ _ _ _ _ _ _ _ _ _ _ _ _ _ _ _ _ _ _ _ _ _ _ _ _ _ _ _ _ _ _ _ _ _ _ _ _ _ _ _ _ _ _
 ·have g0:decide (0<f)=false:=decide_eq_false hf;go_upto_if 141 with fail;go_cut [] from 142 (fun wx=>wx=W12)
  case first=>
   go_wp2;go_meet
   case rel=>rfl
  case rest=>
   subst hcut;apply_assumption;exact zeU w _ xo ao xcap acap BA Na ca ra rs HB.out hX hlx hrl hA hla hba YA.out _ _ _ _ _ _ _ _ _ _ _ _ _ _ _ _ _ _ _ _ _ _ _ _ _ _ _ _ _ _ _ _ _ _ _ _ _ _ _ _ _ _ _ _ _ _ _ _ _ _ _ _ _ _ _ _ _ _ _ _ _ _ _ _ _ _ _ _ _ _ _ _ _ _ _ _ _ _ _ _ _ _ _ _ _ _ _ _ _ _ _ _ _ _ _ _ _ _ _ _ _ _ _ _ _ _ _ _ _ _ _ _ _ _ _ _ _ _ _ _ _ _ _ _ _ _ _ _ _ _ _ _ _ _ _ _ _ _ _ _ _ _ _ _ _ _ _ _ _ _ _ _ _ _ _ _ _ _ _ _ _ _ _ _ _ _ _ _ _ _ _ _ _
theorem zfv{v:Value}{n:Nat}{ms hs:List (List Int)}{p:Nat→Nat}(hv:MatN w v ms 8)(hl:∀ us∈ms,us.length=n)(F:FormL n hs p)(a:Alikes n (InL hs) (InL ms))(h4:n≤4):∀ zs∈hs,∀ j,j<zs.length→-dp (3 *(n*8+2))<zs.getD j 0∧zs.getD j 0<dp (3 *(n*8+2)):=fun zs hz j hj=>by
 have h1:=zfs (nv:=8) F a hl (fun us hus i hi=>hv.abs us hus i (by rw [hl us hus];exact hi)) (by omega) zs hz j hj;have h2:=ze2 (n*8+2);unfold ab at h1;split at h1 <;> constructor <;> omega
theorem zeT (w:World)(u:Value)(N:Int)(rss:List (List Raw))(c:Int)(hu:MatL w u rss)(hlt:∀ rs∈rss,lightV rs=true)(hb:BF N rss c):
  Calls Tryz.prog 37 #[.agg #[.int .i64 N,u]] w fun e w'=>e=.returned (.int .i64 c)∧Below w.heap.size w w':=by
 rcases hb with⟨hN,rfl⟩ |⟨hN,hM,rfl⟩ |⟨hN,hM,hc,-,hfm⟩ |⟨hN,hM,hck,hfm,⟨rfl,hno⟩ |⟨rfl,hyes⟩⟩
 ·by_cases h1:N<1
  ·have g1:decide (N<1)=true:=decide_eq_true h1;have HU:=hide hu;obtain⟨uo,ucap,rfl,-,-⟩:=hu;have HB0:=hide ((zB w.heap.size w).alloc zL (.cells #[.int .i64 N,.slice uo rss.length ucap] 55));have HC:=hide (zg w (.int .i64 N) (.slice uo rss.length ucap) 55 _ rfl);have HSZ:Hid (w.heap.size<(w.alloc (.cells #[.int .i64 N,.slice uo rss.length ucap] 55)).heap.size):=by show _<_;simp
   obtain⟨c0,c1,z0,z1⟩:=HC.out;go_enter Tryz.func37,Tryz.ntmps37;go_wp2;go_ret;exact⟨rfl,HB0.out⟩
  ·have g1:decide (N<1)=false:=decide_eq_false h1;have g2:decide ((4:Int)<N)=true:=decide_eq_true (by omega);have HU:=hide hu;obtain⟨uo,ucap,rfl,-,-⟩:=hu;have HB0:=hide ((zB w.heap.size w).alloc zL (.cells #[.int .i64 N,.slice uo rss.length ucap] 55));have HC:=hide (zg w (.int .i64 N) (.slice uo rss.length ucap) 55 _ rfl);have HSZ:Hid (w.heap.size<(w.alloc (.cells #[.int .i64 N,.slice uo rss.length ucap] 55)).heap.size):=by show _<_;simp
   obtain⟨c0,c1,z0,z1⟩:=HC.out;go_enter Tryz.func37,Tryz.ntmps37;go_wp2;go_ret;exact⟨rfl,HB0.out⟩
 ·skip;have HU:=hide hu;obtain⟨uo,ucap,rfl,-,-⟩:=hu;have HB0:=hide ((zB w.heap.size w).alloc zL (.cells #[.int .i64 N,.slice uo rss.length ucap] 55));have HC:=hide (zg w (.int .i64 N) (.slice uo rss.length ucap) 55 _ rfl);have HSZ:Hid (w.heap.size<(w.alloc (.cells #[.int .i64 N,.slice uo rss.length ucap] 55)).heap.size):=by show _<_;simp
  obtain⟨c0,c1,z0,z1⟩:=HC.out;have g1:decide (N<1)=false:=decide_eq_false (by omega);have g2:decide ((4:Int)<N)=false:=decide_eq_false (by omega);have g3:decide (N<(rss.length:Int))=true:=decide_eq_true (by omega);go_enter Tryz.func37,Tryz.ntmps37;go_wp2;go_ret;exact⟨rfl,HB0.out⟩
 ·skip;have HU:=hide hu;obtain⟨uo,ucap,rfl,-,-⟩:=hu;have HB0:=hide ((zB w.heap.size w).alloc zL (.cells #[.int .i64 N,.slice uo rss.length ucap] 55));have HC:=hide (zg w (.int .i64 N) (.slice uo rss.length ucap) 55 _ rfl);have HSZ:Hid (w.heap.size<(w.alloc (.cells #[.int .i64 N,.slice uo rss.length ucap] 55)).heap.size):=by show _<_;simp
  obtain⟨c0,c1,z0,z1⟩:=HC.out;have g1:decide (N<1)=false:=decide_eq_false (by omega);have g2:decide ((4:Int)<N)=false:=decide_eq_false (by omega);have g3:decide (N<(rss.length:Int))=false:=decide_eq_false (by omega);have g4:decide (0<c)=true:=decide_eq_true hc;go_enter Tryz.func37,Tryz.ntmps37;go_wp2_with fail;generalize w.alloc (.cells #[.int .i64 N,.slice uo rss.length ucap] 55)=W0 at *;refine(zdZ W0 _ rss N (by exact HU.out.below HB0.out zL)).mono ?_;rintro e w1 ⟨rfl,hb1⟩;rw [hfm];have HB1:=hide (HB0.out.trans (hb1.mono HB0.out.size));have HD:=hide (HC.out.later hb1 HSZ.out);have lB:w.heap.size<w1.heap.size:=zT HSZ.out hb1.size;clear hb1 c0 c1 z0 z1 HC;obtain⟨c0,c1,z0,z1⟩:=HD.out;go_wp2;go_ret;exact⟨rfl,HB1.out⟩
 ·skip;have HU:=hide hu;obtain⟨uo,ucap,rfl,-,-⟩:=hu;have HB0:=hide ((zB w.heap.size w).alloc zL (.cells #[.int .i64 N,.slice uo rss.length ucap] 55));have HC:=hide (zg w (.int .i64 N) (.slice uo rss.length ucap) 55 _ rfl);have HSZ:Hid (w.heap.size<(w.alloc (.cells #[.int .i64 N,.slice uo rss.length ucap] 55)).heap.size):=by show _<_;simp
  obtain⟨c0,c1,z0,z1⟩:=HC.out;have hcn:=zaP.1 hck;have HMN:Hid (MatN w (.slice uo rss.length ucap) (zsOf rss) 8):=HU.out.toN (n:=8) (fun rs h=>(hcn.2.2.2 rs h).2) (fun rs h=>zaH (hlt rs h));obtain⟨n,rfl⟩:=Int.eq_ofNat_of_zero_le (show 0≤N by omega);rw [Int.toNat_natCast] at hno;have HLN:Hid (∀ us∈zsOf rss,us.length=n):=fun us h=>by
   obtain⟨rs,h1,rfl⟩:=List.mem_map.1 h;rw [zM];have:=(hcn.2.2.2 rs h1).1;omega
  have HZL:Hid ((zsOf rss).length=rss.length):=by show _=_;unfold zsOf;rw [zM]
  have HDT:Hid (dT 24 ((zsOf rss).length+n+1)≤1000000000):=by
   have h:=HZL.out;exact Nat.le_trans (zZ (show(zsOf rss).length+n+1≤17 by omega)) (by decide)
  have hn50:n*8+2≤34:=by omega
  have g1:decide ((n:Int)<1)=false:=decide_eq_false (by omega);have g2:decide ((4:Int)<(n:Int))=false:=decide_eq_false (by omega);have g3:decide ((n:Int)<(rss.length:Int))=false:=decide_eq_false (by omega);clear hcn hck;go_enter Tryz.func37,Tryz.ntmps37;go_wp2_with fail;generalize w.alloc (.cells #[.int .i64 (n:Int),.slice uo rss.length ucap] 55)=W0 at *;refine(zdZ W0 _ rss (n:Int) (by exact HU.out.below HB0.out zL)).mono ?_;rintro e w1 ⟨rfl,hb1⟩;rw [hfm];have HB1:=hide (HB0.out.trans (hb1.mono HB0.out.size));have HD:=hide (HC.out.later hb1 HSZ.out);have lB:w.heap.size<w1.heap.size:=zT HSZ.out hb1.size;clear hb1 c0 c1 z0 z1 HC;obtain⟨c0,c1,z0,z1⟩:=HD.out;have h4n:(zsOf rss).length≤4:=by have:=HZL.out;omega
  go_wp2_with fail
  go_region_held3 (fun w'=>w'.cell? ⟨w.heap.size,0,none⟩=some (.int .i64 (n:Int))∧w'.cell? ⟨w.heap.size,1,none⟩=some (.slice uo rss.length ucap)) (go_keep)
   (first
    |(go_at_call 18;refine(zfx _ _ (zsOf rss) 8 (by exact(HMN.out.below HB1.out zL).below (zB w1.heap.size w1).drew zL) (by decide) (by omega) (fun zs h=>by rw [HLN.out zs h];omega)).mono ?_;rintro e w2 ⟨u2,rfl,hu2,hb2'⟩;have HB2:Hid (Below w1.heap.size w1 w2):=(zB _ _).drew.trans (hb2'.mono (by simp));have a0:=(HB2.out.cell (p:=⟨w.heap.size,0,none⟩) lB).trans c0;have a1:=(HB2.out.cell (p:=⟨w.heap.size,1,none⟩) lB).trans c1;have HU2:=hide hu2;clear hu2 hb2')
    |(go_at_call 33;refine(zdR w2 _ (zsOf rss) n 24 (by exact HU2.out) HLN.out (by omega) (by omega) (by omega) HDT.out).mono ?_;rintro e w3 ⟨u3,hs,p3,rfl,m3,l3,f3,a3,hb3'⟩;have HB3:Hid (Below w1.heap.size w1 w3):=HB2.out.trans (hb3'.mono HB2.out.size);have b0:=(HB3.out.cell (p:=⟨w.heap.size,0,none⟩) lB).trans c0;have b1:=(HB3.out.cell (p:=⟨w.heap.size,1,none⟩) lB).trans c1;have HM3:=hide (m3.fits (m:=3 *(n*8+2)) (zfv HMN.out HLN.out f3 a3 (by omega)));have HF3:=hide f3;have HA3:=hide a3;clear m3 f3 a3 hb3')
    |(go_at_call 73;refine(zf8 w3 _ hs (3 *(n*8+2)) (by exact HM3.out) (by omega) (fun zs h=>by rw [HF3.out.len zs h];omega) (by omega)).mono ?_;rintro e w4 ⟨u4,rfl,m4,hb4'⟩;have HB4:Hid (Below w1.heap.size w1 w4):=HB3.out.trans (hb4'.mono HB3.out.size);have d0:=(HB4.out.cell (p:=⟨w.heap.size,0,none⟩) lB).trans c0;have d1:=(HB4.out.cell (p:=⟨w.heap.size,1,none⟩) lB).trans c1;have HM4:=hide m4;clear m4 hb4'))
  have HEQ:Hid (false=decide (hs=zsOf rss)):=by
   show _=_;exact(decide_eq_false fun e=>hno ⟨p3,by rw [← e];exact HF3.out⟩).symm
  have HBW4:=hide (HB1.out.trans (HB4.out.mono HB1.out.size));have HSM:=hide (zg2 w4 _ _ hs (zsOf rss) _ 8 HM4.out (HMN.out.below HBW4.out zL) (by omega) (fun zs h=>by rw [HF3.out.len zs h];omega) false HEQ.out);obtain⟨uo4,uc4,e4,-,-⟩:=id HM4.out;subst e4;clear c0 c1 a0 a1 b0 b1 HM4 HM3 HU2 HB2 HB3 HEQ HF3 HA3;go_wp2_with fail;refine HSM.out.mono ?_;rintro e w5 ⟨rfl,hb5⟩;have HB5:=hide (HBW4.out.trans (hb5.mono HBW4.out.size));clear hb5 HSM d0 d1;go_wp2;go_ret;exact⟨rfl,HB5.out⟩
 ·skip;have HU:=hide hu;obtain⟨uo,ucap,rfl,-,-⟩:=hu;have HB0:=hide ((zB w.heap.size w).alloc zL (.cells #[.int .i64 N,.slice uo rss.length ucap] 55));have HC:=hide (zg w (.int .i64 N) (.slice uo rss.length ucap) 55 _ rfl);have HSZ:Hid (w.heap.size<(w.alloc (.cells #[.int .i64 N,.slice uo rss.length ucap] 55)).heap.size):=by show _<_;simp
  obtain⟨c0,c1,z0,z1⟩:=HC.out;have hcn:=zaP.1 hck;have HMN:Hid (MatN w (.slice uo rss.length ucap) (zsOf rss) 8):=HU.out.toN (n:=8) (fun rs h=>(hcn.2.2.2 rs h).2) (fun rs h=>zaH (hlt rs h));obtain⟨n,rfl⟩:=Int.eq_ofNat_of_zero_le (show 0≤N by omega);rw [Int.toNat_natCast] at hyes;have HLN:Hid (∀ us∈zsOf rss,us.length=n):=fun us h=>by
   obtain⟨rs,h1,rfl⟩:=List.mem_map.1 h;rw [zM];have:=(hcn.2.2.2 rs h1).1;omega
  have HZL:Hid ((zsOf rss).length=rss.length):=by show _=_;unfold zsOf;rw [zM]
  have HDT:Hid (dT 24 ((zsOf rss).length+n+1)≤1000000000):=by
   have h:=HZL.out;exact Nat.le_trans (zZ (show(zsOf rss).length+n+1≤17 by omega)) (by decide)
  have hn50:n*8+2≤34:=by omega
  have g1:decide ((n:Int)<1)=false:=decide_eq_false (by omega);have g2:decide ((4:Int)<(n:Int))=false:=decide_eq_false (by omega);have g3:decide ((n:Int)<(rss.length:Int))=false:=decide_eq_false (by omega);clear hcn hck;go_enter Tryz.func37,Tryz.ntmps37;go_wp2_with fail;generalize w.alloc (.cells #[.int .i64 (n:Int),.slice uo rss.length ucap] 55)=W0 at *;refine(zdZ W0 _ rss (n:Int) (by exact HU.out.below HB0.out zL)).mono ?_;rintro e w1 ⟨rfl,hb1⟩;rw [hfm];have HB1:=hide (HB0.out.trans (hb1.mono HB0.out.size));have HD:=hide (HC.out.later hb1 HSZ.out);have lB:w.heap.size<w1.heap.size:=zT HSZ.out hb1.size;clear hb1 c0 c1 z0 z1 HC;obtain⟨c0,c1,z0,z1⟩:=HD.out;have h4n:(zsOf rss).length≤4:=by have:=HZL.out;omega
  go_wp2_with fail
  go_region_held3 (fun w'=>w'.cell? ⟨w.heap.size,0,none⟩=some (.int .i64 (n:Int))∧w'.cell? ⟨w.heap.size,1,none⟩=some (.slice uo rss.length ucap)) (go_keep)
   (first
    |(go_at_call 18;refine(zfx _ _ (zsOf rss) 8 (by exact(HMN.out.below HB1.out zL).below (zB w1.heap.size w1).drew zL) (by decide) (by omega) (fun zs h=>by rw [HLN.out zs h];omega)).mono ?_;rintro e w2 ⟨u2,rfl,hu2,hb2'⟩;have HB2:Hid (Below w1.heap.size w1 w2):=(zB _ _).drew.trans (hb2'.mono (by simp));have a0:=(HB2.out.cell (p:=⟨w.heap.size,0,none⟩) lB).trans c0;have a1:=(HB2.out.cell (p:=⟨w.heap.size,1,none⟩) lB).trans c1;have HU2:=hide hu2;clear hu2 hb2')
    |(go_at_call 33;refine(zdR w2 _ (zsOf rss) n 24 (by exact HU2.out) HLN.out (by omega) (by omega) (by omega) HDT.out).mono ?_;rintro e w3 ⟨u3,hs,p3,rfl,m3,l3,f3,a3,hb3'⟩;have HB3:Hid (Below w1.heap.size w1 w3):=HB2.out.trans (hb3'.mono HB2.out.size);have b0:=(HB3.out.cell (p:=⟨w.heap.size,0,none⟩) lB).trans c0;have b1:=(HB3.out.cell (p:=⟨w.heap.size,1,none⟩) lB).trans c1;have HM3:=hide (m3.fits (m:=3 *(n*8+2)) (zfv HMN.out HLN.out f3 a3 (by omega)));have HF3:=hide f3;have HA3:=hide a3;clear m3 f3 a3 hb3')
    |(go_at_call 73;refine(zf8 w3 _ hs (3 *(n*8+2)) (by exact HM3.out) (by omega) (fun zs h=>by rw [HF3.out.len zs h];omega) (by omega)).mono ?_;rintro e w4 ⟨u4,rfl,m4,hb4'⟩;have HB4:Hid (Below w1.heap.size w1 w4):=HB3.out.trans (hb4'.mono HB3.out.size);have d0:=(HB4.out.cell (p:=⟨w.heap.size,0,none⟩) lB).trans c0;have d1:=(HB4.out.cell (p:=⟨w.heap.size,1,none⟩) lB).trans c1;have HM4:=hide m4;clear m4 hb4'))
  have HEQ:Hid (true=decide (hs=zsOf rss)):=by
   show _=_;exact(decide_eq_true (zcN HF3.out hyes.choose_spec HA3.out)).symm
  have HBW4:=hide (HB1.out.trans (HB4.out.mono HB1.out.size));have HSM:=hide (zg2 w4 _ _ hs (zsOf rss) _ 8 HM4.out (HMN.out.below HBW4.out zL) (by omega) (fun zs h=>by rw [HF3.out.len zs h];omega) true HEQ.out);obtain⟨uo4,uc4,e4,-,-⟩:=id HM4.out;subst e4;clear c0 c1 a0 a1 b0 b1 HM4 HM3 HU2 HB2 HB3 HEQ HF3 HA3;go_wp2_with fail;refine HSM.out.mono ?_;rintro e w5 ⟨rfl,hb5⟩;have HB5:=hide (HBW4.out.trans (hb5.mono HBW4.out.size));clear hb5 HSM d0 d1;go_wp2;go_ret;exact⟨rfl,HB5.out⟩
end Go.Proofs.YtdedolkgcdlmeaaGreatDoor
