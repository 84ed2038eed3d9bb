import Derived.Test.YtncamilanceahaaGreatFold
set_option maxRecDepth 100000
set_option maxHeartbeats 4000000
namespace Go.Proofs.YtncamilanceahaaGreat
open Go.RowKit Limbs
variable{us r v:List Int}{f k:Nat}{w:World}{p q y:Int}
structure Stair (w:World)(sb f m:Nat)(rows:Nat→Option (List Int))(len ns:Nat):Prop where
 lt:sb<w.heap.size
 nil:∀ i,f≤i→i<m→rows i=none→w.cell? ⟨sb,i,none⟩=some (.slice none 0 0)
 row:∀ i,f≤i→i<m→∀ r,rows i=some r→∃ b off cap,w.cell? ⟨sb,i,none⟩=some (.slice (some ⟨b,off,none⟩) r.length cap)∧VecN w (.slice (some ⟨b,off,none⟩) r.length cap) r ns∧r.length=len∧0<r.getD i 0
theorem Stair.below{w':World}{sb m:Nat}{rows:Nat→Option (List Int)}{len ns:Nat}(h:Stair w sb f m rows len ns)(hb:Below w.heap.size w w'):Stair w' sb f m rows len ns where
 lt:=zT h.lt hb.size
 nil:=fun i hf hi e=>(hb.cell (p:=⟨sb,i,none⟩) h.lt).trans (h.nil i hf hi e)
 row:=fun i hf hi r e=>by
  obtain⟨b,off,cap,hc,hv,h1,h2⟩:=h.row i hf hi r e;exact⟨b,off,cap,(hb.cell (p:=⟨sb,i,none⟩) h.lt).trans hc,hv.below hb zL,h1,h2⟩
def lowRow (us r:List Int)(k:Nat):List Int:=List.zipWith (fun a b=>1*a+-(us.getD k 0/r.getD k 0)*b) us r
def lowAt (rows:Nat→Option (List Int))(k:Nat)(us:List Int):List Int:=
 match rows k with
 | none=>us
 | some r=>lowRow us r k
def lowN (rows:Nat→Option (List Int))(f:Nat)(us:List Int):Nat→List Int
 | 0=>us
 | k+1=>lowAt rows (f+k) (lowN rows f us k)
theorem zih(hl:us.length=r.length)(h:us.getD k 0/r.getD k 0=0):lowRow us r k=us:=by
 unfold lowRow;rw [h];clear h
 induction us generalizing r with
 | nil=>rfl
 | cons a us ih=>
  cases r with
  | nil=>simp at hl
  | cons b r=>simp at hl ⊢;simpa using ih hl
theorem zdp{r:Int}(hy:0<y)(h:p=q*y+r)(hl:Left r y):p/y=q:=by
 have h2:=hl.1 hy;have:r+y*q=p:=by rw [Int.mul_comm];omega
 exact((Int.ediv_emod_unique hy).2 ⟨this,h2.1,h2.2⟩).1
structure LowV (w W:World)(va v:Value)(zs:List Int)(n:Nat):Prop where
 vec:VecN W v zs n
 own:v=va∨∃ P,v=.slice (some ⟨P,0,none⟩) zs.length zs.length∧VecO w W P zs n
 below:Below w.heap.size w W
theorem LowV.later{W W':World}{va v:Value}{zs:List Int}{n:Nat}(h:LowV w W va v zs n)(hb:Below W.heap.size W W'):LowV w W' va v zs n where
 vec:=h.vec.below hb zL
 own:=h.own.imp id fun⟨P,e,ho⟩=>⟨P,e,ho.later hb⟩
 below:=h.below.trans (hb.mono h.below.size)
theorem zbb {rows:Nat→Option (List Int)}(h:∀ i r,rows i=some r→r.length=us.length)(k:Nat):(lowN rows f us k).length=us.length:=by
 induction k with
 | zero=>rfl
 | succ k ih=>
  unfold lowN lowAt;split
  ·exact ih
  ·rename_i r hr
   unfold lowRow;rw [zz _ _ _ (ih.trans (h _ r hr).symm)];exact ih
theorem zfj (w:World):Sem.run Tryz.prog (binOp .eql 62 (.slice none 0 0) (.slice none 0 0)) w=.ok (.bool true) w:=by kernel_rfl
theorem zfm (w:World)(a:Addr)(l c:Nat):Sem.run Tryz.prog (binOp .eql 62 (.slice (some a) l c) (.slice none 0 0)) w=.ok (.bool false) w:=by kernel_rfl
theorem zeK (w:World)(sb m f nv ns:Nat)(rows:Nat→Option (List Int))(va:Value)(us:List Int)(hs:Stair w sb f m rows us.length ns)(hrl:∀ i r,rows i=some r→r.length=us.length)(ha:VecN w va us nv)(hf:f≤m)(hm:m≤us.length)(h8:us.length≤1000)(hN:nv+m *(ns+3)≤300000):
  Calls Tryz.prog 71 #[.slice (some ⟨sb,0,none⟩) m m,va,.int .i64 f] w fun e w'=>∃ v,e=.returned v∧LowV w w' va v (lowN rows f us (m-f)) (nv+(m-f) *(ns+3)):=by
 have HS:=hide hs;have HA:=hide ha;clear hs ha;have hm1000:m≤1000:=by omega
 go_enter Tryz.func71,Tryz.ntmps71;go_wp2_with fail;go_loopw [16,1] (fun i v wr=>∃ k:Nat,k≤m-f∧i=.int .i64 k∧Hid (LowV w wr va v (lowN rows f us k) (nv+k *(ns+3)))) (fun i _ _=>(m-f)-(intOf i).toNat)
 case atStart=>exact⟨0,Nat.zero_le _,rfl,hide ⟨by rw [Nat.zero_mul];exact HA.out,.inl rfl,zB _ _⟩⟩
 case round=>
  obtain⟨k,hk,rfl,HI⟩:=hrel;by_cases hkl:k<m-f
  ·have hst:=HS.out.below HI.out.below;have hcap:nv+(k+1) *(ns+3)≤nv+m *(ns+3):=Nat.add_le_add_left (Nat.mul_le_mul_right _ (by omega)) _;have hsucc:nv+(k+1) *(ns+3)=nv+k *(ns+3)+(ns+3):=by rw [Nat.succ_mul];omega
   have hzl:=zbb (f:=f) hrl k;have HLN:=hide (show lowN rows f us (k+1)=lowAt rows (f+k) (lowN rows f us k) from rfl);rw [hsucc] at hcap;cases hr:rows (f+k) with
   | none=>
    have c0:=hst.nil (f+k) (by omega) (by omega) hr;have HN:Hid (LowV w wr va u1 (lowN rows f us (k+1)) (nv+(k+1) *(ns+3))):=by
     have h1:=HI.out;have e:=HLN.out;unfold lowAt at e;rw [hr] at e;rw [e,hsucc];exact hide ⟨h1.vec.mono (by omega),h1.own.imp id fun⟨P,e,ho⟩=>⟨P,e,⟨ho.vec.mono (by omega),ho.low,ho.below,ho.blk⟩⟩,h1.below⟩
    clear hst HI HLN hr;have hbo:=zfj wr;go_wp2;go_roundw
    case rel=>exact⟨k+1,by omega,by go_num,HN⟩
    case measure=>simp [intOf];omega
   | some r=>
    obtain⟨b,off,cap,c0,hv,hlen,hpos⟩:=hst.row (f+k) (by omega) (by omega) r hr;have lsb:=hst.lt;have HE:Hid (lowN rows f us (k+1)=lowRow (lowN rows f us k) r (f+k)):=by
     have e:=HLN.out;unfold lowAt at e;rw [hr] at e;exact hide e
    clear HLN hst hr;generalize hzs':lowN rows f us (k+1)=zs' at *;have HZ':=hide hzs';clear hzs';generalize lowN rows f us k=zs at *;generalize hnz:nv+k *(ns+3)=nz at *;obtain⟨vb,voff,vcap,rfl⟩:=HI.out.vec.form (by omega);obtain⟨lv,an,ao,al,ac,a2,a3,na'⟩:=HI.out.vec.at (f+k) (by omega);obtain⟨lr,bn,bo,bl,bc,a6,a7,nb'⟩:=hv.at (f+k) (by omega);have NV:=hide na';have NP:=hide nb';have HR:=hide hv;clear na' nb' hv;have HLR:=hide (show lowRow zs r (f+k)=List.zipWith (fun a b=>1*a+-(zs.getD (f+k) 0/r.getD (f+k) 0)*b) zs r from rfl);have HLZ:=hide (fun h=>zih (us:=zs) (r:=r) (k:=f+k) (by omega) h);generalize zs.getD (f+k) 0=p at *;generalize r.getD (f+k) 0=y at *;have hkr:f+k<r.length:=by omega
    have hkz:f+k<zs.length:=by omega
    have HLE:=hide (show r.length=us.length∧zs.length=us.length from⟨hlen,hzl⟩);clear hlen hzl;generalize hj:f+k=j at *;have hjc:(f:Int)+(k:Int)=(j:Int):=by omega
    have hjm:j<m:=by omega
    have hst:=QuoGot.moved nz ns p y;have hbo:=zfm wr ⟨b,off,none⟩ r.length cap;go_wp2_with fail;clear hbo;try simp only [hjc,hj]
    generalize Value.bool (decide ((k:Int)<(m:Int)-(f:Int)))=x17;have HJ:=hide hj;have HJC:=hide hjc;clear hj hjc;refine zZ (by kernel_rfl) (by kernel_rfl) (fun L a' w'=>∃(c:Nat→Value) (G:Nat→Nat),a'=(⟨#[.slice (some ⟨sb,0,none⟩) m m,.slice (some ⟨vb,voff,none⟩) zs.length vcap,.int .i64 (f:Int),undef,undef,undef,.slice none 0 0,.int .i64 (k:Int),.int .i64 (j:Int),c 16,c 17,c 20,.slice (some ⟨sb,0,none⟩) m m,.int .i64 (m:Int),.int .i64 (f:Int),.int .i64 ((m:Int)-(f:Int)),.int .i64 (k:Int),x17,.int .i64 (k:Int),.int .i64 (f:Int),.int .i64 (k:Int),.int .i64 (j:Int),.slice (some ⟨sb,0,none⟩) m m,.int .i64 (j:Int),.pointer (some ⟨sb,j,none⟩),.slice (some ⟨b,off,none⟩) r.length cap,.bool false,c 12,c 0,c 1,c 2,c 3,c 4,c 5,c 6,c 7,c 8,c 9,c 10,c 11,c 13,c 14,c 15,u43,u44,u45,u46,u47,u48,u49,u50,u51,u52,u53,u54,u55,undef],[]⟩:Act)∧Tags (D2 11) (FA2 11 [.slice (some ⟨vb,voff,none⟩) zs.length vcap,.int .i64 (j:Int),.pointer (some ⟨vb,voff+j*2,none⟩),.agg #[.bool an,.slice ao al ac],.slice (some ⟨sb,0,none⟩) m m,.int .i64 (j:Int),.pointer (some ⟨sb,j,none⟩),.slice (some ⟨b,off,none⟩) r.length cap,.int .i64 (j:Int),.pointer (some ⟨b,off+j*2,none⟩),.agg #[.bool bn,.slice bo bl bc]] (QuoGot nz ns p y) (wr).heap.size) (wr) L c w' G) ⟨fun i=>List.getD [u28,u29,u30,u31,u32,u33,u34,u35,u36,u37,u38,u39,u27,u40,u41,u42,u9,u10,undef,undef,u11] i undef,fun _=>0,rfl,Tags.start _ _ _⟩ ?_ ?_
    ·rintro L a' w' i o ⟨c,G,rfl,R⟩ ho hn hdep K hK;have hi:i<21:=(Array.getElem?_eq_some_iff.1 ho).1;rcases(by omega:i=0∨i=1∨i=2∨i=3∨i=4∨i=5∨i=6∨i=7∨i=8∨i=9∨i=10∨i=11∨i=12∨i=13∨i=14∨i=15∨i=16∨i=17∨i=18∨i=19∨i=20) with rfl | rfl | rfl | rfl | rfl | rfl | rfl | rfl | rfl | rfl | rfl | rfl | rfl | rfl | rfl | rfl | rfl | rfl | rfl | rfl | rfl
     ·obtain rfl:=zI ho;have R':=R.plain hn (zN rfl) (FA2.keep hst) (v:=(.slice (some ⟨vb,voff,none⟩) zs.length vcap)) (zd _ _ _);clear R;go_simp;exact hK.out _ _ ⟨_,_,by simp [upd],R'⟩
     ·obtain rfl:=zI ho;have R':=R.plain hn (zN rfl) (FA2.keep hst) (v:=(.int .i64 (j:Int))) (zd _ _ _);clear R;go_simp;exact hK.out _ _ ⟨_,_,by simp [upd],R'⟩
     ·obtain rfl:=zI ho;have e0:c 0=(.slice (some ⟨vb,voff,none⟩) zs.length vcap):=R.facts 0 (hdep ⟨0,.data⟩ (by simp) rfl);have e1:c 1=(.int .i64 (j:Int)):=R.facts 1 (hdep ⟨1,.data⟩ (by simp) rfl);have R':=R.plain hn (zN rfl) (FA2.keep hst) (v:=(.pointer (some ⟨vb,voff+j*2,none⟩))) (zd _ _ _);clear R;rw [e0,e1];go_simp;exact hK.out _ _ ⟨_,_,by simp [upd,e0,e1],R'⟩
     ·obtain rfl:=zI ho;have e2:c 2=(.pointer (some ⟨vb,voff+j*2,none⟩)):=R.facts 2 (hdep ⟨2,.data⟩ (by simp) rfl);have q0:=(R.below.cell (p:=⟨vb,voff+j*2,none⟩) lv).trans a2;have q1:=(R.below.cell (p:=⟨vb,voff+j*2+1,none⟩) lv).trans a3;have R':=R.plain hn (zN rfl) (FA2.keep hst) (v:=(.agg #[.bool an,.slice ao al ac])) (zd _ _ _);clear R;rw [e2];go_simp;exact hK.out _ _ ⟨_,_,by simp [upd,e2],R'⟩
     ·obtain rfl:=zI ho;have R':=R.plain hn (zN rfl) (FA2.keep hst) (v:=(.slice (some ⟨sb,0,none⟩) m m)) (zd _ _ _);clear R;go_simp;exact hK.out _ _ ⟨_,_,by simp [upd],R'⟩
     ·obtain rfl:=zI ho;have R':=R.plain hn (zN rfl) (FA2.keep hst) (v:=(.int .i64 (j:Int))) (zd _ _ _);clear R;go_simp;exact hK.out _ _ ⟨_,_,by simp [upd],R'⟩
     ·obtain rfl:=zI ho;have e4:c 4=(.slice (some ⟨sb,0,none⟩) m m):=R.facts 4 (hdep ⟨4,.data⟩ (by simp) rfl);have e5:c 5=(.int .i64 (j:Int)):=R.facts 5 (hdep ⟨5,.data⟩ (by simp) rfl);have R':=R.plain hn (zN rfl) (FA2.keep hst) (v:=(.pointer (some ⟨sb,j,none⟩))) (zd _ _ _);clear R;rw [e4,e5];go_simp;exact hK.out _ _ ⟨_,_,by simp [upd,e4,e5],R'⟩
     ·obtain rfl:=zI ho;have e6:c 6=(.pointer (some ⟨sb,j,none⟩)):=R.facts 6 (hdep ⟨6,.data⟩ (by simp) rfl);have q0:=(R.below.cell (p:=⟨sb,j,none⟩) lsb).trans c0;have R':=R.plain hn (zN rfl) (FA2.keep hst) (v:=(.slice (some ⟨b,off,none⟩) r.length cap)) (zd _ _ _);clear R;rw [e6];go_simp;exact hK.out _ _ ⟨_,_,by simp [upd,e6],R'⟩
     ·obtain rfl:=zI ho;have R':=R.plain hn (zN rfl) (FA2.keep hst) (v:=(.int .i64 (j:Int))) (zd _ _ _);clear R;go_simp;exact hK.out _ _ ⟨_,_,by simp [upd],R'⟩
     ·obtain rfl:=zI ho;have e7:c 7=(.slice (some ⟨b,off,none⟩) r.length cap):=R.facts 7 (hdep ⟨7,.data⟩ (by simp) rfl);have e8:c 8=(.int .i64 (j:Int)):=R.facts 8 (hdep ⟨8,.data⟩ (by simp) rfl);have R':=R.plain hn (zN rfl) (FA2.keep hst) (v:=(.pointer (some ⟨b,off+j*2,none⟩))) (zd _ _ _);clear R;rw [e7,e8];go_simp;exact hK.out _ _ ⟨_,_,by simp [upd,e7,e8],R'⟩
     ·obtain rfl:=zI ho;have e9:c 9=(.pointer (some ⟨b,off+j*2,none⟩)):=R.facts 9 (hdep ⟨9,.data⟩ (by simp) rfl);have q0:=(R.below.cell (p:=⟨b,off+j*2,none⟩) lr).trans a6;have q1:=(R.below.cell (p:=⟨b,off+j*2+1,none⟩) lr).trans a7;have R':=R.plain hn (zN rfl) (FA2.keep hst) (v:=(.agg #[.bool bn,.slice bo bl bc])) (zd _ _ _);clear R;rw [e9];go_simp;exact hK.out _ _ ⟨_,_,by simp [upd,e9],R'⟩
     ·obtain rfl:=zI ho;have e3:c 3=(.agg #[.bool an,.slice ao al ac]):=R.facts 3 (hdep ⟨3,.data⟩ (by simp) rfl);have e10:c 10=(.agg #[.bool bn,.slice bo bl bc]):=R.facts 10 (hdep ⟨10,.data⟩ (by simp) rfl);rw [e3,e10];go_simp;refine(zcd w' _ _ p y nz ns (NV.out.below R.below zL) (NP.out.below R.below zL) (by omega) (by omega)).mono ?_;rintro e wq ⟨vq,vr,s,t,rfl,m1,m2,m3,m4,hb⟩;have R':=R.call hn (zN rfl) (FA2.keep hst) hb (v:=.tuple #[vq,vr,.nilIface]) (show QuoGot nz ns p y wq (upd c 11 (.tuple #[vq,vr,.nilIface]) 11) from by rw [zd];exact⟨vq,vr,s,t,rfl,m1,m2,m3,m4⟩);clear m1 m2 m3 m4 hb;clear R;go_wp2_with fail;exact hK.out _ _ ⟨_,_,by simp [upd,e3,e10],R'⟩
     ·obtain rfl:=zI ho;have R':=R.plain hn (zO rfl (hdep ⟨_,.data⟩ (by simp) rfl)) (FA2.keep hst) (v:=c 11) (show upd c 12 (c 11) 12=upd c 12 (c 11) 11 from by rw [zd,zb _ _ (by decide)]);clear R;go_simp;exact hK.out _ _ ⟨_,_,by simp [upd],R'⟩
     ·obtain rfl:=zI ho;have hm:=hdep ⟨12,.data⟩ (by simp) rfl;have em:c 12=c 11:=R.facts 12 hm;obtain⟨vq,vr,s,t,ec,nm1,nm2,-⟩:(QuoGot nz ns p y) w' (c 11):=R.facts 11 (R.closed 12 hm 11 (by simp [D2]));rw [ec] at em;have R':=R.plain hn (zO rfl (hdep ⟨_,.data⟩ (by simp) rfl)) (FA2.keep hst) (v:=vq) (show ∃ u1 u2 u3:Value,upd c 13 vq 12=.tuple #[u1,u2,u3]∧upd c 13 vq 13=u1 from⟨vq,vr,(.nilIface:Value),by rw [zb _ _ (by decide)];exact em,zd _ _ _⟩);clear R ec;rw [em];go_simp;exact hK.out _ _ ⟨_,_,by simp [upd,em],R'⟩
     ·obtain rfl:=zI ho;have hm:=hdep ⟨12,.data⟩ (by simp) rfl;have em:c 12=c 11:=R.facts 12 hm;obtain⟨vq,vr,s,t,ec,nm1,nm2,-⟩:(QuoGot nz ns p y) w' (c 11):=R.facts 11 (R.closed 12 hm 11 (by simp [D2]));rw [ec] at em;have R':=R.plain hn (zO rfl (hdep ⟨_,.data⟩ (by simp) rfl)) (FA2.keep hst) (v:=vr) (show ∃ u1 u2 u3:Value,upd c 14 vr 12=.tuple #[u1,u2,u3]∧upd c 14 vr 14=u2 from⟨vq,vr,(.nilIface:Value),by rw [zb _ _ (by decide)];exact em,zd _ _ _⟩);clear R ec;rw [em];go_simp;exact hK.out _ _ ⟨_,_,by simp [upd,em],R'⟩
     ·obtain rfl:=zI ho;have hm:=hdep ⟨12,.data⟩ (by simp) rfl;have em:c 12=c 11:=R.facts 12 hm;obtain⟨vq,vr,s,t,ec,nm1,nm2,-⟩:(QuoGot nz ns p y) w' (c 11):=R.facts 11 (R.closed 12 hm 11 (by simp [D2]));rw [ec] at em;have R':=R.plain hn (zO rfl (hdep ⟨_,.data⟩ (by simp) rfl)) (FA2.keep hst) (v:=(.nilIface:Value)) (show ∃ u1 u2 u3:Value,upd c 15 (.nilIface:Value) 12=.tuple #[u1,u2,u3]∧upd c 15 (.nilIface:Value) 15=u3 from⟨vq,vr,(.nilIface:Value),by rw [zb _ _ (by decide)];exact em,zd _ _ _⟩);clear R ec;rw [em];go_simp;exact hK.out _ _ ⟨_,_,by simp [upd,em],R'⟩
     ·obtain rfl:=zI ho;obtain⟨G',R'⟩:=R.alloc hn (zN rfl) (FA2.keep hst) 18 90 (fun W' G' h=>show Made W' G' _ 18 (upd c 16 (ptr w'.heap.size) 16) from by rw [zd];exact h);clear R;go_simp;exact hK.out _ _ ⟨_,G',by simp [upd],R'⟩
     ·obtain rfl:=zI ho;obtain⟨G',R'⟩:=R.alloc hn (zN rfl) (FA2.keep hst) 19 90 (fun W' G' h=>show Made W' G' _ 19 (upd c 17 (ptr w'.heap.size) 17) from by rw [zd];exact h);clear R;go_simp;exact hK.out _ _ ⟨_,G',by simp [upd],R'⟩
     ·obtain rfl:=zI ho;have hx:=hdep ⟨13,.data⟩ (by simp) rfl;have hm:=R.closed 13 hx 12 (by simp [D2]);have em:c 12=c 11:=R.facts 12 hm;obtain⟨vq,vr,s,t,ec,nm1,nm2,-⟩:(QuoGot nz ns p y) w' (c 11):=R.facts 11 (R.closed 12 hm 11 (by simp [D2]));obtain⟨u1,u2,u3,em',ex⟩:∃ u1 u2 u3:Value,c 12=.tuple #[u1,u2,u3]∧c 13=u1:=R.facts 13 hx;rw [em,ec] at em';simp only [Value.tuple.injEq,Array.mk.injEq,List.cons.injEq,and_true] at em';obtain⟨rfl,rfl,rfl⟩:=em';obtain⟨s,hs⟩:=nm1.nm;rw [hs] at ex;obtain⟨B,ea,hC,hB,hG,r,hb⟩:Made w' G _ 18 (c 16):=R.facts 16 (hdep ⟨16,.data⟩ (by simp) rfl);have R':=R.store hn (fun j hj=>by simp [D2] at hj;rcases hj with rfl | rfl <;> exact hdep ⟨_,.data⟩ (by simp) rfl) (FA2.keep hst) s hC hB hG hb (fun W' G' h=>show ∃ r:Nm,upd c 18 undef 13=r.v∧Stored W' G' _ 18 (upd c 18 undef 16) r from⟨s,by rw [zb _ _ (by decide)];exact ex,by rw [zb _ _ (by decide),ea];exact h⟩);obtain⟨b0,b1,b2,b3⟩:=hb;obtain⟨sn,so,sl,sc⟩:=s;dsimp only at *;clear R em ec;rw [ea,ex];go_simp;exact hK.out _ _ ⟨_,_,by simp [upd,ea,ex],R'⟩
     ·obtain rfl:=zI ho;have hx:=hdep ⟨14,.data⟩ (by simp) rfl;have hm:=R.closed 14 hx 12 (by simp [D2]);have em:c 12=c 11:=R.facts 12 hm;obtain⟨vq,vr,s,t,ec,nm1,nm2,-⟩:(QuoGot nz ns p y) w' (c 11):=R.facts 11 (R.closed 12 hm 11 (by simp [D2]));obtain⟨u1,u2,u3,em',ex⟩:∃ u1 u2 u3:Value,c 12=.tuple #[u1,u2,u3]∧c 14=u2:=R.facts 14 hx;rw [em,ec] at em';simp only [Value.tuple.injEq,Array.mk.injEq,List.cons.injEq,and_true] at em';obtain⟨rfl,rfl,rfl⟩:=em';obtain⟨s,hs⟩:=nm2.nm;rw [hs] at ex;obtain⟨B,ea,hC,hB,hG,r,hb⟩:Made w' G _ 19 (c 17):=R.facts 17 (hdep ⟨17,.data⟩ (by simp) rfl);have R':=R.store hn (fun j hj=>by simp [D2] at hj;rcases hj with rfl | rfl <;> exact hdep ⟨_,.data⟩ (by simp) rfl) (FA2.keep hst) s hC hB hG hb (fun W' G' h=>show ∃ r:Nm,upd c 19 undef 14=r.v∧Stored W' G' _ 19 (upd c 19 undef 17) r from⟨s,by rw [zb _ _ (by decide)];exact ex,by rw [zb _ _ (by decide),ea];exact h⟩);obtain⟨b0,b1,b2,b3⟩:=hb;obtain⟨sn,so,sl,sc⟩:=s;dsimp only at *;clear R em ec;rw [ea,ex];go_simp;exact hK.out _ _ ⟨_,_,by simp [upd,ea,ex],R'⟩
     ·obtain rfl:=zI ho;have R':=R.plain hn (zO rfl (hdep ⟨_,.data⟩ (by simp) rfl)) (FA2.keep hst) (v:=c 15) (show upd c 20 (c 15) 20=upd c 20 (c 15) 15 from by rw [zd,zb _ _ (by decide)]);clear R;go_simp;exact hK.out _ _ ⟨_,_,by simp [upd],R'⟩
    ·rintro L a' w0 ⟨cc,G,rfl,R⟩ hall;obtain⟨⟨sn,so,sl,sc⟩,r2',u3v,B1,B2,⟨vq,vr,s,t,ec,N1,-,hps,hleft⟩,e13,e14,e15,l1,l2,s1,s2,d12,x1,-,hb1⟩:=R.fin2 (fun i hi=>hall i hi);simp only [Value.tuple.injEq,Array.mk.injEq,List.cons.injEq,and_true] at ec;obtain⟨rfl,-,-⟩:=ec;have HQ:=hide (zdp hpos hps hleft);have NQ0:=hide N1;have HV0:=hide (HI.out.later hb1);have HR0:=hide (HR.out.below hb1 zL);have k0:=(hb1.cell (p:=⟨sb,j,none⟩) lsb).trans c0;have ls0:=zT lsb hb1.size;obtain⟨x10,x11,-,-⟩:=x1;clear R hall hst N1 hps hleft l1 l2 d12 hb1 c0 lsb a2 a3 a6 a7 lv lr HI HR NV NP s2 e15;dsimp only at *;rw [e13,e14];clear e13 e14;go_wp2_with fail;refine(zaT w0 _ s (nz+1) (by exact NQ0.out)).mono ?_;rintro e w1 ⟨rfl,hbz⟩;have NQ1:=hide (NQ0.out.below hbz zL);have HV1:=hide (HV0.out.later hbz);have HR1:=hide (HR0.out.below hbz zL);have c1:=(hbz.cell (p:=⟨sb,j,none⟩) ls0).trans k0;have ls1:=zT ls0 hbz.size;have y10:=(hbz.cell (p:=⟨B1,0,none⟩) s1).trans x10;have y11:=(hbz.cell (p:=⟨B1,1,none⟩) s1).trans x11;have sB:=zT s1 hbz.size;clear NQ0 HV0 HR0 k0 ls0 x10 x11 s1 hbz;have x10:=y10;have x11:=y11;have s1:=sB;clear y10 y11 sB;by_cases hs0:s=0
     ·rw [decide_eq_true hs0];have HN:Hid (LowV w w1 va (.slice (some ⟨vb,voff,none⟩) zs.length vcap) zs' (nv+(k+1) *(ns+3))):=by
       have e:=HE.out;rw [HLZ.out (by rw [HQ.out,hs0])] at e;have h1:=HV1.out;rw [e,hsucc];exact hide ⟨h1.vec.mono (by omega),h1.own.imp id fun⟨P,e,ho⟩=>⟨P,e,⟨ho.vec.mono (by omega),ho.low,ho.below,ho.blk⟩⟩,h1.below⟩
      clear hs0 HQ HV1 HR1 NQ1 HE HLZ HLR x10 x11 c1;go_wp2;go_roundw
      case rel=>exact⟨k+1,by omega,by go_num,by rw [HZ'.out];exact HN⟩
      case measure=>simp [intOf];omega
     ·rw [decide_eq_false hs0];go_wp2_with fail
      go_region_held3 (fun w'=>w'.cell? ⟨B1,0,none⟩=some (.bool sn)∧w'.cell? ⟨B1,1,none⟩=some (.slice so sl sc)∧w'.cell? ⟨sb,j,none⟩=some (.slice (some ⟨b,off,none⟩) r.length cap)) (go_keep)
       (first
        |(go_at_call 38;refine(zaQ _ 1 (by decide) (by decide)).mono ?_;rintro e w2 ⟨r2,rfl,hr2,hb⟩;have hb2:Below w1.heap.size w1 w2:=((zB w1.heap.size w1).drew).trans hb;have N12:=hide hr2;have NQ2:=hide (NQ1.out.below hb2 zL);have HV2:=hide (HV1.out.later hb2);have HR2:=hide (HR1.out.below hb2 zL);have d0:=(hb2.cell (p:=⟨B1,0,none⟩) s1).trans x10;have d1:=(hb2.cell (p:=⟨B1,1,none⟩) s1).trans x11;have d2:=(hb2.cell (p:=⟨sb,j,none⟩) ls1).trans c1;have s2:=zT s1 hb2.size;have ls2:=zT ls1 hb2.size;clear hr2 hb hb2)
        |(go_at_call 80;refine(zeS _ _ s (nz+1) (by exact NQ2.out) (by omega)).mono ?_;rintro e w3 ⟨r3,rfl,hr3,hb3⟩;have NF3:=hide hr3;have N13:=hide (N12.out.below hb3 zL);have HV3:=hide (HV2.out.later hb3);have HR3:=hide (HR2.out.below hb3 zL);have e0:=(hb3.cell (p:=⟨B1,0,none⟩) s2).trans d0;have e1:=(hb3.cell (p:=⟨B1,1,none⟩) s2).trans d1;have e2:=(hb3.cell (p:=⟨sb,j,none⟩) ls2).trans d2;have s3:=zT s2 hb3.size;have ls3:=zT ls2 hb3.size;clear hr3 hb3)
        |(go_at_call 79;refine(zdc _ _ _ _ _ 1 (-s) zs r 2 nz (nz+1) ns (nz+ns+2) (by exact N13.out) (by exact HV3.out.vec) (by exact NF3.out) (by exact HR3.out) (by have:=HLE.out;omega) (by have:=HLE.out;omega) (by omega) (by omega) (by omega)).mono ?_;rintro e w4 ⟨P,rfl,ho⟩;have HO:=hide ho;have hb4:Below w3.heap.size w3 w4:=ho.below;have f0:=(hb4.cell (p:=⟨B1,0,none⟩) s3).trans e0;have f1:=(hb4.cell (p:=⟨B1,1,none⟩) s3).trans e1;have f2:=(hb4.cell (p:=⟨sb,j,none⟩) ls3).trans e2;clear ho hb4))
      rw [Nat.min_eq_left (by have:=HLE.out;omega)];have HN:Hid (LowV w w4 va (.slice (some ⟨P,0,none⟩) zs.length zs.length) zs' (nv+(k+1) *(ns+3))):=by
       have e:zs'=List.zipWith (fun a b=>1*a+-s*b) zs r:=by rw [HE.out,HLR.out,HQ.out]
       have hl':zs'.length=zs.length:=by rw [e,zz _ _ _ (by have:=HLE.out;omega)]
       have ho:=HO.out.since HV3.out.below;rw [← e] at ho;rw [hsucc,← hl'];have hn:nz+ns+2+1=nz+(ns+3):=by omega
       rw [hn] at ho;exact hide ⟨ho.vec,.inr ⟨P,rfl,ho⟩,ho.below⟩
      clear HO HV3 HV2 HV1 HR1 HR2 HR3 HQ HE HLR HLZ;go_wp2;go_roundw
      case rel=>exact⟨k+1,by omega,by go_num,by rw [HZ'.out];exact HN⟩
      case measure=>simp [intOf];omega
  ·obtain rfl:k=m-f:=by omega
   have hnk:¬(((m-f:Nat):Int)<(m:Int)-(f:Int)):=by omega
   go_wp2;exact bodyPost_ret (v:=u1) (by simp [results,Tryz.results71,go_sem]) rfl ⟨_,rfl,HI.out⟩
inductive Gens (len:Nat) (S:List Int→Prop):List Int→Prop
 | base {v:List Int} (h:S v) (hl:v.length=len):Gens len S v
 | zero:Gens len S (List.replicate len 0)
 | comb {u v:List Int} (x y:Int) (hu:Gens len S u) (hv:Gens len S v):Gens len S (List.zipWith (fun a b=>x*a+y*b) u v)
theorem Gens.len{len:Nat}{S:List Int→Prop}(h:Gens len S v):v.length=len:=by
 induction h with
 | base _ hl=>exact hl
 | zero=>simp
 | comb x y _ _ h1 h2=>rw [List.length_zipWith,h1,h2,Nat.min_self]
theorem Gens.trans{len:Nat}{S T:List Int→Prop}(h:∀ v,S v→v.length=len→Gens len T v)(hv:Gens len S v):Gens len T v:=by
 induction hv with
 | base hs hl=>exact h _ hs hl
 | zero=>exact .zero
 | comb x y _ _ h1 h2=>exact .comb x y h1 h2
theorem zbH{xs ys:List Int}(hl:xs.length=ys.length)(h:∀ k,k<xs.length→xs.getD k 0=ys.getD k 0):xs=ys:=by
 apply List.ext_getElem hl;intro k h1 h2;have:=h k h1
 rwa [zG,zG,List.getElem?_eq_getElem h1,List.getElem?_eq_getElem h2] at this
theorem zj7(hl:us.length=r.length)(q:Int):List.zipWith (fun a b=>1*a+q*b) (List.zipWith (fun a b=>1*a+-q*b) us r) r=us:=by
 have h1:=zz (fun a b=>1*a+-q*b) us r hl;have h2:=zz (fun a b=>1*a+q*b) (List.zipWith (fun a b=>1*a+-q*b) us r) r (h1.trans hl);refine zbH (h2.trans h1) fun k hk=>?_;rw [h2,h1] at hk;rw [zp _ _ _ (h1.trans hl) k (by omega),zp _ _ _ hl k hk,Int.neg_mul];omega
theorem Gens.low{len:Nat}{S:List Int→Prop}(hu:Gens len S us)(hr:Gens len S r)(k:Nat):Gens len S (lowRow us r k):=.comb _ _ hu hr
theorem Gens.unlow{len:Nat}{S:List Int→Prop}(hl:us.length=r.length)(hu:Gens len S (lowRow us r k))(hr:Gens len S r):Gens len S us:=by
 have:=Gens.comb 1 (us.getD k 0/r.getD k 0) hu hr;unfold lowRow at this
 rwa [zj7 hl] at this
theorem Gens.lowN{len:Nat}{S:List Int→Prop}{rows:Nat→Option (List Int)}(hu:Gens len S us)(hr:∀ i r,f≤i→rows i=some r→Gens len S r)(k:Nat):Gens len S (lowN rows f us k):=by
 induction k with
 | zero=>exact hu
 | succ k ih=>
  unfold Go.Proofs.YtncamilanceahaaGreat.lowN lowAt;split
  ·exact ih
  ·rename_i r e
   exact ih.low (hr _ r (by omega) e) _
theorem zc9 (rows:Nat→Option (List Int))(f:Nat)(us:List Int){len:Nat}(hl:us.length=len)(h:∀ i r,f≤i→rows i=some r→r.length=len)(k:Nat):(lowN rows f us k).length=len:=by
 induction k with
 | zero=>exact hl
 | succ k ih=>
  unfold lowN lowAt;split
  ·exact ih
  ·rename_i r hr
   unfold lowRow;rw [zz _ _ _ (ih.trans (h _ r (by omega) hr).symm)];exact ih
theorem Gens.unlowN{len:Nat}{S:List Int→Prop}{rows:Nat→Option (List Int)}(hl:us.length=len)(hr:∀ i r,f≤i→rows i=some r→Gens len S r)(k:Nat)(hu:Gens len S (Go.Proofs.YtncamilanceahaaGreat.lowN rows f us k)):Gens len S us:=by
 induction k with
 | zero=>exact hu
 | succ k ih=>
  unfold Go.Proofs.YtncamilanceahaaGreat.lowN lowAt at hu
  revert hu
  split
  ·exact ih
  ·rename_i r e
   intro hu;have hg:=hr _ r (by omega) e;refine ih (hu.unlow ?_ hg);have h3:=zc9 rows f us hl (fun i r hi e=>(hr i r hi e).len) k;rw [h3,hg.len]
theorem zhy{vs:List Int}(hl:us.length=vs.length){g x s t:Int}(hg:0<g)(h1:g=x*p+y*q)(h2:p=s*g)(h3:q=t*g):
  List.zipWith (fun a b=>s*a+-y*b) (List.zipWith (fun a b=>x*a+y*b) us vs) (List.zipWith (fun b a=>s*b+-t*a) vs us)=us ∧
  List.zipWith (fun a b=>t*a+x*b) (List.zipWith (fun a b=>x*a+y*b) us vs) (List.zipWith (fun b a=>s*b+-t*a) vs us)=vs:=by
 have hd:x*s+y*t=1:=by
  have e:(x*s+y*t)*g=1*g:=by
   rw [Int.add_mul,Int.mul_assoc,Int.mul_assoc,← h2,← h3];omega
  exact Int.eq_of_mul_eq_mul_right (by omega) e
 have l1:=zz (fun a b=>x*a+y*b) us vs hl;have l2:=zz (fun b a=>s*b+-t*a) vs us hl.symm;have l3:=l1.trans (hl.trans l2.symm);constructor
 ·have l4:=zz (fun a b=>s*a+-y*b) _ _ l3;refine zbH (l4.trans l1) fun k hk=>?_;rw [l4,l1] at hk;rw [zp _ _ _ l3 k (by omega),zp _ _ _ hl k hk,zp _ _ _ hl.symm k (by omega)];generalize us.getD k 0=a;generalize vs.getD k 0=b;have:s *(x*a+y*b)+-y *(s*b+-t*a)=(x*s+y*t)*a:=by
   simp only [Int.mul_add,Int.add_mul,Int.neg_mul,Int.mul_neg,Int.neg_neg];have e1:s *(x*a)=x*s*a:=by rw [← Int.mul_assoc,Int.mul_comm s x]
   have e2:s *(y*b)=y *(s*b):=by rw [← Int.mul_assoc,← Int.mul_assoc,Int.mul_comm s y]
   have e3:y *(t*a)=y*t*a:=by rw [Int.mul_assoc]
   omega
  rw [this,hd,Int.one_mul]
 ·have l4:=zz (fun a b=>t*a+x*b) _ _ l3;refine zbH ((l4.trans l1).trans hl) fun k hk=>?_;rw [l4,l1] at hk;rw [zp _ _ _ l3 k (by omega),zp _ _ _ hl k hk,zp _ _ _ hl.symm k (by omega)];generalize us.getD k 0=a;generalize vs.getD k 0=b;have:t *(x*a+y*b)+x *(s*b+-t*a)=(x*s+y*t)*b:=by
   simp only [Int.mul_add,Int.add_mul,Int.neg_mul,Int.mul_neg];have e1:t *(x*a)=x *(t*a):=by rw [← Int.mul_assoc,← Int.mul_assoc,Int.mul_comm t x]
   have e2:t *(y*b)=y*t*b:=by rw [← Int.mul_assoc,Int.mul_comm t y]
   have e3:x *(s*b)=x*s*b:=by rw [Int.mul_assoc]
   omega
  rw [this,hd,Int.one_mul]
end Go.Proofs.YtncamilanceahaaGreat
