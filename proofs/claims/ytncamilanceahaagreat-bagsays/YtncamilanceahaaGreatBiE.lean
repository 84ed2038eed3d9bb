import Derived.Test.YtncamilanceahaaGreatBgN
set_option maxRecDepth 100000
set_option maxHeartbeats 1600000
set_option linter.unusedSimpArgs false
namespace Go.Proofs.YtncamilanceahaaGreat
open Go.RowKit
variable{W w w':World}{u v:Value}{B l:Nat}{o:Option Addr}
theorem zar {qs:List Nc}(h:∀ x∈qs.map (·.x),NmOk x):NonE qs:=fun q hq g hg=>by
 have hx:=h q.x (List.mem_map.2 ⟨q,hq,rfl⟩);have:=(zag.1 (hx.gens g hg)).1;intro e;rw [e] at this;have:=hx.n.1;simp at *;omega
theorem CatRes.form{r:Nat × List Nmd}{e:Ending}(h:CatRes w r e w'):∃ so sl sc ev,e=.returned (.tuple #[.agg #[.slice so sl sc],ev]):=by
 rcases h.1 with⟨-,rfl⟩ |⟨-,u,qs,rfl,-,u',rfl,ao,cap,rfl,-⟩
 ·exact⟨_,_,_,_,rfl⟩
 ·exact⟨_,_,_,_,rfl⟩
theorem CatRes.fwd{w2:World}{r:Nat × List Nmd}{ev x:Value}(h:CatRes W r (.returned (.tuple #[u,ev])) w')(hok:r.1=0→CatOk r.2)(hc:w'.cell? ⟨B,0,none⟩=some (.slice none 0 0))(hb:Below w.heap.size w (w'.setCell ⟨B,0,none⟩ x))(hw:w2=w'.setCell ⟨B,0,none⟩ x:=by rfl):CatRes w r (.returned (.tuple #[u,ev])) w2:=by
 subst hw;refine⟨?_,hb⟩;rcases h.1 with⟨h1,h2⟩ |⟨h1,u',qs,h2,h3,v,h4,h5⟩
 ·exact .inl ⟨h1,h2⟩
 ·refine .inr ⟨h1,u',qs,h2,h3,v,h4,h5.setOne (zar fun x hx=>?_) hc x⟩;rw [h3] at hx;exact(hok h1).all x hx
theorem zjK (w:World)(u x:Value)(a0 a1 a2 a3:Value)(s t y:TypeId):One (((w.alloc (.cells #[u] s)).alloc (.cells #[a0,a1,a2,a3] t)).alloc (.cells #[x] y)) w.heap.size u∧FourV (((w.alloc (.cells #[u] s)).alloc (.cells #[a0,a1,a2,a3] t)).alloc (.cells #[x] y)) (w.heap.size+1) a0 a1 a2 a3∧One (((w.alloc (.cells #[u] s)).alloc (.cells #[a0,a1,a2,a3] t)).alloc (.cells #[x] y)) (w.heap.size+1+1) x∧Below w.heap.size w (((w.alloc (.cells #[u] s)).alloc (.cells #[a0,a1,a2,a3] t)).alloc (.cells #[x] y)):=by
 have hb1:=zi w (.cells #[u] s);have hb2:=zi (w.alloc (.cells #[u] s)) (.cells #[a0,a1,a2,a3] t);have hb3:=zi ((w.alloc (.cells #[u] s)).alloc (.cells #[a0,a1,a2,a3] t)) (.cells #[x] y);have e1:(w.alloc (.cells #[u] s)).heap.size=w.heap.size+1:=by simp
 have e2:((w.alloc (.cells #[u] s)).alloc (.cells #[a0,a1,a2,a3] t)).heap.size=w.heap.size+1+1:=by simp
 have h1:=(One.new w u s).later (hb2.trans (hb3.mono hb2.size));have h2:=(FourV.new (w.alloc (.cells #[u] s)) a0 a1 a2 a3 t).later hb3;have h3:=One.new ((w.alloc (.cells #[u] s)).alloc (.cells #[a0,a1,a2,a3] t)) x y;rw [e1] at h2;rw [e2] at h3;exact⟨h1,h2,h3,hb1.trans ((hb2.trans (hb3.mono hb2.size)).mono hb1.size)⟩
theorem zdY {cs:List Nmd}{o:OpV}(h:opOk o=false):applyC cs o=(3,[]):=by unfold applyC;rw [if_pos h]
theorem zcG (w:World)(v:Value)(qs:List Nc)(o:OpV)(vo:Option Addr)(vc:Nat)(h:CatV w v qs)(hok:CatOk (qs.map (·.x)))(hv:RowS w (.slice vo o.v.length vc) o.v)(hv1:o.v.length≤100):
  Calls Tryz.prog 14 #[v,.agg #[.int .i64 o.kind,.string o.name,.int .i64 o.n,.slice vo o.v.length vc]] w fun e w'=>CatRes w (applyC (qs.map (·.x)) o) e w':=by
 have HOKR:=hide (zbu hok o);have HNE:=hide (zar hok.all);have HOK:=hide hok;have hq:qs.length≤100:=by have:=hok.few;rw [zM] at this;omega
 obtain⟨u,rfl,hu⟩:=h;obtain⟨ao,cap,rfl,hcap,-⟩:=id hu;obtain⟨x2,x3,x4,hbn⟩:=zjK w (.slice ao qs.length cap) (.slice none 0 0) (.int .i64 o.kind) (.string o.name) (.int .i64 o.n) (.slice vo o.v.length vc) 45 50 45;have HC0:=hide (hu.below hbn);have HB0:=hide hbn;have X20:=hide x2;have X30:=hide x3;have X40:=hide x4;have HV0:=hide (hv.below hbn zL);obtain⟨q2,-,-⟩:=x2;obtain⟨o0,o1,o2,o3,-⟩:=x3;obtain⟨q4,q5,-⟩:=x4;generalize hr:applyC (qs.map (·.x)) o=r at *;have HAP:Hid (applyC (qs.map (·.x)) o=r):=hr;clear hu hbn hok hv hr;go_enter Tryz.func14,Tryz.ntmps14;go_wp2_with fail;generalize (((w.alloc (.cells #[.slice ao qs.length cap] 45)).alloc (.cells #[.int .i64 o.kind,.string o.name,.int .i64 o.n,.slice vo o.v.length vc] 50)).alloc (.cells #[.slice none 0 0] 45))=W0 at *;refine(zjr W0 o vo vc).mono ?_;rintro e w1 ⟨rfl,hb1⟩;have HC:=hide (HC0.out.below hb1);have HBw:=hide (HB0.out.trans (hb1.mono HB0.out.size));have X2:=hide (X20.out.later hb1);have X3:=hide (X30.out.later hb1);have X4:=hide (X40.out.later hb1);have HV:=hide (HV0.out.below hb1 zL);clear hb1 HC0 HB0 X20 X30 X40 HV0 q2 q4 q5 o0 o1 o2 o3;obtain⟨q2,-,-⟩:=X2.out;obtain⟨o0,o1,o2,o3,-⟩:=X3.out;obtain⟨q4,q5,-⟩:=X4.out;cases hsh:opOk o with
 | false=>
  have HR:Hid (r=(3,[])):=HAP.out.symm.trans (zdY hsh);clear hsh;go_wp2;exact bodyPost_ret (v:=.tuple #[.agg #[.slice none 0 0],.iface 66 (.int .i64 3)]) (by simp [results,Tryz.results14,go_sem,q4]) rfl (zaw 3 [] HR.out (by decide) (by first | exact HBw.out | exact HBw.out.setCell (p:=⟨w.heap.size+1+1,0,none⟩) (by show w.heap.size≤w.heap.size+1+1;omega) (.slice none 0 0)))
 | true=>
  have HA0:=HAP.out;unfold applyC at HA0;rw [if_neg (by rw [hsh];decide)] at HA0;by_cases hk1:o.kind=1
  ·rw [if_pos hk1] at HA0;have HA:=hide HA0;have g1:(o.kind==1)=true:=by rw [beq_iff_eq];exact hk1
   have HK:=hide hk1;clear HA0 hk1 hsh;go_wp2_with fail;refine(zgV w1 _ qs o.name o.n ⟨_,rfl,HC.out⟩ hq HOK.out.rise r HA.out.symm).mono ?_;rintro e w3 hres;obtain⟨so,sl,sc,ev,rfl⟩:=hres.form;have Y4:=hide (X4.out.later hres.2);have HRES:=hide hres;have HB3:=hide (HBw.out.trans (hres.2.mono HBw.out.size));obtain⟨y4,y5,-⟩:=Y4.out;clear hres q2 q4 q5 o0 o1 o2 o3;have HB4:=hide (HB3.out.setCell (p:=⟨w.heap.size+1+1,0,none⟩) (by show w.heap.size≤w.heap.size+1+1;omega) (.slice so sl sc));go_wp2;exact bodyPost_ret (v:=.tuple #[.agg #[.slice so sl sc],ev]) (by simp [results,Tryz.results14,go_sem,World.cell?_setCell_same _ _ _ y4]) rfl (HRES.out.fwd HOKR.out y4 HB4.out)
  rw [if_neg hk1] at HA0;have g1:(o.kind==1)=false:=beq_eq_false_iff_ne.2 hk1;have HSH:=hide hsh;clear hsh;go_wp2_with fail;refine(zdn w1 _ qs o.name ⟨_,rfl,HC.out⟩ (by omega) HOK.out.rise).mono ?_;rintro e w2 ⟨rfl,hb2⟩;have HC2:=hide (HC.out.below hb2);have HBw2:=hide (HBw.out.trans (hb2.mono HBw.out.size));have X22:=hide (X2.out.later hb2);have X32:=hide (X3.out.later hb2);have X42:=hide (X4.out.later hb2);have HV2:=hide (HV.out.below hb2 zL);clear hb2 HC HBw X2 X3 X4 HV q2 q4 q5 o0 o1 o2 o3;have HC:=HC2;have HBw:=HBw2;have X2:=X22;have X3:=X32;have X4:=X42;have HV:=HV2;clear HC2 HBw2 X22 X32 X42 HV2;obtain⟨q2,-,-⟩:=X2.out;obtain⟨o0,o1,o2,o3,-⟩:=X3.out;obtain⟨q4,q5,-⟩:=X4.out;cases hhas:hasL (qs.map (·.x)) o.name with
  | false=>
   rw [if_pos hhas] at HA0;have HR:=hide HA0.symm;clear HA0 hhas;go_wp2;exact bodyPost_ret (v:=.tuple #[.agg #[.slice none 0 0],.iface 66 (.int .i64 7)]) (by simp [results,Tryz.results14,go_sem,q4]) rfl (zaw 7 [] HR.out (by decide) (by first | exact HBw.out | exact HBw.out.setCell (p:=⟨w.heap.size+1+1,0,none⟩) (by show w.heap.size≤w.heap.size+1+1;omega) (.slice none 0 0)))
  | true=>
   rw [if_neg (by rw [hhas];decide)] at HA0;obtain⟨hP0,-⟩:=(zaz HOK.out.rise).1 hhas;have hP:placeL (qs.map (·.x)) o.name<qs.length:=by rwa [zM] at hP0
   clear hhas;by_cases hk2:o.kind=2
   ·rw [if_pos hk2] at HA0;have HA:=hide HA0;have g2:(o.kind==2)=true:=by rw [beq_iff_eq];exact hk2
    clear HA0 hk2 hP0;generalize placeL (qs.map (·.x)) o.name=P at *;go_wp2_with fail;refine(zhe w2 _ qs P ⟨_,rfl,HC.out⟩ hP hq).mono ?_;rintro e w3 ⟨u3,rfl,⟨u4,rfl,hcat⟩,hb3⟩;obtain⟨so,sc,e,-⟩:=id hcat;subst e;have Y4:=hide (X4.out.later hb3);have HB3:=hide (HBw.out.trans (hb3.mono HBw.out.size));have HCAT:=hide hcat;obtain⟨y4,y5,-⟩:=Y4.out;have HRES:Hid (CatRes w2 r (.returned (.tuple #[.agg #[.slice so (qs.take P++qs.drop (P+1)).length sc],.nilIface])) w3):=⟨.inr ⟨by rw [← HA.out],_,_,rfl,by rw [← HA.out,List.map_append,List.map_take,List.map_drop],_,rfl,HCAT.out⟩,hb3⟩;clear hb3 hcat HCAT q2 q4 q5 o0 o1 o2 o3;generalize (qs.take P++qs.drop (P+1)).length=sl at *;have HB4:=hide (HB3.out.setCell (p:=⟨w.heap.size+1+1,0,none⟩) (by show w.heap.size≤w.heap.size+1+1;omega) (.slice so sl sc));go_wp2;exact bodyPost_ret (v:=.tuple #[.agg #[.slice so sl sc],.nilIface]) (by simp [results,Tryz.results14,go_sem,World.cell?_setCell_same _ _ _ y4]) rfl (HRES.out.fwd HOKR.out y4 HB4.out)
   rw [if_neg hk2] at HA0;have g2:(o.kind==2)=false:=beq_eq_false_iff_ne.2 hk2;rw [List.getElem?_eq_getElem hP0] at HA0;have hxe:(qs.map (·.x))[placeL (qs.map (·.x)) o.name]=qs[placeL (qs.map (·.x)) o.name].x:=List.getElem_map ..;rw [hxe] at HA0;dsimp only at HA0;have HXO:=hide (HOK.out.all qs[placeL (qs.map (·.x)) o.name].x (List.mem_map.2 ⟨_,List.getElem_mem hP,rfl⟩));clear hxe hP0;generalize placeL (qs.map (·.x)) o.name=P at *;obtain⟨b,off,cap',e⟩:=HC.out.form (by omega);simp only [zV,true_and] at e;obtain⟨rfl,rfl⟩:=e;obtain⟨hbl,-,d1,-,-⟩:=HC.out.at P hP;go_wp2_with fail;have HAA:=hide HA0;clear HA0
   go_region_held3 (fun w'=>w'.cell? ⟨w.heap.size,0,none⟩=some (.slice (some ⟨b,off,none⟩) qs.length cap)∧w'.cell? ⟨w.heap.size+1,3,none⟩=some (.slice vo o.v.length vc)∧w'.cell? ⟨b,off+P*3+1,none⟩=some (.int .i64 qs[P].x.n)) (go_keep)
    (first
     |(go_at_call 25;refine(zd4 _ _ o.v qs[P].x.n (HV.out.below (zB _ _).drew zL) (by omega)).mono ?_;rintro e wx ⟨rfl,rfl⟩))
   have hbd:Below w2.heap.size w2 w2.drew:=(zB _ _).drew;have HC2:=hide (HC.out.below hbd);have HBw2:=hide (HBw.out.trans (hbd.mono HBw.out.size));have X22:=hide (X2.out.later hbd);have X32:=hide (X3.out.later hbd);have X42:=hide (X4.out.later hbd);have HV2:=hide (HV.out.below hbd zL);clear HC HBw X2 X3 X4 HV q2 q4 q5 o0 o1 o2 o3 d1 hbd;have HC:=HC2;have HBw:=HBw2;have X2:=X22;have X3:=X32;have X4:=X42;have HV:=HV2;clear HC2 HBw2 X22 X32 X42 HV2;generalize w2.drew=w5 at *;obtain⟨q2,-,-⟩:=X2.out;obtain⟨o0,o1,o2,o3,-⟩:=X3.out;obtain⟨q4,q5,-⟩:=X4.out;have HA0:=HAA.out;clear HAA;by_cases hg:genF o.v qs[P].x.n=0
   ·rw [if_neg (by rw [hg];decide)] at HA0;have e0:errV (genF o.v qs[P].x.n)=.nilIface:=by rw [hg];rfl
    rw [e0];have HG:=hide hg;clear e0 hg;by_cases hk3:o.kind=3
    ·rw [if_pos hk3] at HA0;have HA:=hide HA0.symm;have g3:(o.kind==3)=true:=by rw [beq_iff_eq];exact hk3
     have HVN:Hid (o.v≠[]):=fun e=>by
      have h1:=(zag.1 HG.out).1;have h2:=HXO.out.n.1;rw [e] at h1;simp at h1;omega
     clear HA0 hk3;go_wp2_with fail;refine(zgw w5 _ _ qs P o.v ⟨_,rfl,HC.out⟩ hP hq HXO.out.few HV.out hv1 HNE.out HVN.out r HA.out).mono ?_;rintro e w3 hres;obtain⟨so,sl,sc,ev,rfl⟩:=hres.form;have Y4:=hide (X4.out.later hres.2);have HRES:=hide hres;have HB3:=hide (HBw.out.trans (hres.2.mono HBw.out.size));obtain⟨y4,y5,-⟩:=Y4.out;clear hres q2 q4 q5 o0 o1 o2 o3;have HB4:=hide (HB3.out.setCell (p:=⟨w.heap.size+1+1,0,none⟩) (by show w.heap.size≤w.heap.size+1+1;omega) (.slice so sl sc));go_wp2;exact bodyPost_ret (v:=.tuple #[.agg #[.slice so sl sc],ev]) (by simp [results,Tryz.results14,go_sem,World.cell?_setCell_same _ _ _ y4]) rfl (HRES.out.fwd HOKR.out y4 HB4.out)
    ·rw [if_neg hk3] at HA0;have HA:=hide HA0.symm;have g3:(o.kind==3)=false:=beq_eq_false_iff_ne.2 hk3;clear HA0 hk3;go_wp2_with fail;refine(zjE w5 _ _ qs P o.v ⟨_,rfl,HC.out⟩ hP hq HXO.out.few (fun g hg=>by have h:=(zag.1 (HXO.out.gens g hg)).1;have h2:=HXO.out.n;omega) HV.out HNE.out r HA.out).mono ?_;rintro e w3 hres;obtain⟨so,sl,sc,ev,rfl⟩:=hres.form;have Y4:=hide (X4.out.later hres.2);have HRES:=hide hres;have HB3:=hide (HBw.out.trans (hres.2.mono HBw.out.size));obtain⟨y4,y5,-⟩:=Y4.out;clear hres q2 q4 q5 o0 o1 o2 o3;have HB4:=hide (HB3.out.setCell (p:=⟨w.heap.size+1+1,0,none⟩) (by show w.heap.size≤w.heap.size+1+1;omega) (.slice so sl sc));go_wp2;exact bodyPost_ret (v:=.tuple #[.agg #[.slice so sl sc],ev]) (by simp [results,Tryz.results14,go_sem,World.cell?_setCell_same _ _ _ y4]) rfl (HRES.out.fwd HOKR.out y4 HB4.out)
   ·rw [if_pos hg] at HA0;have e0:errV (genF o.v qs[P].x.n)=.iface 66 (.int .i64 (genF o.v qs[P].x.n:Nat)):=by unfold errV;rw [if_neg hg]
    rw [e0];have HA:=hide HA0.symm;have HG:=hide hg;clear e0 HA0 hg;generalize genF o.v qs[P].x.n=c at *;go_wp2;exact bodyPost_ret (v:=.tuple #[.agg #[.slice none 0 0],.iface 66 (.int .i64 (c:Nat))]) (by simp [results,Tryz.results14,go_sem,q4]) rfl (zaw c [] HA.out HG.out (by first | exact HBw.out | exact HBw.out.setCell (p:=⟨w.heap.size+1+1,0,none⟩) (by show w.heap.size≤w.heap.size+1+1;omega) (.slice none 0 0)))
def apD (q:Nat)(ps:Nat→List Nat)(i:Nat):List Nat:=
 if i≤q then ps i else if i=q+1 then [q] else if i=q+2 then [q+1] else if i=q+3 then [q+1] else if i=q+4 then [] else if i=q+5 then [q+2,q+4] else if i=q+6 then [q+3] else []
theorem zf0 (q:Nat)(ps:Nat→List Nat):apD q ps (q+1)=[q]:=by unfold apD;rw [if_neg (by omega),if_pos rfl]
theorem zf1 (q:Nat)(ps:Nat→List Nat):apD q ps (q+2)=[q+1]:=by unfold apD;rw [if_neg (by omega),if_neg (by omega),if_pos rfl]
theorem zf2 (q:Nat)(ps:Nat→List Nat):apD q ps (q+3)=[q+1]:=by unfold apD;rw [if_neg (by omega),if_neg (by omega),if_neg (by omega),if_pos rfl]
theorem zj8 (q:Nat)(ps:Nat→List Nat):apD q ps (q+4)=[]:=by unfold apD;rw [if_neg (by omega),if_neg (by omega),if_neg (by omega),if_neg (by omega),if_pos rfl]
theorem zf3 (q:Nat)(ps:Nat→List Nat):apD q ps (q+5)=[q+2,q+4]:=by unfold apD;rw [if_neg (by omega),if_neg (by omega),if_neg (by omega),if_neg (by omega),if_neg (by omega),if_pos rfl]
theorem zf4 (q:Nat)(ps:Nat→List Nat):apD q ps (q+6)=[q+3]:=by unfold apD;rw [if_neg (by omega),if_neg (by omega),if_neg (by omega),if_neg (by omega),if_neg (by omega),if_neg (by omega),if_pos rfl]
def apS (q:Nat)(Rg:World→Option Addr→Nat→Nat→Value→Prop)(C:Nat)(b:Bool)(i:Nat)(c:Nat→Value)(W:World):Prop:=
 (i=q→∃ o l k e,c q=.tuple #[.agg #[.slice o l k],e]∧Rg W o l k e) ∧
 (i=q+1→c (q+1)=c q) ∧
 (i=q+2→∃ u e,c (q+1)=.tuple #[u,e]∧c (q+2)=u) ∧
 (i=q+3→∃ u e,c (q+1)=.tuple #[u,e]∧c (q+3)=e) ∧
 (i=q+4→∃ B,c (q+4)=.pointer (some ⟨B,0,none⟩)∧C≤B∧(b=false→One W B (.slice none 0 0))) ∧
 (i=q+5→∃ B u,c (q+4)=.pointer (some ⟨B,0,none⟩)∧c (q+2)=.agg #[u]∧C≤B∧One W B u) ∧
 (i=q+6→c (q+6)=c (q+3))
section
variable {q:Nat}{Rg:World→Option Addr→Nat→Nat→Value→Prop}{C:Nat}{b:Bool}{c:Nat→Value}{W:World}
theorem zbt{i:Nat}(hi:i<q):apS q Rg C b i c W:=⟨fun e=>absurd e (by omega),fun e=>absurd e (by omega),fun e=>absurd e (by omega),fun e=>absurd e (by omega),fun e=>absurd e (by omega),fun e=>absurd e (by omega),fun e=>absurd e (by omega)⟩
theorem zf5 (h:∃ o l k e,c q=.tuple #[.agg #[.slice o l k],e]∧Rg W o l k e):apS q Rg C b q c W:=⟨fun _=>h,fun e=>absurd e (by omega),fun e=>absurd e (by omega),fun e=>absurd e (by omega),fun e=>absurd e (by omega),fun e=>absurd e (by omega),fun e=>absurd e (by omega)⟩
theorem zf6 (h:c (q+1)=c q):apS q Rg C b (q+1) c W:=⟨fun e=>absurd e (by omega),fun _=>h,fun e=>absurd e (by omega),fun e=>absurd e (by omega),fun e=>absurd e (by omega),fun e=>absurd e (by omega),fun e=>absurd e (by omega)⟩
theorem zf7 (h:∃ u e,c (q+1)=.tuple #[u,e]∧c (q+2)=u):apS q Rg C b (q+2) c W:=⟨fun e=>absurd e (by omega),fun e=>absurd e (by omega),fun _=>h,fun e=>absurd e (by omega),fun e=>absurd e (by omega),fun e=>absurd e (by omega),fun e=>absurd e (by omega)⟩
theorem zf8 (h:∃ u e,c (q+1)=.tuple #[u,e]∧c (q+3)=e):apS q Rg C b (q+3) c W:=⟨fun e=>absurd e (by omega),fun e=>absurd e (by omega),fun e=>absurd e (by omega),fun _=>h,fun e=>absurd e (by omega),fun e=>absurd e (by omega),fun e=>absurd e (by omega)⟩
theorem zf9 (h:∃ B,c (q+4)=.pointer (some ⟨B,0,none⟩)∧C≤B∧(b=false→One W B (.slice none 0 0))):apS q Rg C b (q+4) c W:=⟨fun e=>absurd e (by omega),fun e=>absurd e (by omega),fun e=>absurd e (by omega),fun e=>absurd e (by omega),fun _=>h,fun e=>absurd e (by omega),fun e=>absurd e (by omega)⟩
theorem zga (h:∃ B u,c (q+4)=.pointer (some ⟨B,0,none⟩)∧c (q+2)=.agg #[u]∧C≤B∧One W B u):apS q Rg C b (q+5) c W:=⟨fun e=>absurd e (by omega),fun e=>absurd e (by omega),fun e=>absurd e (by omega),fun e=>absurd e (by omega),fun e=>absurd e (by omega),fun _=>h,fun e=>absurd e (by omega)⟩
theorem zgb (h:c (q+6)=c (q+3)):apS q Rg C b (q+6) c W:=⟨fun e=>absurd e (by omega),fun e=>absurd e (by omega),fun e=>absurd e (by omega),fun e=>absurd e (by omega),fun e=>absurd e (by omega),fun e=>absurd e (by omega),fun _=>h⟩
end
theorem apStays (q:Nat)(ps:Nat→List Nat)(Rg:World→Option Addr→Nat→Nat→Value→Prop)(hRg:∀ W W' o l k e,Below W.heap.size W W'→Rg W o l k e→Rg W' o l k e)(C:Nat)(b:Bool):Stays (apD q ps) (apS q Rg C b) where
 later:=fun i c W W' hb h=>by
  obtain⟨h0,h1,h2,h3,h4,h5,h6⟩:=h;refine⟨fun e=>?_,h1,h2,h3,fun e=>?_,fun e=>?_,h6⟩
  ·obtain⟨o,l,k,e',a1,a2⟩:=h0 e;exact⟨o,l,k,e',a1,hRg _ _ _ _ _ _ hb a2⟩
  ·obtain⟨B,a1,a2,a3⟩:=h4 e;exact⟨B,a1,a2,fun hf=>(a3 hf).later hb⟩
  ·obtain⟨B,u,a1,a2,a3,a4⟩:=h5 e;exact⟨B,u,a1,a2,a3,a4.later hb⟩
 other:=fun i j c v W hne hm h=>by
  obtain⟨h0,h1,h2,h3,h4,h5,h6⟩:=h;refine⟨fun e=>?_,fun e=>?_,fun e=>?_,fun e=>?_,fun e=>?_,fun e=>?_,fun e=>?_⟩
  ·subst e;rw [zb _ _ hne];exact h0 rfl
  ·subst e;have h:¬ i=q:=by rw [zf0] at hm;simpa using hm
   rw [zb _ _ hne,zb _ _ (fun e=>h e.symm)];exact h1 rfl
  ·subst e;have h:¬ i=q+1:=by rw [zf1] at hm;simpa using hm
   rw [zb _ _ hne,zb _ _ (fun e=>h e.symm)];exact h2 rfl
  ·subst e;have h:¬ i=q+1:=by rw [zf2] at hm;simpa using hm
   rw [zb _ _ hne,zb _ _ (fun e=>h e.symm)];exact h3 rfl
  ·subst e;rw [zb _ _ hne];exact h4 rfl
  ·subst e;have h:¬ i=q+2∧¬ i=q+4:=by rw [zf3] at hm;simpa using hm
   rw [zb _ _ (fun e=>h.2 e.symm),zb _ _ (fun e=>h.1 e.symm)];exact h5 rfl
  ·subst e;have h:¬ i=q+3:=by rw [zf4] at hm;simpa using hm
   rw [zb _ _ hne,zb _ _ (fun e=>h e.symm)];exact h6 rfl
theorem zgc{q:Nat}{ps:Nat→List Nat}{Rg:World→Option Addr→Nat→Nat→Value→Prop}{C:Nat}{kv:Nat→Option Value}{L:Array Bool}{c:Nat→Value}(R:FS (apD q ps) kv (apS q Rg C true) w L c W)(hall:∀ i,i<q+7→L.getD i false=true):
  ∃ B o l k e,c (q+4)=.pointer (some ⟨B,0,none⟩)∧c (q+6)=e∧C≤B∧One W B (.slice o l k)∧Rg W o l k e:=by
 obtain⟨o,l,k,e,e0,hR⟩:=(R.spec q (hall q (by omega))).1 rfl;have e1:=(R.spec (q+1) (hall (q+1) (by omega))).2.1 rfl;obtain⟨u,f,e2,e2'⟩:=(R.spec (q+2) (hall (q+2) (by omega))).2.2.1 rfl;obtain⟨u3,f3,e3,e3'⟩:=(R.spec (q+3) (hall (q+3) (by omega))).2.2.2.1 rfl;obtain⟨B,u5,e5,e5',hB,hO⟩:=(R.spec (q+5) (hall (q+5) (by omega))).2.2.2.2.2.1 rfl;have e6:=(R.spec (q+6) (hall (q+6) (by omega))).2.2.2.2.2.2 rfl;rw [e1,e0] at e2 e3;simp only [Value.tuple.injEq,Array.mk.injEq,List.cons.injEq,and_true] at e2 e3;obtain⟨rfl,-⟩:=e2;obtain⟨-,rfl⟩:=e3;rw [e2'] at e5';simp only [Value.agg.injEq,Array.mk.injEq,List.cons.injEq,and_true] at e5';subst e5';exact⟨B,o,l,k,_,e5,e6.trans e3',hB,hO,hR⟩
def CatG (r:Nat × List Nmd)(W:World)(o:Option Addr)(l k:Nat)(e:Value):Prop:=
 (r.1≠0∧o=none∧l=0∧k=0∧e=errV r.1)∨(r.1=0∧e=.nilIface∧∃ qs:List Nc,qs.map (·.x)=r.2∧CatN W (.slice o l k) qs)
theorem CatG.later {r:Nat × List Nmd}(W W':World)(o:Option Addr)(l k:Nat)(e:Value)(hb:Below W.heap.size W W')(h:CatG r W o l k e):CatG r W' o l k e:=by
 rcases h with h |⟨h1,h2,qs,h3,h4⟩
 ·exact .inl h
 ·exact .inr ⟨h1,h2,qs,h3,h4.below hb⟩
theorem CatG.put {r:Nat × List Nmd}(hr:r.1=0→∀ x∈r.2,NmOk x){k:Nat}{e:Value}(hB:One W B (.slice none 0 0))(x:Value)(h:CatG r W o l k e):CatG r (W.setCell ⟨B,0,none⟩ x) o l k e:=by
 rcases h with h |⟨h1,h2,qs,h3,h4⟩
 ·exact .inl h
 ·exact .inr ⟨h1,h2,qs,h3,h4.setOne (zar (by rw [h3];exact hr h1)) hB.1 x⟩
theorem zgy{ps:List Nc}(h:CatN W u ps){g:List Int}(hg:g≠[]):¬ RowS W u g:=fun hr=>by
 obtain⟨ao,cap,e,-,hh⟩:=h;obtain⟨bo,cap',e2,-,-,hh2⟩:=hr;rw [e] at e2;simp only [zV] at e2;obtain⟨rfl,hl,-⟩:=e2;have h0:0<g.length:=List.length_pos_iff.2 hg;obtain⟨b,off,rfl,-,hc⟩:=hh (by omega);obtain⟨b',off',e3,-,hc2⟩:=hh2 h0;simp only [Option.some.injEq,Addr.mk.injEq,and_true] at e3;obtain⟨rfl,rfl⟩:=e3;have k1:=(hc 0 ps[0] (List.getElem?_eq_getElem (by omega))).1;have k2:=hc2 0 h0;rw [Nat.zero_mul,Nat.add_zero] at k1;rw [Nat.add_zero,k1] at k2;cases k2
theorem RowS.setVar{ks:List Int}(h:RowS W v ks){p:Addr}{c:Nat}(hc:W.cell? p=some (.slice o l c))(x:Value):RowS (W.setCell p x) v ks:=by
 obtain⟨ao,cap,e,hn,h6,hh⟩:=h;refine⟨ao,cap,e,hn,h6,fun h0=>?_⟩;obtain⟨b,off,e',hlt,hcell⟩:=hh h0;refine⟨b,off,e',by simpa using hlt,fun i hi=>(World.cell?_setCell_other _ _ _ _ fun e=>?_).trans (hcell i hi)⟩;have:=hcell i hi;rw [← e,hc] at this;cases this
theorem CatN.setVar{qs:List Nc}(h:CatN W v qs)(hne:NonE qs){ps:List Nc}(hc:W.cell? ⟨B,0,none⟩=some u)(hu:CatN W u ps)(x:Value):CatN (W.setCell ⟨B,0,none⟩ x) v qs:=by
 have hno:=fun g (hg:g≠[])=>zgy (g:=g) hu hg;obtain⟨uo,uc,rfl,-⟩:=hu;obtain⟨ao,cap,e,hn,hh⟩:=h;refine⟨ao,cap,e,hn,fun h0=>?_⟩;obtain⟨b,off,e',hlt,hcell⟩:=hh h0;refine⟨b,off,e',by simpa using hlt,fun i q hi=>?_⟩;obtain⟨h1,h2,h3,h4⟩:=hcell i q hi;refine⟨(World.cell?_setCell_other _ _ _ _ fun e=>?_).trans h1,(World.cell?_setCell_other _ _ _ _ fun e=>?_).trans h2,(World.cell?_setCell_other _ _ _ _ fun e=>?_).trans h3,?_⟩
 ·rw [← e,hc] at h1;cases h1
 ·rw [← e,hc] at h2;cases h2
 ·have:=congrArg Addr.off e;simp at this
 ·have hq:=hne q (List.mem_of_getElem? hi);obtain⟨go,gc,ge,gn,gh⟩:=h4;refine⟨go,gc,ge,gn,fun g0=>?_⟩;obtain⟨gb,goff,ge',glt,gcell⟩:=gh g0;refine⟨gb,goff,ge',by simpa using glt,fun j r hj=>?_⟩;obtain⟨u2,hu2,hr2⟩:=gcell j r hj;refine⟨u2,(World.cell?_setCell_other _ _ _ _ fun e=>?_).trans hu2,hr2.setVar hc x⟩;rw [← e,hc] at hu2;simp only [Option.some.injEq] at hu2;rw [← hu2] at hr2;exact hno r (hq r (List.mem_of_getElem? hj)) hr2
theorem zcL{r:Nat × List Nmd}{e:Ending}(h:CatRes w r e w'):∃ o l k ev,e=.returned (.tuple #[.agg #[.slice o l k],ev])∧CatG r w' o l k ev∧Below w.heap.size w w':=by
 obtain⟨h |⟨h1,u,qs,h2,h3,v,rfl,h4⟩,hb⟩:=h
 ·exact⟨none,0,0,_,h.2,.inl ⟨h.1,rfl,rfl,rfl,rfl⟩,hb⟩
 ·obtain⟨o,c,rfl,-⟩:=id h4;exact⟨o,_,c,_,h2,.inr ⟨h1,rfl,qs,h3,h4⟩,hb⟩
theorem One.write(h:One W B u)(x:Value):One (W.setCell ⟨B,0,none⟩ x) B x:=
 ⟨World.cell?_setCell_same (h:=h.1) ..,by simpa using h.2.1,by simpa using h.2.2⟩
end Go.Proofs.YtncamilanceahaaGreat
