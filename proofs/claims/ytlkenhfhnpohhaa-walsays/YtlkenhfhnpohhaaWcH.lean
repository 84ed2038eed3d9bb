/- What WalSays' walk knows of its log and its lists of deeds. -/
import Derived.Test.YtlkenhfhnpohhaaActW
import Derived.Test.YtlkenhfhnpohhaaTl2
import Derived.Deep.Cut
import Derived.Deep.CutRange
import Derived.Deep.CutBlock

namespace Go.Proofs.Ytlkenhfhnpohhaa
open Go.RowKit

def goodSt (st : St) : Prop := st.ops.length ≤ st.i ∧ (∀ o ∈ st.ops, opF o = 0) ∧ ∀ d ∈ st.ds, d.length ≤ st.i ∧ ∀ o ∈ d, opF o = 0

theorem good_step {f : Int} {st : St} {s : List UInt8} (h : goodSt st) : goodSt (stepS f st s) := by
 obtain ⟨h1, h2, h3⟩ := h
 have hd : ∀ d ∈ st.ds, d.length ≤ st.i + 1 ∧ ∀ o ∈ d, opF o = 0 := fun d hd => ⟨by have := (h3 d hd).1; omega, (h3 d hd).2⟩
 unfold stepS
 split
 ·exact ⟨by show st.ops.length ≤ st.i + 1; omega, h2, hd⟩
 ·split
  ·cases hu : unopL (rdSec (f + st.i) s).2 with
   | none => exact ⟨by show st.ops.length ≤ st.i + 1; omega, h2, hd⟩
   | some o =>
    refine ⟨by show (st.ops ++ [o]).length ≤ st.i + 1; rw [List.length_append, List.length_singleton]; omega, fun p hp => ?_, hd⟩
    have hp' : p ∈ st.ops ++ [o] := hp
    rcases List.mem_append.1 hp' with hp' | hp'
    ·exact h2 p hp'
    ·rw [List.mem_singleton] at hp'
     rw [hp']
     exact (unopL_iff.1 hu).1
  ·split
   ·refine ⟨Nat.zero_le _, fun p hp => absurd hp (by simp), fun d hd' => ?_⟩
    have hd' : d ∈ st.ds ++ [st.ops] := hd'
    rcases List.mem_append.1 hd' with hd' | hd'
    ·exact hd d hd'
    ·rw [List.mem_singleton] at hd'
     rw [hd']
     exact ⟨by show st.ops.length ≤ st.i + 1; omega, h2⟩
   ·exact ⟨by show st.ops.length ≤ st.i + 1; omega, h2, hd⟩

theorem good_fold {f : Int} : ∀ (l : List (List UInt8)) (st : St), goodSt st → goodSt (l.foldl (stepS f) st)
 | [], _, h => h
 | _ :: t, _, h => good_fold t _ (good_step h)

theorem says_good (f : Int) (fr mn : Nat) (c : Nat → List UInt8) : ∀ d ∈ (saysL f fr mn c).ds, d.length ≤ mn ∧ ∀ o ∈ d, opF o = 0 := fun d hd => by
 have h := good_fold (f := f) (seg c fr 0 mn) st0 ⟨Nat.le_refl _, fun o h => absurd h (by simp [st0]), fun d h => absurd h (by simp [st0])⟩
 have hi : (scanS f (seg c fr 0 mn)).i = mn := scan_at _ _ _ _
 have := h.2.2 d hd
 exact ⟨by have h2 : (List.foldl (stepS f) st0 (seg c fr 0 mn)).i = mn := hi; omega, this.2⟩

theorem fold_few2 (f : Int) : ∀ (l : List (List UInt8)) (st : St), (l.foldl (stepS f) st).ds.length ≤ st.ds.length + l.length
 | [], _ => Nat.le_refl _
 | s :: t, st => by
  rw [List.foldl_cons, List.length_cons]
  refine Nat.le_trans (fold_few2 f t _) ?_
  rcases stepS_or f st s with ⟨h, -⟩ | ⟨-, h, -⟩
  ·rw [h]; omega
  ·rw [h]
   simp
   omega

theorem says_few2 (f : Int) (fr mn : Nat) (c : Nat → List UInt8) : (saysL f fr mn c).ds.length ≤ mn := by
 have h := fold_few2 f (seg c fr 0 mn) st0
 rw [seg_len] at h
 have h0 : st0.ds.length = 0 := rfl
 unfold saysL scanS
 omega

structure LogI (E : Dsk) (m fr mn : Nat) (f : Int) (en : Nat) (ws : List (List OpV)) : Prop where
 well : ∃ k, Well E m k ∧ k ≤ 300
 free : Free E
 ds : (saysL f fr mn (cont E)).ds = ws
 e : (saysL f fr mn (cont E)).e = en

theorem LogI.en_le {E : Dsk} {m fr mn en : Nat} {f : Int} {ws : List (List OpV)} (h : LogI E m fr mn f en ws) : en ≤ mn := (says_from h.ds h.e).1

theorem LogI.added {E : Dsk} {m fr mn en : Nat} {f : Int} {ws : List (List OpV)} {os : List OpV} (h : LogI E m fr mn f en ws) (hin : fr + mn ≤ m) (hf : addF os (mn - en) = 0) : (addD f fr en mn os E).2 = true ∧ LogI (addD f fr en mn os E).1 m fr mn f (en + os.length + 1) (ws ++ [os]) := by
 obtain ⟨k, hw, -⟩ := h.well
 obtain ⟨ht, hfr⟩ := addD_free (f := f) (fr := fr) (en := en) (mn := mn) (os := os) h.free
 obtain ⟨-, -, h3, h4, h5⟩ := (addD_facts hw hin (addF_nought hf).2.1 (packF_all (addF_nought hf).2.2) h.ds h.e).1 ht
 exact ⟨ht, ⟨0, h3, by omega⟩, hfr, h4, h5⟩

theorem LogI.short {E : Dsk} {m fr mn en : Nat} {f : Int} {ws : List (List OpV)} (h : LogI E m fr mn f en ws) (hmn : mn ≤ 1000) {A : List (Value × List OpC)} (ha : opsD A = ws) : shortD A := by
 have h1 := says_few2 f fr mn (cont E)
 rw [h.ds, ← ha] at h1
 unfold opsD at h1
 rw [List.length_map] at h1
 refine ⟨by omega, fun p hp => ?_⟩
 have hm : p.2.map (·.o) ∈ (saysL f fr mn (cont E)).ds := by
  rw [h.ds, ← ha]
  exact List.mem_map.2 ⟨p, hp, rfl⟩
 obtain ⟨g1, g2⟩ := says_good f fr mn (cont E) _ hm
 rw [List.length_map] at g1
 refine ⟨by omega, fun q hq => ?_⟩
 have := (shapeB_few (opF_ok (g2 q.o (List.mem_map.2 ⟨q, hq, rfl⟩))).1).2
 omega

def OpsU (w W : World) (v : Value) (os : List OpC) : Prop := OpsN w v os ∨ OpsT 0 W v os

def ListU (w W : World) (v : Value) (dss : List (Value × List OpC)) : Prop := W.ownsRow 0 47 1 v dss.length (dss.map (·.1)) ∧ (∀ p ∈ dss, OpsU w W p.1 p.2) ∧ Below w.heap.size w W

theorem ListU.later {w W W' : World} {v : Value} {dss : List (Value × List OpC)} (h : ListU w W v dss) (hb : Below W.heap.size W W') : ListU w W' v dss :=
 ⟨ownsKeep h.1 (fun b _ _ hx => hb.block b (heap_lt hx)), fun p hp => (h.2.1 p hp).imp id (·.later hb), h.2.2.trans (hb.mono h.2.2.size)⟩

theorem OpsT.keptU {W W' : World} {base base' : Nat} {v : Value} {os : List OpC} (h : OpsT base W v os) (hk : KeptW base' W W') : OpsT base W' v os :=
 h.keep fun b _ _ _ hx ht => hk.block b (heap_lt hx) (.inr fun cs' t' fz' hx' => by
  rw [hx] at hx'
  simp only [Option.some.injEq, Obj.cells.injEq] at hx'
  rw [← hx'.2.1]
  exact list_notLog ht)

theorem ListU.keptW {w W W' : World} {base : Nat} {v : Value} {dss : List (Value × List OpC)} (h : ListU w W v dss) (hk : KeptW base W W') (hb : w.heap.size ≤ base) (hW : base ≤ W.heap.size) : ListU w W' v dss :=
 ⟨ownsKeep h.1 (fun b _ _ hx => hk.block b (heap_lt hx) (.inr fun cs' t' fz' hx' => by
  rw [hx] at hx'
  simp only [Option.some.injEq, Obj.cells.injEq] at hx'
  rw [← hx'.2.1]
  exact list_notLog (.inl rfl))), fun p hp => (h.2.1 p hp).imp id (·.keptU hk), h.2.2.trans ((hk.below hW).mono hb)⟩

theorem ListU.read {w W : World} {v : Value} {dss : List (Value × List OpC)} (h : ListU w W v dss) : DeedsN W v dss :=
 deedsN_of_owns h.1 fun p hp => by
  rcases h.2.1 p hp with h1 | h1
  ·exact h1.below h.2.2
  ·exact h1.read

theorem ListU.of {w W : World} {base : Nat} {v : Value} {dss : List (Value × List OpC)} (h : DeedsT base W v dss) (hb : Below w.heap.size w W) : ListU w W v dss :=
 ⟨ownsLess h.1 (Nat.zero_le _), fun p hp => .inr (h.2 p hp), hb⟩

theorem ListU.ones {w W : World} {v : Value} {wd : List (Value × List OpC)} (h : ListU w W v wd) : ∀ x ∈ wd.map (·.1), x.oneCell' = true := fun x hx => by
 obtain ⟨p, hp, rfl⟩ := List.mem_map.1 hx
 rcases h.2.1 p hp with ⟨ao, cap, e, -⟩ | h1
 ·rw [e]; rfl
 ·obtain ⟨o, c, e⟩ := h1.form
  rw [e]; rfl

theorem ListU.form {w W : World} {v : Value} {wd : List (Value × List OpC)} (h : ListU w W v wd) : ∃ o c, v = .slice o wd.length c := by
 obtain ⟨o, c, e, -⟩ := owns_form h.1
 exact ⟨o, c, e⟩

theorem ListU.snoc {w W W' : World} {base : Nat} {v v' x : Value} {os : List OpC} {wd : List (Value × List OpC)} (h : ListU w W v wd) (ho : OpsN w x os) (hb : Below W.heap.size W W') (hr : W'.ownsRow base 47 1 v' (wd.length + 1) (wd.map (·.1) ++ [x])) : ListU w W' v' (wd ++ [(x, os)]) :=
 ⟨by simpa using ownsLess hr (Nat.zero_le _), fun p hp => by
  rcases List.mem_append.1 hp with hp | hp
  ·exact (h.2.1 p hp).imp id (·.later hb)
  ·rw [List.mem_singleton] at hp
   subst hp
   exact .inl ho, h.2.2.trans (hb.mono h.2.2.size)⟩

theorem opsD_snocU (wd : List (Value × List OpC)) (x : Value) (os : List OpC) : opsD (wd ++ [(x, os)]) = opsD wd ++ [os.map (·.o)] := by
 unfold opsD
 rw [List.map_append]
 rfl

set_option maxRecDepth 100000 in
theorem logOpen_bad (w : World) (base B : Nat) (D : Dsk) (m : Nat) (fr many first : Int) (hd : DiskO w base B D) (hm : D.secs.length = m) (hm2 : m ≤ 200) (hfr : fr ≤ 9223372036854775807) (hno : mayB m fr many first = false) :
  Calls Try.prog 9 #[.pointer (some ⟨B, 0, none⟩), .int .i64 fr, .int .i64 many, .int .i64 first] w fun e w' => e = .returned (.tuple #[.pointer none, .slice none 0 0, errV 1]) ∧ Below w.heap.size w w' := by
 have HMB := hide (mayBe_any w base B D m fr many first hd hm hm2 hfr)
 rw [hno] at HMB
 clear hd hm hno
 go_enter Try.func9, Try.ntmps9
 go_wp2_with fail
 refine HMB.out.mono ?_
 rintro e w1 ⟨rfl, hb1⟩
 have HB := hide hb1
 clear hb1 HMB
 go_wp2
 exact bodyPost_ret (v := .tuple #[.pointer none, .slice none 0 0, .iface 58 (.int .i64 1)]) (by simp [results, Try.results9, go_sem]) rfl ⟨rfl, HB.out⟩

def rowE : Nat → List Nat
 | 1 => [0]
 | 3 => [2]
 | 4 => [3]
 | 5 => [1, 4]
 | 6 => [5]
 | _ => []

def rowT (base n : Nat) (xs : List Value) (x : Value) (fl : Bool) (i : Nat) (c : Nat → Value) (W : World) : Prop :=
 (i = 1 → fl = false → ∃ o k, c 1 = .slice o n k ∧ W.ownsRow base 47 1 (.slice o n k) n xs) ∧
 (i = 4 → fl = false → ∃ B, c 4 = .slice (some ⟨B, 0, none⟩) 1 1 ∧ W.cell? ⟨B, 0, none⟩ = some x ∧ B < W.heap.size) ∧
 (i = 5 → ∃ o k, c 5 = .slice o (n + 1) k ∧ W.ownsRow base 47 1 (.slice o (n + 1) k) (n + 1) (xs ++ [x])) ∧
 (i = 6 → c 6 = c 5)

theorem rowT_p {base n : Nat} {xs : List Value} {x : Value} {fl : Bool} {i : Nat} {c : Nat → Value} {W : World} (h1 : i ≠ 1) (h6 : i ≠ 4) (h7 : i ≠ 5) (h8 : i ≠ 6) : rowT base n xs x fl i c W := ⟨fun e => absurd e h1, fun e => absurd e h6, fun e => absurd e h7, fun e => absurd e h8⟩

theorem rowTStays (base n : Nat) (xs : List Value) (x : Value) (fl : Bool) : Stays rowE (rowT base n xs x fl) where
 later := fun i c W W' hb h => by
  obtain ⟨h1, h6, h7, h8⟩ := h
  refine ⟨fun e hf => ?_, fun e hf => ?_, fun e => ?_, h8⟩
  ·obtain ⟨o, k, a1, a2⟩ := h1 e hf
   exact ⟨o, k, a1, ownsKeep a2 (fun b _ _ hx => hb.block b (heap_lt hx))⟩
  ·obtain ⟨B, a1, a2, a3⟩ := h6 e hf
   exact ⟨B, a1, (hb.cell (p := ⟨B, 0, none⟩) a3).trans a2, Nat.lt_of_lt_of_le a3 hb.size⟩
  ·obtain ⟨o, k, a1, a2⟩ := h7 e
   exact ⟨o, k, a1, ownsKeep a2 (fun b _ _ hx => hb.block b (heap_lt hx))⟩
 other := fun i j c v W hne hm h => by
  obtain ⟨h1, h6, h7, h8⟩ := h
  refine ⟨fun e hf => ?_, fun e hf => ?_, fun e => ?_, fun e => ?_⟩
  ·subst e
   rw [upd_ne _ _ hne]; exact h1 rfl hf
  ·subst e
   rw [upd_ne _ _ hne]; exact h6 rfl hf
  ·subst e
   rw [upd_ne _ _ hne]; exact h7 rfl
  ·subst e
   have h : ¬ i = 5 := by simpa [rowE] using hm
   rw [upd_ne _ _ hne, upd_ne _ _ (fun e => h e.symm)]; exact h8 rfl

theorem rowT_put {base n : Nat} {xs : List Value} {x : Value} {kv : Nat → Option Value} (hk7 : kv 5 = none) {w W : World} {L : Array Bool} {c : Nat → Value} (R : FS rowE kv (rowT base n xs x false) w L c W) (hbase : base = w.heap.size) (hn : L.getD 5 true = false) (h1 : L.getD 1 false = true) (h6 : L.getD 4 false = true) (hx : x.oneCell' = true) (hn2 : n ≤ 1000) :
  ∃ o k B o' k' W', c 1 = .slice o n k ∧ c 4 = .slice (some ⟨B, 0, none⟩) 1 1 ∧ (Builtin.append_ #[33, 33] 33 #[.slice o n k, .slice (some ⟨B, 0, none⟩) 1 1]).run Try.prog W = .ok (.slice o' (n + 1) k') W' ∧ FS rowE kv (rowT base n xs x true) w (L.setIfInBounds 5 true) (upd c 5 (.slice o' (n + 1) k')) W' := by
 obtain ⟨o, k, e1, a1⟩ := (R.spec 1 h1).1 rfl rfl
 obtain ⟨B, e6, b1, b2⟩ := (R.spec 4 h6).2.1 rfl rfl
 obtain ⟨o', k', W', hr, hown, hb⟩ := put_want W base o n k xs a1 (by rw [hbase]; exact R.below.size) B x b1 hx hn2
 refine ⟨o, k, B, o', k', W', e1, e6, hr, R.put hn (fun j hj => ?_) (R.below.trans (hbase ▸ hb)) (fun u hu => by rw [hk7] at hu; cases hu) (fun j hj hl hs => ?_) ?_⟩
 ·simp [rowE] at hj
  rcases hj with rfl | rfl
  ·exact h1
  ·exact h6
 ·refine ⟨fun _ hf => Bool.noConfusion hf, fun _ hf => Bool.noConfusion hf, fun e => absurd e hj, fun e => ?_⟩
  subst e
  exact absurd (R.closed 6 hl 5 (by simp [rowE])) (listed_not hn)
 ·exact ⟨fun e => absurd e (by decide), fun e => absurd e (by decide), fun _ => ⟨o', k', upd_self .., hown⟩, fun e => absurd e (by decide)⟩

theorem rowT_copy {base n : Nat} {xs : List Value} {x v : Value} {fl : Bool} {kv : Nat → Option Value} (hk1 : kv 1 = none) (hk0 : kv 0 = some v) {w W : World} {L : Array Bool} {c : Nat → Value} (R : FS rowE kv (rowT base n xs x fl) w L c W) (hbase : base = w.heap.size) (hn : L.getD 1 true = false) (h0 : L.getD 0 false = true) (hv : W.ownsRow 0 47 1 v n xs) (hx : ∀ x ∈ xs, x.oneCell' = true) (hn2 : n ≤ 1000) :
  c 0 = v ∧ ∃ o k W', (Builtin.append_ #[33, 33] 33 #[.slice none 0 0, v]).run Try.prog W = .ok (.slice o n k) W' ∧ FS rowE kv (rowT base n xs x fl) w (L.setIfInBounds 1 true) (upd c 1 (.slice o n k)) W' := by
 refine ⟨R.plain 0 v h0 hk0, ?_⟩
 obtain ⟨o, k, W', hr, hown, hb⟩ := copy_want W v n xs hv hx hn2 base (by rw [hbase]; exact R.below.size)
 refine ⟨o, k, W', hr, R.made (rowTStays ..) hn (fun j hj => ?_) hb (fun u hu => by rw [hk1] at hu; cases hu) ⟨fun _ _ => ⟨o, k, upd_self .., hown⟩, fun e => absurd e (by decide), fun e => absurd e (by decide), fun e => absurd e (by decide)⟩⟩
 simp [rowE] at hj
 subst hj
 exact h0

theorem rowT_fin {base n : Nat} {xs : List Value} {x : Value} {fl : Bool} {kv : Nat → Option Value} {w W : World} {L : Array Bool} {c : Nat → Value} (R : FS rowE kv (rowT base n xs x fl) w L c W) (hall : ∀ i, i < 7 → L.getD i false = true) :
  ∃ o k, c 6 = .slice o (n + 1) k ∧ W.ownsRow base 47 1 (.slice o (n + 1) k) (n + 1) (xs ++ [x]) := by
 obtain ⟨o, k, e7, h⟩ := (R.spec 5 (hall 5 (by omega))).2.2.1 rfl
 have e8 := (R.spec 6 (hall 6 (by omega))).2.2.2 rfl
 exact ⟨o, k, e8.trans e7, h⟩

end Go.Proofs.Ytlkenhfhnpohhaa

/- WalSays: the acts, one by one. -/
namespace Go.Proofs.Ytlkenhfhnpohhaa
open Go.RowKit

theorem act_notLog : ¬ logT 49 := by
 unfold logT diskT
 decide

theorem actCell {W : World} {Q : Nat} {x0 x1 x2 x3 x4 x5 x6 x7 x8 : Value} {t : TypeId} (h : W.heap[Q]? = some (.cells #[x0, x1, x2, x3, x4, x5, x6, x7, x8] t (0, 0))) : W.cell? ⟨Q, 8, none⟩ = some x8 := by
 rw [cell_of_row W _ 8 _ _ _ h]
 rfl

set_option linter.unusedSimpArgs false in
set_option maxRecDepth 100000 in
set_option maxHeartbeats 3200000 in
theorem walSays_D (w W : World) (ao : Option Addr) (acap B L bs fr mn m en : Nat) (first : Int) (E : Dsk) (al : List ActW) (gd wd : List (Value × List OpC)) (gv wv : Value) (hal : ActsW w (.slice ao al.length acap) al) (hla : ∀ p ∈ al, lightP p) (hll : al.length ≤ 20) (hbs : w.heap.size ≤ bs) (hbW : bs ≤ W.heap.size) (hLb : bs ≤ L) (hm : m ≤ 200) (hin : fr + mn ≤ m) (h1 : 1 ≤ mn) (hf : 1 ≤ first ∧ first ≤ 1000000) (hd : DiskO W bs B E) (hlog : LogM W L B (fr : Nat) (mn : Nat) first (en : Nat)) (hi : LogI E m fr mn first en (opsD wd)) (hg : ListU w W gv gd) (hw : ListU w W wv wd) (hgw : opsD gd = opsD wd) {sl0 sl5 sl6 sl7 sl8 sl9 sl10 sl11 sl12 sl14 sl15 sl18 sl19 sl20 sl21 sl24 sl25 sl26 sl27 sl28 sl29 sl30 sl31 sl32 sl33 sl34 sl35 sl36 sl37 sl38 sl39 sl40 sl41 sl42 sl43 sl44 sl45 sl46 sl47 sl48 sl49 sl50 sl51 sl52 sl53 sl54 sl55 sl56 sl57 sl58 sl59 sl60 sl61 sl62 sl63 sl64 sl65 sl66 sl67 sl68 sl69 sl70 sl71 sl72 sl73 sl74 sl75 sl76 sl77 sl78 sl79 sl80 sl81 sl82 sl83 sl84 sl85 sl86 sl87 sl88 sl89 sl90 sl91 sl92 sl93 sl94 sl95 sl96 sl97 sl98 sl99 sl100 sl101 sl102 sl103 sl104 sl105 sl106 sl107 sl108 sl109 sl110 sl111 sl112 sl113 sl114 sl115 sl116 sl117 sl118 sl119 sl120 sl121 sl122 sl123 sl124 sl125 sl126 sl127 sl128 sl129 sl130 sl131 sl132 sl133 sl134 sl135 sl136 sl137 sl138 sl139 sl140 sl141 sl142 sl143 sl144 sl145 sl146 sl147 sl148 sl149 sl150 sl151 sl152 sl153 sl154 sl155 sl156 sl157 sl158 sl159 sl160 sl161 sl162 sl163 sl164 sl165 sl166 sl167 sl168 sl169 sl170 sl171 sl172 sl173 sl174 sl175 sl176 sl177 sl178 sl179 sl180 sl181 sl182 sl183 sl184 sl185 sl186 sl187 sl188 sl189 sl190 sl191 sl192 sl193 sl194 sl195 sl196 sl197 sl198 sl199 sl200 sl201 sl202 sl203 sl204 sl205 sl206 sl207 sl208 sl209 sl210 sl211 sl212 sl213 sl214 sl215 sl216 sl217 sl218 sl219 sl220 sl221 sl222 sl223 sl224 sl225 sl226 sl227 sl228 sl229 sl230 sl231 sl232 sl233 sl234 sl235 sl236 : Value} :
  (Code.tail (Code.tail (Code.tail (Code.tail (Code.tail (Code.tail (Code.tail (Code.tail (Code.tail (Code.tail (Code.tail (Code.tail (Code.tail ((Try.f3.body).getD .skip)))))))))))))).wp Try.prog (bodyPost Try.prog Try.f3 (fun e w' => e = .returned (.bool true) ∧ Below w.heap.size w w')) ⟨#[sl0, (.int .i64 (fr : Int)), (.int .i64 (mn : Int)), (.int .i64 (first : Int)), (.slice ao al.length acap), sl5, sl6, sl7, sl8, sl9, sl10, sl11, sl12, (.pointer (some ⟨B, 0, none⟩)), sl14, sl15, (.pointer (some ⟨L, 0, none⟩)), gv, sl18, sl19, sl20, sl21, wv, (.int .i64 (en : Int)), sl24, sl25, sl26, sl27, sl28, sl29, sl30, sl31, sl32, sl33, sl34, sl35, sl36, sl37, sl38, sl39, sl40, sl41, sl42, sl43, sl44, sl45, sl46, sl47, sl48, sl49, sl50, sl51, sl52, sl53, sl54, sl55, sl56, sl57, sl58, sl59, sl60, sl61, sl62, sl63, sl64, sl65, sl66, sl67, sl68, sl69, sl70, sl71, sl72, sl73, sl74, sl75, sl76, sl77, sl78, sl79, sl80, sl81, sl82, sl83, sl84, sl85, sl86, sl87, sl88, sl89, sl90, sl91, sl92, sl93, sl94, sl95, sl96, sl97, sl98, sl99, sl100, sl101, sl102, sl103, sl104, sl105, sl106, sl107, sl108, sl109, sl110, sl111, sl112, sl113, sl114, sl115, sl116, sl117, sl118, sl119, sl120, sl121, sl122, sl123, sl124, sl125, sl126, sl127, sl128, sl129, sl130, sl131, sl132, sl133, sl134, sl135, sl136, sl137, sl138, sl139, sl140, sl141, sl142, sl143, sl144, sl145, sl146, sl147, sl148, sl149, sl150, sl151, sl152, sl153, sl154, sl155, sl156, sl157, sl158, sl159, sl160, sl161, sl162, sl163, sl164, sl165, sl166, sl167, sl168, sl169, sl170, sl171, sl172, sl173, sl174, sl175, sl176, sl177, sl178, sl179, sl180, sl181, sl182, sl183, sl184, sl185, sl186, sl187, sl188, sl189, sl190, sl191, sl192, sl193, sl194, sl195, sl196, sl197, sl198, sl199, sl200, sl201, sl202, sl203, sl204, sl205, sl206, sl207, sl208, sl209, sl210, sl211, sl212, sl213, sl214, sl215, sl216, sl217, sl218, sl219, sl220, sl221, sl222, sl223, sl224, sl225, sl226, sl227, sl228, sl229, sl230, sl231, sl232, sl233, sl234, sl235, sl236], []⟩ W := by
 simp only [Code.tail, Try.f3, Option.getD_some]
 obtain ⟨N, hN⟩ : ∃ n, al.length = n := ⟨_, rfl⟩
 have HAL := hide hal; have HLA := hide hla; have HD := hide hd; have HL := hide hlog; have HI := hide hi; have HG := hide hg; have HV := hide hw; have HGW := hide hgw; have HW := hide hbW; have HLL := hide hLb; have HN := hide hN
 rw [hN] at HAL hll ⊢
 clear hal hla hd hlog hi hg hw hgw hbW hLb hN
 go_wp2_with fail
 go_loopw [16, 17, 22, 23, 24] (fun lp gv wv us ix wr => ∃ (k en L : Nat) (E : Dsk) (gd wd : List (Value × List OpC)), k ≤ N ∧ ix = .int .i64 k ∧ lp = .pointer (some ⟨L, 0, none⟩) ∧ us = .int .i64 en ∧ Hid (bs ≤ wr.heap.size) ∧ Hid (bs ≤ L) ∧ Hid (DiskO wr bs B E) ∧ Hid (LogM wr L B (fr : Nat) (mn : Nat) first (en : Nat)) ∧ Hid (LogI E m fr mn first en (opsD wd)) ∧ Hid (ListU w wr gv gd) ∧ Hid (ListU w wr wv wd) ∧ Hid (opsD gd = opsD wd)) (fun _ _ _ _ ix _ => N + 1 - (intOf ix).toNat)
 case atStart => exact ⟨0, en, L, E, gd, wd, Nat.zero_le _, rfl, rfl, rfl, HW, HLL, HD, HL, HI, HG, HV, HGW⟩
 case round =>
  clear HW HLL HD HL HI HG HV HGW
  obtain ⟨k, en, L, E, gd, wd, hk, rfl, rfl, rfl, HW, HLL, HD, HL, HI, HG, HV, HGW⟩ := hrel
  have hkN : decide ((k : Int) ≤ (N : Int)) = true := decide_eq_true (by omega)
  obtain ⟨go_, gc, rfl⟩ := HG.out.form
  obtain ⟨wo, wq, rfl⟩ := HV.out.form
  have hmn : mn ≤ 200 := by omega
  have hen : en ≤ mn := HI.out.en_le
  go_wp2_with fail
  refine (sameDeeds_any wr _ _ gd wd HG.out.read HV.out.read (HI.out.short (by omega) HGW.out) true (by simp [HGW.out])).mono ?_
  rintro e w1 ⟨rfl, hb1⟩
  have HW := hide (Nat.le_trans HW.out hb1.size); have HD := hide (HD.out.later hb1); have HL := hide (HL.out.later hb1); have HG := hide (HG.out.later hb1); have HV := hide (HV.out.later hb1)
  clear hb1
  go_wp2_with fail
  refine (room_any w1 L B fr first mn en HL.out hen (by omega)).mono ?_
  rintro e w2 ⟨rfl, hb2⟩
  have HW := hide (Nat.le_trans HW.out hb2.size); have HD := hide (HD.out.later hb2); have HL := hide (HL.out.later hb2); have HG := hide (HG.out.later hb2); have HV := hide (HV.out.later hb2)
  clear hb2
  have gR : (mn : Int) - (en : Int) = ((mn - en : Nat) : Int) := by omega
  have gN : ((((mn - en : Nat) : Int)) != ((mn - en : Nat) : Int)) = false := by rw [bne_eq_false_iff_eq]
  go_wp2_with fail
  refine (next_any w2 L B fr mn first en HL.out (by omega)).mono ?_
  rintro e w3 ⟨rfl, hb3⟩
  have HW := hide (Nat.le_trans HW.out hb3.size); have HD := hide (HD.out.later hb3); have HL := hide (HL.out.later hb3); have HG := hide (HG.out.later hb3); have HV := hide (HV.out.later hb3)
  clear hb3
  have gF : (first + (mn : Int) != first + (mn : Int)) = false := by rw [bne_eq_false_iff_eq]
  by_cases hkl : k < N
  ·have g3 : ((k : Int) == (N : Int)) = false := beq_eq_false_iff_ne.2 (by omega)
   obtain ⟨p, hp⟩ : ∃ p, al[k]? = some p := ⟨_, List.getElem?_eq_getElem (by rw [HN.out]; exact hkl)⟩
   have hal3 := HAL.out
   rw [← HN.out] at hal3
   obtain ⟨b, off, cap', e, hlt, hok, hc⟩ := (hal3.below HV.out.2.2).at hp
   rw [HN.out] at e
   simp only [Value.slice.injEq, true_and] at e
   obtain ⟨rfl, rfl⟩ := e
   have hlp := HLA.out p (List.mem_of_getElem? hp)
   have hops := (hal3.at hp)
   obtain ⟨_, _, _, -, -, hok0, -⟩ := hops
   obtain ⟨kd, a, ps, kk, ⟨⟨okd, name, on, vs⟩, vo, vc⟩, ov, os⟩ := p
   have HOS := hide hok0.ops; have HO3 := hide hok.ops; have HLP := hide hlp
   obtain ⟨xo, xc, hov, -⟩ := hok.ops
   dsimp only at hov
   subst hov
   have d0 : w3.cell? ⟨b, off + k * 9, none⟩ = some (.string kd) := hc 0 _ rfl
   have d1 : w3.cell? ⟨b, off + k * 9 + 1, none⟩ = some (.int .i64 a) := hc 1 _ rfl
   have d2 : w3.cell? ⟨b, off + k * 9 + 2, none⟩ = some (.string ps) := hc 2 _ rfl
   have d3 : w3.cell? ⟨b, off + k * 9 + 3, none⟩ = some (.int .u64 kk) := hc 3 _ rfl
   have d4 : w3.cell? ⟨b, off + k * 9 + 4, none⟩ = some (.int .i64 okd) := hc 4 _ rfl
   have d5 : w3.cell? ⟨b, off + k * 9 + 5, none⟩ = some (.string name) := hc 5 _ rfl
   have d6 : w3.cell? ⟨b, off + k * 9 + 6, none⟩ = some (.int .i64 on) := hc 6 _ rfl
   have d7 : w3.cell? ⟨b, off + k * 9 + 7, none⟩ = some (.slice vo vs.length vc) := hc 7 _ rfl
   have d8 : w3.cell? ⟨b, off + k * 9 + 8, none⟩ = some (.slice xo os.length xc) := hc 8 _ rfl
   obtain ⟨oo, hoo⟩ : ∃ oo, off + k * 9 = oo := ⟨_, rfl⟩
   rw [hoo] at d0 d1 d2 d3 d4 d5 d6 d7 d8
   clear hc hok hok0 hlp hp hal3 HAL
   have hb4 := alloc_below w3 (.cells #[.string kd, .int .i64 a, .string ps, .int .u64 kk, .int .i64 okd, .string name, .int .i64 on, .slice vo vs.length vc, .slice xo os.length xc] 49)
   have hbx : (w3.alloc (.cells #[.string kd, .int .i64 a, .string ps, .int .u64 kk, .int .i64 okd, .string name, .int .i64 on, .slice vo vs.length vc, .slice xo os.length xc] 49)).heap[w3.heap.size]? = some (.cells #[.string kd, .int .i64 a, .string ps, .int .u64 kk, .int .i64 okd, .string name, .int .i64 on, .slice vo vs.length vc, .slice xo os.length xc] 49 (0, 0)) := heap_alloc_new w3 _
   have HX := hide hbx
   have HW := hide (Nat.le_trans HW.out hb4.size); have HD := hide (HD.out.later hb4); have HL := hide (HL.out.later hb4); have HG := hide (HG.out.later hb4); have HV := hide (HV.out.later hb4); have HO4 := hide (HO3.out.below hb4)
   clear HO3
   by_cases q1 : kd.toList = [97, 100, 100]
   ·have q2 : (kd.toList == [97, 100, 100]) = true := beq_iff_eq.2 q1
    have q3 : (kd.toList != [97, 100, 100]) = false := by rw [bne_eq_false_iff_eq]; exact q1
    have c8 : (w3.alloc (.cells #[.string kd, .int .i64 a, .string ps, .int .u64 kk, .int .i64 okd, .string name, .int .i64 on, .slice vo vs.length vc, .slice xo os.length xc] 49)).cell? ⟨w3.heap.size, 8, none⟩ = some (.slice xo os.length xc) := actCell hbx
    clear hb4 hbx
    go_wp2_with fail
    clear d0 d1 d2 d3 d4 d5 d6 d7 d8
    generalize w3.alloc (.cells #[.string kd, .int .i64 a, .string ps, .int .u64 kk, .int .i64 okd, .string name, .int .i64 on, .slice vo vs.length vc, .slice xo os.length xc] 49) = w4 at HX HW HD HL HG HV HO4 ⊢
    generalize w3.heap.size = Q at HX ⊢
    have hlp := lightL_ok HLP.out.2.2.2
    dsimp only at hlp
    refine (addFault_any w4 _ os (mn - en) HO4.out (by have := hlp.1; omega) (fun q hq => by have := (hlp.2 q hq).2; omega)).mono ?_
    rintro e w5 ⟨rfl, hb5⟩
    have hx5 := (hb5.block Q (heap_lt HX.out)).trans HX.out
    have HX := hide hx5
    have HW := hide (Nat.le_trans HW.out hb5.size); have HD := hide (HD.out.later hb5); have HL := hide (HL.out.later hb5); have HG := hide (HG.out.later hb5); have HV := hide (HV.out.later hb5); have HO4 := hide (HO4.out.below hb5)
    have c8 := actCell hx5
    clear hb5 hx5
    obtain ⟨kw, hwell, hkw⟩ := HI.out.well
    obtain ⟨F, hF⟩ : ∃ F, addF (os.map (·.o)) (mn - en) = F := ⟨_, rfl⟩
    rw [hF]
    go_wp2_with fail
    refine (logAdd_any w5 bs B L E m kw fr en mn first _ os HD.out HL.out hwell (by omega) hm hin hen ⟨by omega, by omega⟩ HW.out HLL.out HO4.out).mono ?_
    rintro e w6 ⟨hA, hkk⟩
    have hx6 := (hkk.block Q (heap_lt HX.out) (.inr fun cs' t' fz' hx' => by
     have h := HX.out
     rw [h] at hx'
     simp only [Option.some.injEq, Obj.cells.injEq] at hx'
     rw [← hx'.2.1]
     exact act_notLog)).trans HX.out
    have HX := hide hx6
    have HG := hide (HG.out.keptW hkk hbs HW.out); have HV := hide (HV.out.keptW hkk hbs HW.out)
    have HW := hide (Nat.le_trans HW.out hkk.size)
    clear hkk hwell c8 HD HL
    rw [hF] at hA
    rcases hA with ⟨h9, he, hd, hl⟩ | ⟨h9, he, hd, hl⟩
    ·have eF : errno (F : Nat) = errV F := (if_neg h9).symm
     rw [eF] at he
     subst he
     have HD := hide hd; have HL := hide hl
     have gF0 : ((F : Int) == 0) = false := beq_eq_false_iff_ne.2 (by omega)
     have HF := hide hF; have H9 := hide h9
     clear hd hl eF hx6 hF h9
     go_wp2_with fail
     refine (sameV_any F w6).mono ?_
     rintro e w7 ⟨rfl, rfl⟩
     go_wp2_with fail
     go_roundw
     case rel => exact ⟨k + 1, en, L, E, gd, wd, by omega, by go_num, rfl, rfl, HW, HLL, HD, HL, HI, HG, HV, HGW⟩
     case measure => simp [intOf]; omega
    ·subst h9
     have HI2 := HI
     obtain ⟨ht, hi2⟩ := HI.out.added hin hF
     rw [ht] at he hl
     rw [if_pos rfl] at hl
     subst he
     have e0 : okV true = errV 0 := rfl
     rw [e0]
     have hl' : LogM w6 L B (fr : Nat) (mn : Nat) first ((en + os.length + 1 : Nat) : Int) := by
      rw [List.length_map] at hl
      exact hl
     rw [List.length_map] at hi2
     have HD := hide hd; have HL := hide hl'; have HI := hide hi2; have HF := hide hF
     have c8 := actCell hx6
     have hQ := heap_lt hx6
     have hwd : wd.length ≤ 1000 := by
      have h1 := says_few2 first fr mn (cont E)
      have h2 := HI2.out.ds
      rw [h2] at h1
      unfold opsD at h1
      rw [List.length_map] at h1
      omega
     clear hd hl hl' ht e0 hi2 hF hx6
     go_wp2_with fail
     refine (sameV_any 0 w6).mono ?_
     rintro e w7 ⟨rfl, rfl⟩
     go_upto_region 43 with fail
     go_cut [223] from 157 to 223 (fun v wc => v = .bool true ∧ wc = w7)
     case first =>
      go_wp2_with fail
      go_meet
      case rel => exact ⟨rfl, rfl⟩
     case rest =>
      obtain ⟨rfl, rfl⟩ := hcut
      go_wp2_with fail
      refine region_inv (by kernel_rfl) (by kernel_rfl) (fun Ls a' w' => ∃ (c : Nat → Value) (fl : Bool), a' = (⟨#[sl0, (.int .i64 (fr : Int)), (.int .i64 (mn : Int)), (.int .i64 (first : Int)), (.slice (some ⟨b, off, none⟩) N acap), sl5, sl6, sl7, sl8, sl9, u10, sl11, sl12, (.pointer (some ⟨B, 0, none⟩)), u14, sl15, (.pointer (some ⟨L, 0, none⟩)), (.slice go_ gd.length gc), sl18, sl19, sl20, sl21, c 6, (.int .i64 (en : Int)), (.int .i64 (k : Int)), (.pointer (some ⟨Q, 0, none⟩)), (.int .i64 (0 : Int)), sl27, sl28, sl29, sl30, sl31, sl32, sl33, sl34, sl35, sl36, sl37, sl38, sl39, sl40, sl41, sl42, sl43, sl44, sl45, sl46, sl47, sl48, sl49, sl50, sl51, sl52, sl53, sl54, sl55, sl56, sl57, sl58, sl59, sl60, sl61, sl62, sl63, sl64, sl65, sl66, sl67, sl68, sl69, sl70, sl71, sl72, sl73, sl74, sl75, sl76, sl77, sl78, sl79, sl80, sl81, sl82, sl83, sl84, sl85, sl86, sl87, sl88, sl89, sl90, sl91, sl92, sl93, sl94, sl95, sl96, sl97, sl98, sl99, sl100, sl101, sl102, sl103, sl104, sl105, sl106, sl107, sl108, sl109, sl110, sl111, sl112, sl113, sl114, sl115, sl116, sl117, sl118, sl119, sl120, sl121, sl122, sl123, sl124, sl125, sl126, sl127, sl128, sl129, sl130, sl131, sl132, sl133, sl134, sl135, sl136, sl137, sl138, sl139, sl140, sl141, sl142, sl143, sl144, sl145, sl146, sl147, sl148, sl149, sl150, sl151, sl152, sl153, sl154, sl155, sl156, u157, u158, u159, u160, u161, u162, u163, u164, u165, u166, u167, u168, u169, u170, u171, u172, u173, u174, u175, u176, u177, u178, u179, u180, u181, u182, u183, u184, u185, u186, u187, u188, u189, u190, u191, u192, u193, u194, u195, u196, u197, u198, u199, u200, u201, u202, u203, u204, u205, u206, u207, u208, u209, u210, u211, u212, u213, u214, u215, u216, u217, u218, u219, u220, u221, u222, (.bool true), c 0, c 1, c 2, c 3, c 4, c 5, u230, u231, u232, u233, u234, u235, u236], []⟩ : Act) ∧ Ls.getD 5 false = fl ∧ (Ls.getD 6 false = false → c 6 = (.slice wo wd.length wq)) ∧ FS rowE (fun i => List.getD [some (.slice wo wd.length wq), none, some (.pointer (some ⟨Q, 8, none⟩)), some (.slice xo os.length xc), none, none, none] i none) (rowT wc.heap.size wd.length (wd.map (·.1)) (.slice xo os.length xc) fl) wc Ls c w') ⟨fun i => List.getD [u224, u225, u226, u227, u228, u229, (.slice wo wd.length wq)] i undef, false, rfl, by simp [Array.getD], fun _ => rfl, FS.start _ _ _⟩ ?_ ?_
      ·rintro Ls a' w' i o ⟨c, fl, rfl, hbf, h6c, R⟩ ho hn hdep K hK
       have hi : i < 7 := (Array.getElem?_eq_some_iff.1 ho).1
       have hst := rowTStays wc.heap.size wd.length (wd.map (·.1)) (.slice xo os.length xc) fl
       rcases (by omega : i = 0 ∨ i = 1 ∨ i = 2 ∨ i = 3 ∨ i = 4 ∨ i = 5 ∨ i = 6) with rfl | rfl | rfl | rfl | rfl | rfl | rfl
       ·obtain rfl := Option.some.inj ho
        have hl6 : Ls.getD 6 false = false := by
         cases h : Ls.getD 6 false with
         | false => rfl
         | true => exact absurd (R.closed 1 (R.closed 5 (R.closed 6 h 5 (by simp [rowE])) 1 (by simp [rowE])) 0 (by simp [rowE])) (listed_not hn)
        have e6 := h6c hl6
        have R' := R.made hst hn (fun j hj => absurd hj (by simp [rowE])) (Below.refl _ _) (v := (.slice wo wd.length wq)) (fun u h => Option.some.inj h) (rowT_p (by decide) (by decide) (by decide) (by decide))
        clear R
        rw [e6]
        go_simp
        exact hK.out _ _ ⟨_, fl, by simp [upd, e6], by rw [getD_set_ne false (by decide)]; exact hbf, fun h => by rw [upd_ne _ _ (by decide)]; exact h6c (by rwa [getD_set_ne false (by decide)] at h), R'⟩
       ·obtain rfl := Option.some.inj ho
        obtain ⟨e0, o, kk, w2, hr, R'⟩ := rowT_copy (v := (.slice wo wd.length wq)) rfl rfl R rfl hn (hdep ⟨0, .data⟩ (by simp) rfl) (HV.out.later R.below).1 HV.out.ones hwd
        clear R
        refine step_append_run rfl (.const (.slice none 0 0)) (.tmp 224) 33 33 rfl _ _ rfl e0 _ _ hr ?_
        try simp only [Act.put, List.setIfInBounds_toArray, List.set_cons_zero, List.set_cons_succ]
        exact hK.out _ _ ⟨_, fl, by simp [upd], by rw [getD_set_ne false (by decide)]; exact hbf, fun h => by rw [upd_ne _ _ (by decide)]; exact h6c (by rwa [getD_set_ne false (by decide)] at h), R'⟩
       ·obtain rfl := Option.some.inj ho
        have R' := R.made hst hn (fun j hj => absurd hj (by simp [rowE])) (Below.refl _ _) (v := (.pointer (some ⟨Q, 8, none⟩))) (fun u h => Option.some.inj h) (rowT_p (by decide) (by decide) (by decide) (by decide))
        clear R
        go_simp
        exact hK.out _ _ ⟨_, fl, by simp [upd], by rw [getD_set_ne false (by decide)]; exact hbf, fun h => by rw [upd_ne _ _ (by decide)]; exact h6c (by rwa [getD_set_ne false (by decide)] at h), R'⟩
       ·obtain rfl := Option.some.inj ho
        have q0 := (R.below.cell (p := ⟨Q, 8, none⟩) hQ).trans c8
        have e2 : c 2 = (.pointer (some ⟨Q, 8, none⟩)) := R.plain 2 _ (hdep ⟨2, .data⟩ (by simp) rfl) rfl
        have R' := R.made hst hn (fun j hj => by simp [rowE] at hj; subst hj; exact hdep ⟨_, .data⟩ (by simp) rfl) (Below.refl _ _) (v := (.slice xo os.length xc)) (fun u h => Option.some.inj h) (rowT_p (by decide) (by decide) (by decide) (by decide))
        clear R
        rw [e2]
        go_simp
        exact hK.out _ _ ⟨_, fl, by simp [upd, e2], by rw [getD_set_ne false (by decide)]; exact hbf, fun h => by rw [upd_ne _ _ (by decide)]; exact h6c (by rwa [getD_set_ne false (by decide)] at h), R'⟩
       ·obtain rfl := Option.some.inj ho
        have e3 : c 3 = (.slice xo os.length xc) := R.plain 3 _ (hdep ⟨3, .data⟩ (by simp) rfl) rfl
        have hb6 := alloc_below w' (.cells #[(.slice xo os.length xc)] 47)
        have R' := R.made hst hn (fun j hj => by simp [rowE] at hj; subst hj; exact hdep ⟨_, .data⟩ (by simp) rfl) hb6 (v := .slice (some ⟨w'.heap.size, 0, none⟩) 1 1) (fun u h => by cases h) ⟨fun e => absurd e (by decide), fun _ _ => ⟨w'.heap.size, upd_self .., (by rw [World.cell?_alloc_new]; rfl), by simp⟩, fun e => absurd e (by decide), fun e => absurd e (by decide)⟩
        clear R hb6
        rw [e3]
        go_simp
        exact hK.out _ _ ⟨_, fl, by simp [upd, e3], by rw [getD_set_ne false (by decide)]; exact hbf, fun h => by rw [upd_ne _ _ (by decide)]; exact h6c (by rwa [getD_set_ne false (by decide)] at h), R'⟩
       ·obtain rfl := Option.some.inj ho
        have hb0 : fl = false := by
         cases fl with
         | false => rfl
         | true => exact absurd hbf (listed_not hn)
        subst hb0
        obtain ⟨o1, k1, BB, o', k', w2, e1, e6, hr, R'⟩ := rowT_put rfl R rfl hn (hdep ⟨1, .data⟩ (by simp) rfl) (hdep ⟨4, .data⟩ (by simp) rfl) rfl hwd
        clear R
        refine step_append_run rfl (.tmp 225) (.tmp 228) 33 33 rfl _ _ e1 e6 _ _ hr ?_
        try simp only [Act.put, List.setIfInBounds_toArray, List.set_cons_zero, List.set_cons_succ]
        exact hK.out _ _ ⟨_, true, by simp [upd], by first | exact listed_new hn | simp [hn], fun h => by rw [upd_ne _ _ (by decide)]; exact h6c (by rwa [getD_set_ne false (by decide)] at h), R'⟩
       ·obtain rfl := Option.some.inj ho
        have R' := R.made hst hn (fun j hj => by simp [rowE] at hj; subst hj; exact hdep ⟨_, .data⟩ (by simp) rfl) (Below.refl _ _) (v := c 5) (fun u h => by cases h) ⟨fun e => absurd e (by decide), fun e => absurd e (by decide), fun e => absurd e (by decide), fun _ => show upd c 6 (c 5) 6 = upd c 6 (c 5) 5 by rw [upd_self, upd_ne _ _ (by decide)]⟩
        clear R
        go_simp
        exact hK.out _ _ ⟨_, fl, by simp [upd], by rw [getD_set_ne false (by decide)]; exact hbf, fun h => (by rw [listed_new hn] at h; cases h), R'⟩
      rintro Ls a' w2 ⟨c, fl, rfl, hbf, -, R⟩ hall
      obtain ⟨o8, k8, e8, hown⟩ := rowT_fin R (fun i hi => hall i hi)
      have hb2 := R.below
      clear R hall hbf
      rw [e8]
      have HV3 := hide (HV.out.snoc HOS.out hb2 hown)
      have HW3 := hide (Nat.le_trans HW.out hb2.size); have HD3 := hide (HD.out.later hb2); have HL3 := hide (HL.out.later hb2)
      have c8' := (hb2.cell (p := ⟨Q, 8, none⟩) hQ).trans c8
      have HI3 : Hid (LogI (addD first fr en mn (os.map (·.o)) E).1 m fr mn first (en + os.length + 1) (opsD (wd ++ [(.slice xo os.length xc, os)]))) := hide (by rw [opsD_snocU]; exact HI.out)
      clear hb2 hown HV HG HW HD HL HI c8
      go_wp2_with fail
      go_roundw
      case rel => exact ⟨k + 1, en + os.length + 1, L, _, _, _, by omega, by go_num, rfl, by go_num, HW3, HLL, HD3, HL3, HI3, HV3, HV3, hide rfl⟩
      case measure => simp [intOf]; omega
   ·have HI2 := HI
    have q2 : (kd.toList == [97, 100, 100]) = false := beq_eq_false_iff_ne.2 q1
    have q3 : (kd.toList != [97, 100, 100]) = true := by rw [bne_iff_ne]; exact q1
    clear hb4 hbx
    go_wp2_with fail
    clear d0 d1 d2 d3 d4 d5 d6 d7 d8
    generalize w3.alloc (.cells #[.string kd, .int .i64 a, .string ps, .int .u64 kk, .int .i64 okd, .string name, .int .i64 on, .slice vo vs.length vc, .slice xo os.length xc] 49) = w4 at HX HW HD HL HG HV HO4 ⊢
    obtain ⟨kw, hwell, hkw⟩ := HI.out.well
    refine (logOpen_any w4 bs B E m fr mn first HD.out hwell.len hm hin h1 ⟨by omega, by omega⟩ HI.out.free.1).mono ?_
    rintro e w5 ⟨L2, gv2, gd2, rfl, hL2, hgd2, hgo2, hl2, hb5⟩
    rw [HI.out.e] at hl2
    rw [HI.out.ds] at hgo2
    have HG2 := hide (ListU.of hgd2 (HV.out.2.2.trans (hb5.mono HV.out.2.2.size)))
    have HLL2 := hide (Nat.le_trans HW.out hL2)
    have HW := hide (Nat.le_trans HW.out hb5.size); have HD := hide (HD.out.later hb5); have HL2 := hide hl2; have HV := hide (HV.out.later hb5)
    have HGW2 : Hid (opsD gd2 = opsD wd) := hide hgo2
    clear hL2 hgd2 hgo2 hl2 hb5 hwell HG HL HLL HGW HX HO4 HI2
    go_wp2_with fail
    go_roundw
    case rel => exact ⟨k + 1, en, L2, E, gd2, wd, by omega, by go_num, rfl, rfl, HW, HLL2, HD, HL2, HI, HG2, HV, HGW2⟩
    case measure => simp [intOf]; omega
  ·obtain rfl : k = N := by omega
   have HBE := hide HV.out.2.2
   clear HW HD HL HG HV HI HLL HGW
   go_wp2
   go_ret
   exact ⟨rfl, HBE.out⟩

end Go.Proofs.Ytlkenhfhnpohhaa
