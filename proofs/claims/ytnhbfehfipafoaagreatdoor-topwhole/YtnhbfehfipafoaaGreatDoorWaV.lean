/- A store in memory: what it has; its log is opened. -/
import Derived.Test.YtnhbfehfipafoaaGreatDoorBiE
import Derived.Test.YtnhbfehfipafoaaGreatDoorSrG
import Derived.Test.YtnhbfehfipafoaaGreatDoorDetRg

namespace Go.Proofs.YtnhbfehfipafoaaGreatDoor
open Go.RowKit

def StoB (W : World) (S B : Nat) (h : Hd) (u lp : Value) : Prop :=
 W.heap[S]? = some (.cells #[.pointer (some ⟨B, 0, none⟩), .int .i64 (h.pl : Int), .int .u32 h.age, .int .u32 h.first, .int .u32 h.long, u, lp] 96 (0, 0))

theorem StoB.later {W W' : World} {S B : Nat} {h : Hd} {u lp : Value} (x : StoB W S B h u lp) (hb : Below W.heap.size W W') : StoB W' S B h u lp := (hb.block _ (heap_lt x)).trans x

theorem StoB.cells {W : World} {S B : Nat} {h : Hd} {u lp : Value} (x : StoB W S B h u lp) :
  W.cell? ⟨S, 0, none⟩ = some (.pointer (some ⟨B, 0, none⟩)) ∧ W.cell? ⟨S, 1, none⟩ = some (.int .i64 (h.pl : Int)) ∧ W.cell? ⟨S, 2, none⟩ = some (.int .u32 h.age) ∧ W.cell? ⟨S, 3, none⟩ = some (.int .u32 h.first) ∧
  W.cell? ⟨S, 4, none⟩ = some (.int .u32 h.long) ∧ W.cell? ⟨S, 5, none⟩ = some u ∧ W.cell? ⟨S, 6, none⟩ = some lp ∧ ∀ k, W.frozen? ⟨S, k, none⟩ = false := by
 refine ⟨?_, ?_, ?_, ?_, ?_, ?_, ?_, fun k => by simp [World.frozen?, show W.heap[S]? = _ from x]⟩
 all_goals rw [cell_of_row W S _ _ _ _ x]; rfl

theorem StoB.new (W : World) (B : Nat) (h : Hd) (u lp : Value) : StoB (W.alloc (.cells #[.pointer (some ⟨B, 0, none⟩), .int .i64 (h.pl : Int), .int .u32 h.age, .int .u32 h.first, .int .u32 h.long, u, lp] 96)) W.heap.size B h u lp := heap_alloc_new W _

theorem StoB.setNow {W : World} {S B : Nat} {h : Hd} {u lp : Value} (x : StoB W S B h u lp) (v : Value) : StoB (W.setCell ⟨S, 5, none⟩ v) S B h v lp := heap_setCell_same W S 5 _ _ v x

theorem StoB.setLog {W : World} {S B : Nat} {h : Hd} {u lp : Value} (x : StoB W S B h u lp) (v : Value) : StoB (W.setCell ⟨S, 6, none⟩ v) S B h u v := heap_setCell_same W S 6 _ _ v x

theorem StoB.aside {W : World} {S B : Nat} {h : Hd} {u lp : Value} (x : StoB W S B h u lp) {p : Addr} (hp : p.block ≠ S) (v : Value) : StoB (W.setCell p v) S B h u lp := (heap_setCell_other _ _ _ _ (fun e => hp e.symm)).trans x

theorem sto_type : ¬ diskT 96 := by unfold diskT; decide
theorem sto_typeL : ¬ logT 96 := by unfold logT diskT; decide

theorem StoB.kept {W W' : World} {base : Own} {S B : Nat} {h : Hd} {u lp : Value} (x : StoB W S B h u lp) (hk : Kept base W W') : StoB W' S B h u lp :=
 (hk.block S (heap_lt x) (.inr fun cs t fz hx => by
  rw [show W.heap[S]? = _ from x] at hx
  simp only [Option.some.injEq, Obj.cells.injEq] at hx
  rw [← hx.2.1]
  exact sto_type)).trans x

theorem StoB.keptW {W W' : World} {base : Own} {S B : Nat} {h : Hd} {u lp : Value} (x : StoB W S B h u lp) (hk : KeptW base W W') : StoB W' S B h u lp :=
 (hk.block S (heap_lt x) (.inr fun cs t fz hx => by
  rw [show W.heap[S]? = _ from x] at hx
  simp only [Option.some.injEq, Obj.cells.injEq] at hx
  rw [← hx.2.1]
  exact sto_typeL)).trans x

theorem DeedsT.setSto {W : World} {base : Nat} {v : Value} {dss : List (Value × List OpC)} (d : DeedsT base W v dss) {S B : Nat} {h : Hd} {u lp : Value} (x : StoB W S B h u lp) (k : Nat) (z : Value) : DeedsT base (W.setCell ⟨S, k, none⟩ z) v dss :=
 d.keep fun b cs t fz hb ht => heap_setCell_other _ _ _ _ (fun e => by
  have e : b = S := e
  subst e
  rw [show W.heap[b]? = _ from x] at hb
  simp only [Option.some.injEq, Obj.cells.injEq] at hb
  rw [← hb.2.1] at ht
  exact absurd ht (by unfold listT; decide))

theorem DeedsT.zero {W : World} {base : Nat} {v : Value} {dss : List (Value × List OpC)} (d : DeedsT base W v dss) : DeedsT 0 W v dss := by
 refine ⟨⟨d.1.1, ?_⟩, d.2⟩
 rcases d.1.2 with hn | ⟨g, cap, cur, e, -, rest⟩
 ·exact .inl hn
 ·exact .inr ⟨g, cap, cur, e, Nat.zero_le _, rest⟩

theorem LogM.aside {W : World} {L B : Nat} {fr many first en : Int} (h : LogM W L B fr many first en) {S : Nat} (hS : S ≠ L) (k : Nat) (v : Value) : LogM (W.setCell ⟨S, k, none⟩ v) L B fr many first en := (heap_setCell_other _ _ _ _ (fun e => hS e.symm)).trans h

set_option linter.unusedSimpArgs false in
set_option maxRecDepth 100000 in
set_option maxHeartbeats 1600000 in
theorem sroom_any (w : World) (S B L : Nat) (h : Hd) (u : Value) (fr first : Int) (mn en : Nat) (x : StoB w S B h u (.pointer (some ⟨L, 0, none⟩))) (hl : LogM w L B fr mn first en) (he : en ≤ mn) (hm : mn ≤ 1000) :
  Calls Tryz.prog 19 #[.pointer (some ⟨S, 0, none⟩)] w fun e w' => e = .returned (.int .i64 ((mn - en : Nat) : Int)) ∧ Below w.heap.size w w' := by
 have HR := hide (room_any w L B fr first mn en hl he hm)
 obtain ⟨-, -, -, -, -, -, c6, -⟩ := x.cells
 clear x hl
 obtain ⟨r, hr⟩ : ∃ r, mn - en = r := ⟨_, rfl⟩
 rw [hr] at HR ⊢
 clear hr
 go_enter Tryz.func19, Tryz.ntmps19
 go_wp2_with fail
 refine HR.out.mono ?_
 rintro e w1 ⟨rfl, hb⟩
 have HB := hide hb
 clear hb c6 HR
 go_wp2
 go_ret
 exact ⟨rfl, HB.out⟩

set_option linter.unusedSimpArgs false in
set_option maxRecDepth 100000 in
set_option maxHeartbeats 1600000 in
theorem scat_any (w : World) (S B : Nat) (h : Hd) (o : Option Addr) (n k : Nat) (lp : Value) (x : StoB w S B h (.slice o n k) lp) :
  Calls Tryz.prog 21 #[.pointer (some ⟨S, 0, none⟩)] w fun e w' => e = .returned (.agg #[.slice o n k]) ∧ Below w.heap.size w w' := by
 have hb1 := alloc_below w (.cells #[.slice none 0 0] 53)
 have hx1 := One.new w (.slice none 0 0) 53
 obtain ⟨-, -, -, -, -, c5, -⟩ := (x.later hb1).cells
 obtain ⟨z0, z1, -⟩ := hx1
 obtain ⟨y0, -, -⟩ := One.new w (.slice o n k) 53
 have HB := hide (alloc_below w (.cells #[.slice o n k] 53))
 clear hb1 x
 go_enter Tryz.func21, Tryz.ntmps21
 go_wp2
 exact bodyPost_ret (v := .agg #[.slice o n k]) (by simp [results, Tryz.results21, go_sem, y0]) rfl ⟨rfl, HB.out⟩

def OlP (w : World) (S B : Nat) (base : Own) (D : Dsk) (m : Nat) (h : Hd) (u : Value) (e : Ending) (w' : World) : Prop :=
 ∃ L dv dss, e = .returned (.tuple #[dv, .nilIface]) ∧ w.heap.size ≤ L ∧ DeedsT 0 w' dv dss ∧ dss.map (fun p => p.2.map (·.o)) = (saysL h.first 82 (m - 82) (cont D)).ds ∧ LogM w' L B 82 ((m - 82 : Nat) : Int) h.first (saysL h.first 82 (m - 82) (cont D)).e ∧
  StoB w' S B h u (.pointer (some ⟨L, 0, none⟩)) ∧ DiskO w' base B D ∧ ButB w.heap.size S w w'

set_option linter.unusedSimpArgs false in
set_option maxRecDepth 100000 in
set_option maxHeartbeats 1600000 in
theorem openLog_any (w : World) (base : Own) (S B : Nat) (D : Dsk) (m : Nat) (h : Hd) (u lp : Value) (x : StoB w S B h u lp) (hd : DiskO w base B D) (hdn : D.down = false) (hl : D.secs.length = m) (hm : m ≤ 200) (h86 : 86 ≤ m) (ok : h.ok) :
  Calls Tryz.prog 53 #[.pointer (some ⟨S, 0, none⟩)] w fun e w' => OlP w S B base D m h u e w' := by
 have X := hide x; have HD := hide hd; have HDN := hide hdn; have HL := hide hl
 have HF : Hid (1 ≤ h.first ∧ h.first ≤ 8589934592) := by have := ok.first; exact ⟨by omega, by omega⟩
 have gf : IntKind.i64.wrap h.first = h.first := by have := ok.first; exact wrap_small (by omega) (by omega)
 have HSL : Hid (S < w.heap.size) := heap_lt (show w.heap[S]? = _ from x)
 obtain ⟨c0, -, -, c3, -⟩ := x.cells
 clear x hd hdn hl ok
 go_enter Tryz.func53, Tryz.ntmps53
 go_wp2_with fail
 refine wp_region_held_drew (S := (fun w' => w'.cell? ⟨S, 0, none⟩ = some (.pointer (some ⟨B, 0, none⟩)) ∧ w'.cell? ⟨S, 3, none⟩ = some (.int .u32 h.first))) (by kernel_rfl) (by (try dsimp only); go_keep) (fun hHeld => ?_)
 refine held_run (v := ?_) 0 8 rfl rfl (by kernel_rfl) (by kernel_rfl) (by kernel_rfl) (fun _ _ _ h => h) (by rfl) ?_ (by assumption) ?_
 rotate_left
 ·(intro w hSw; (try dsimp only at hSw); go_simp; with_reducible rfl)
 simp only [Act.put, List.setIfInBounds_toArray, List.set_cons_zero, List.set_cons_succ]
 refine held_run (v := ?_) 1 9 rfl rfl (by kernel_rfl) (by kernel_rfl) (by kernel_rfl) (fun _ _ _ h => h) (by rfl) ?_ (by assumption) ?_
 rotate_left
 ·(intro w hSw; (try dsimp only at hSw); go_simp; with_reducible rfl)
 simp only [Act.put, List.setIfInBounds_toArray, List.set_cons_zero, List.set_cons_succ]
 refine held_run (v := ?_) 2 10 rfl rfl (by kernel_rfl) (by kernel_rfl) (by kernel_rfl) (fun _ _ _ h => h) (by rfl) ?_ (by assumption) ?_
 rotate_left
 ·(intro w hSw; (try dsimp only at hSw); go_simp; with_reducible rfl)
 simp only [Act.put, List.setIfInBounds_toArray, List.set_cons_zero, List.set_cons_succ]
 refine held_run (v := ?_) 3 11 rfl rfl (by kernel_rfl) (by kernel_rfl) (by kernel_rfl) (fun _ _ _ h => h) (by rfl) ?_ (by assumption) ?_
 rotate_left
 ·(intro w hSw; (try dsimp only at hSw); go_simp; with_reducible rfl)
 simp only [Act.put, List.setIfInBounds_toArray, List.set_cons_zero, List.set_cons_succ]
 refine held_run (v := ?_) 4 12 rfl rfl (by kernel_rfl) (by kernel_rfl) (by kernel_rfl) (fun _ _ _ h => h) (by rfl) ?_ (by assumption) ?_
 rotate_left
 ·(intro w hSw; (try dsimp only at hSw); go_simp; with_reducible rfl)
 simp only [Act.put, List.setIfInBounds_toArray, List.set_cons_zero, List.set_cons_succ]
 refine held_run (v := ?_) 5 13 rfl rfl (by kernel_rfl) (by kernel_rfl) (by kernel_rfl) (fun _ _ _ h => h) (by rfl) ?_ (by assumption) ?_
 rotate_left
 ·(intro w hSw; (try dsimp only at hSw); go_simp; with_reducible rfl)
 simp only [Act.put, List.setIfInBounds_toArray, List.set_cons_zero, List.set_cons_succ]
 refine held_run (v := ?_) 6 14 rfl rfl (by kernel_rfl) (by kernel_rfl) (by kernel_rfl) (fun _ _ _ h => h) (by rfl) ?_ (by assumption) ?_
 rotate_left
 ·(intro w hSw; (try dsimp only at hSw); go_simp; with_reducible rfl)
 simp only [Act.put, List.setIfInBounds_toArray, List.set_cons_zero, List.set_cons_succ]
 refine held_run (v := ?_) 7 15 rfl rfl (by kernel_rfl) (by kernel_rfl) (by kernel_rfl) (fun _ _ _ h => h) (by rfl) ?_ (by assumption) ?_
 rotate_left
 ·(intro w hSw; (try dsimp only at hSw); go_simp; with_reducible rfl)
 simp only [Act.put, List.setIfInBounds_toArray, List.set_cons_zero, List.set_cons_succ]
 refine held_run (v := ?_) 9 17 rfl rfl (by kernel_rfl) (by kernel_rfl) (by kernel_rfl) (fun _ _ _ h => h) (by rfl) ?_ (by assumption) ?_
 rotate_left
 ·(intro w hSw; (try dsimp only at hSw); go_simp; with_reducible rfl)
 simp only [Act.put, List.setIfInBounds_toArray, List.set_cons_zero, List.set_cons_succ]
 refine held_run (v := ?_) 10 18 rfl rfl (by kernel_rfl) (by kernel_rfl) (by kernel_rfl) (fun _ _ _ h => h) (by rfl) ?_ (by assumption) ?_
 rotate_left
 ·(intro w hSw; (try dsimp only at hSw); go_simp; with_reducible rfl)
 simp only [Act.put, List.setIfInBounds_toArray, List.set_cons_zero, List.set_cons_succ]
 refine held_run (v := ?_) 11 19 rfl rfl (by kernel_rfl) (by kernel_rfl) (by kernel_rfl) (fun _ _ _ h => h) (by rfl) ?_ (by assumption) ?_
 rotate_left
 ·(intro w hSw; (try dsimp only at hSw); go_simp; with_reducible rfl)
 simp only [Act.put, List.setIfInBounds_toArray, List.set_cons_zero, List.set_cons_succ]
 refine held_run (v := ?_) 12 20 rfl rfl (by kernel_rfl) (by kernel_rfl) (by kernel_rfl) (fun _ _ _ h => h) (by rfl) ?_ (by assumption) ?_
 rotate_left
 ·(intro w hSw; (try dsimp only at hSw); go_simp; with_reducible rfl)
 simp only [Act.put, List.setIfInBounds_toArray, List.set_cons_zero, List.set_cons_succ]
 refine held_run (v := ?_) 13 21 rfl rfl (by kernel_rfl) (by kernel_rfl) (by kernel_rfl) (fun _ _ _ h => h) (by rfl) ?_ (by assumption) ?_
 rotate_left
 ·(intro w hSw; (try dsimp only at hSw); go_simp; with_reducible rfl)
 simp only [Act.put, List.setIfInBounds_toArray, List.set_cons_zero, List.set_cons_succ]
 refine held_run (v := ?_) 14 22 rfl rfl (by kernel_rfl) (by kernel_rfl) (by kernel_rfl) (fun _ _ _ h => h) (by rfl) ?_ (by assumption) ?_
 rotate_left
 ·(intro w hSw; (try dsimp only at hSw); go_simp; with_reducible rfl)
 simp only [Act.put, List.setIfInBounds_toArray, List.set_cons_zero, List.set_cons_succ]
 refine wpAnyH_ready (rs := [8]) (by kernel_rfl) (by simp) (AllReadyH.cons (o := _) rfl (fun K hK => ?_) AllReadyH.nil)
 go_simp
 (refine (logSec_any _ base B D m (HD.out.later (Below.refl _ _).drew) HL.out hm (by omega)).mono ?_; rintro e w3 ⟨rfl, hb3'⟩; have hb3 : Below w.heap.size w w3 := (Below.refl _ _).drew.trans (hb3'.mono (by simp)); clear hb3'; obtain ⟨d0, -, -, d3, -⟩ := StoB.cells (X.out.later hb3))
 go_wp2_with fail
 refine hK.out _ _ (by (try dsimp only); go_keep) (fun hHeld => ?_)
 clear hK K
 try simp only [Act.put, List.setIfInBounds_toArray, List.set_cons_zero, List.set_cons_succ]
 refine wpAnyH_ready (rs := [15]) (by kernel_rfl) (by simp) (AllReadyH.cons (o := _) rfl (fun K hK => ?_) AllReadyH.nil)
 go_simp
 (refine (logOpen_any _ base B D m 82 (m - 82) h.first (HD.out.later hb3) HL.out hm (by omega) (by omega) HF.out HDN.out).mono ?_; rintro e w4 ⟨L, dv, dss, rfl, hL, hdt, hds, hlg, hb4'⟩; have hb4 : Below w.heap.size w w4 := hb3.trans (hb4'.mono hb3.size); obtain ⟨f0, -, -, f3, -⟩ := StoB.cells (X.out.later hb4))
 go_wp2_with fail
 refine hK.out _ _ (by (try dsimp only); go_keep) (fun hHeld => ?_)
 clear hK K
 try simp only [Act.put, List.setIfInBounds_toArray, List.set_cons_zero, List.set_cons_succ]
 refine held_run (v := ?_) 16 7 rfl rfl (by kernel_rfl) (by kernel_rfl) (by kernel_rfl) (fun _ _ _ h => h) (by rfl) ?_ (by assumption) ?_
 rotate_left
 ·(intro w hSw; (try dsimp only at hSw); go_simp; with_reducible rfl)
 simp only [Act.put, List.setIfInBounds_toArray, List.set_cons_zero, List.set_cons_succ]
 refine held_run (v := ?_) 17 24 rfl rfl (by kernel_rfl) (by kernel_rfl) (by kernel_rfl) (fun _ _ _ h => h) (by rfl) ?_ (by assumption) ?_
 rotate_left
 ·(intro w hSw; (try dsimp only at hSw); go_simp; with_reducible rfl)
 simp only [Act.put, List.setIfInBounds_toArray, List.set_cons_zero, List.set_cons_succ]
 refine held_run (v := ?_) 18 25 rfl rfl (by kernel_rfl) (by kernel_rfl) (by kernel_rfl) (fun _ _ _ h => h) (by rfl) ?_ (by assumption) ?_
 rotate_left
 ·(intro w hSw; (try dsimp only at hSw); go_simp; with_reducible rfl)
 simp only [Act.put, List.setIfInBounds_toArray, List.set_cons_zero, List.set_cons_succ]
 refine held_run (v := ?_) 19 26 rfl rfl (by kernel_rfl) (by kernel_rfl) (by kernel_rfl) (fun _ _ _ h => h) (by rfl) ?_ (by assumption) ?_
 rotate_left
 ·(intro w hSw; (try dsimp only at hSw); go_simp; with_reducible rfl)
 simp only [Act.put, List.setIfInBounds_toArray, List.set_cons_zero, List.set_cons_succ]
 refine held_run (v := ?_) 20 4 rfl rfl (by kernel_rfl) (by kernel_rfl) (by kernel_rfl) (fun _ _ _ h => h) (by rfl) ?_ (by assumption) ?_
 rotate_left
 ·(intro w hSw; (try dsimp only at hSw); go_simp; with_reducible rfl)
 simp only [Act.put, List.setIfInBounds_toArray, List.set_cons_zero, List.set_cons_succ]
 refine held_run (v := ?_) 21 5 rfl rfl (by kernel_rfl) (by kernel_rfl) (by kernel_rfl) (fun _ _ _ h => h) (by rfl) ?_ (by assumption) ?_
 rotate_left
 ·(intro w hSw; (try dsimp only at hSw); go_simp; with_reducible rfl)
 simp only [Act.put, List.setIfInBounds_toArray, List.set_cons_zero, List.set_cons_succ]
 refine held_run (v := ?_) 22 6 rfl rfl (by kernel_rfl) (by kernel_rfl) (by kernel_rfl) (fun _ _ _ h => h) (by rfl) ?_ (by assumption) ?_
 rotate_left
 ·(intro w hSw; (try dsimp only at hSw); go_simp; with_reducible rfl)
 simp only [Act.put, List.setIfInBounds_toArray, List.set_cons_zero, List.set_cons_succ]
 refine wpAnyH_done (by kernel_rfl) ?_ _
 have X4 := X.out.later hb4
 obtain ⟨-, -, -, -, -, -, g6, gz⟩ := X4.cells
 have g7 := gz 6
 have hne : S ≠ L := by have := HSL.out; have := hb3.size; omega
 have HFIN : Hid (OlP w S B base D m h u (.returned (.tuple #[dv, .nilIface])) (w4.setCell ⟨S, 6, none⟩ (.pointer (some ⟨L, 0, none⟩)))) :=
  ⟨L, dv, dss, rfl, Nat.le_trans hb3.size hL, (hdt.zero).setSto X4 6 _, hds, hlg.aside hne 6 _, X4.setLog _, (HD.out.later hb4).set sto_type X4 6 _, (ButB.of hb4).set 6 _⟩
 clear hL hdt hds hlg hb4' hb4 hb3 X4 gz X
 go_wp2
 go_ret2
 exact HFIN.out

end Go.Proofs.YtnhbfehfipafoaaGreatDoor

/- The region that copies a list of deeds and puts one behind it: what is known as it comes up. -/
namespace Go.Proofs.YtnhbfehfipafoaaGreatDoor
open Go.RowKit

set_option maxRecDepth 100000 in
theorem number_errno (n : Int) (w : World) : Calls Tryz.prog 41 #[errno n] w fun e w' => e = .returned (.int .i64 n) ∧ w' = w := by
 have ha : (Instr.typeAssert (.iface 80 (.int .i64 n)) 27 80 true).run Tryz.prog w = .ok (.tuple #[.int .i64 n, .bool true]) w := by kernel_rfl
 show Calls _ _ #[.iface 80 (.int .i64 n)] _ _
 go_enter Tryz.func41, Tryz.ntmps41
 go_wp2
 go_ret
 exact ⟨rfl, rfl⟩

end Go.Proofs.YtnhbfehfipafoaaGreatDoor

/- A deed goes in, as TopWal's walk sees it. -/
namespace Go.Proofs.YtnhbfehfipafoaaGreatDoor
open Go.RowKit

theorem opsN_one {w : World} {v : Value} {os : List OpC} (h : OpsN w v os) : v.oneCell' = true := by
 obtain ⟨ao, cap, rfl, -⟩ := h
 rfl

theorem WantT.ones {w W : World} {v : Value} {wd : List (Value × List OpC)} (h : WantT w W v wd) : ∀ x ∈ wd.map (·.1), x.oneCell' = true := fun x hx => by
 obtain ⟨p, hp, rfl⟩ := List.mem_map.1 hx
 exact opsN_one (h.2.1 p hp)

theorem WantT.snoc {w W W' : World} {base : Nat} {v v' x : Value} {os : List OpC} {wd : List (Value × List OpC)} (h : WantT w W v wd) (ho : OpsN w x os) (hb : Below W.heap.size W W') (hr : W'.ownsRow base 44 1 v' (wd.length + 1) (wd.map (·.1) ++ [x])) : WantT w W' v' (wd ++ [(x, os)]) :=
 ⟨by simpa using ownsLess hr (Nat.zero_le _), fun p hp => by
  rcases List.mem_append.1 hp with hp | hp
  ·exact h.2.1 p hp
  ·rw [List.mem_singleton] at hp
   subst hp
   exact ho, h.2.2.trans (hb.mono h.2.2.size)⟩

def fewW (m : Nat) (wd : List (Value × List OpC)) : Prop := wd.length ≤ m ∧ ∀ p ∈ wd, p.2.length ≤ 6 ∧ ∀ q ∈ p.2, q.o.v.length ≤ 10

theorem fewW.mono {m n : Nat} {wd : List (Value × List OpC)} (h : fewW m wd) (hn : m ≤ n) : fewW n wd := ⟨Nat.le_trans h.1 hn, h.2⟩

theorem fewW.snoc {m : Nat} {wd : List (Value × List OpC)} (h : fewW m wd) {x : Value} {os : List OpC} (hl : lightL os 6 = true) : fewW (m + 1) (wd ++ [(x, os)]) :=
 ⟨by simp [h.1], fun p hp => by
  rcases List.mem_append.1 hp with hp | hp
  ·exact h.2 p hp
  ·rw [List.mem_singleton] at hp
   subst hp
   have := lightL_ok hl
   exact ⟨this.1, fun q hq => (this.2 q hq).2⟩⟩

theorem DeedsN.at {w : World} {v : Value} {dl : List (Value × List OpC)} (h : DeedsN w v dl) {k : Nat} (hk : k < dl.length) : ∃ b off cap, v = .slice (some ⟨b, off, none⟩) dl.length cap ∧ b < w.heap.size ∧ w.cell? ⟨b, off + k, none⟩ = some dl[k].1 ∧ OpsN w dl[k].1 dl[k].2 := by
 obtain ⟨ao, cap, rfl, -, hh⟩ := h
 obtain ⟨b, off, rfl, hlt, hc⟩ := hh (by omega)
 obtain ⟨h1, h2⟩ := hc k dl[k] (List.getElem?_eq_getElem hk)
 exact ⟨b, off, cap, rfl, hlt, h1, h2⟩

end Go.Proofs.YtnhbfehfipafoaaGreatDoor
