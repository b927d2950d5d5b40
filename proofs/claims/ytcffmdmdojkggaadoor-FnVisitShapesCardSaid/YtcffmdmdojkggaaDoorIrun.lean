/- The program's Interpret. -/
import Derived.Test.YtcffmdmdojkggaaDoorIperf
import Derived.Test.YtcffmdmdojkggaaDoorRunGo
import Derived.Test.YtcffmdmdojkggaaDoorPokS
import Derived.Recover
import Derived.Tactics2
import Derived.Laws.Pointers
namespace Go.Proofs.YtcffmdmdojkggaaDoor
open Go.RowKit Go.Lib Go.Maps

theorem i_all (B rb : Nat) (pa : Option Addr) (pc : Nat) (PX : List LnL) (lim : Nat) (wb : World) (hp : ProgI B pa PX wb) (hlim : lim ≤ 1000) (N : Nat) : IEvalOk B rb pa pc PX lim wb N ∧ IPerfOk B rb pa pc PX lim wb N := by
  induction N using Nat.strongRecOn with
  | ind N ih =>
    have hP := i_perf_step B rb pa pc PX lim wb hp hlim N (fun m hm => (ih m hm).1)
    refine ⟨?_, hP⟩
    cases N with
    | zero => intro c k L vs i s r s' w eb ec mb mn D ta tc ov vv X hrun; exact (no_fuel hrun).elim
    | succ n => exact i_eval_step B rb pa pc PX lim wb hp hlim n (fun m hm => (ih m (by omega)).1) (fun m hm => (ih m (by omega)).2)

theorem ta_end (q : Int) (w : World) : (Instr.typeAssert (.iface 67 (.int .i64 q)) 20 67 true).run Tryd.prog w = .ok (.tuple #[.int .i64 q, .bool true]) w := by kernel_rfl
theorem ta_nil (w : World) : (Instr.typeAssert .nilIface 20 67 true).run Tryd.prog w = .ok (.tuple #[.int .i64 0, .bool false]) w := by kernel_rfl
set_option maxRecDepth 100000 in
/-- A run that ended early: its code is kept. -/
theorem i_catch (p : Addr) (rb : Nat) (q : Int) (x : Value) (w : World) (hp : w.cell? p = some (.pointer (some ⟨rb, 0, none⟩))) (hc : w.cell? ⟨rb, 5, none⟩ = some x) (hx : x.oneCell' = true) (hz : w.frozen? ⟨rb, 5, none⟩ = false) :
    CallsD Tryd.prog 35 #[.pointer (some p)] (.panicking (endP q)) w fun e u' w' =>
      e = .returned (.tuple #[]) ∧ u' = .panicking [{ v := .iface 67 (.int .i64 q), recovered := true }] ∧ w' = w.setCell ⟨rb, 5, none⟩ (.int .i64 q) := by
  refine callsD_of_wpS Tryd.func35 rfl fun c₀ cs hu => ?_
  apply wpS_seq
  apply wpS_region
  simp [wpOpsS, go_sem, recoverD, hu, endP, Tryd.ntmps35, Exit.thenS, ta_end]
  apply wpS_seq
  apply wpS_region
  simp [wpOpsS, go_sem, recoverD, hu, Exit.thenS]
  refine wpS_cond (t := true) (by simp [Act.eval, Array.replicate]) ?_
  simp only [if_true]
  apply wpS_region
  simp [wpOpsS, go_sem, hp, hc, hz, bodyPostS, results, Tryd.results35]
set_option maxRecDepth 100000 in
theorem i_idle (p : Addr) (w : World) :
    CallsD Tryd.prog 35 #[.pointer (some p)] .returning w fun e u' w' => e = .returned (.tuple #[]) ∧ u' = .returning ∧ w' = w := by
  refine callsD_of_wpS Tryd.func35 rfl fun c₀ cs hu => ?_
  apply wpS_seq
  apply wpS_region
  simp [wpOpsS, go_sem, recoverD, hu, Tryd.ntmps35, Exit.thenS, ta_nil]
  apply wpS_seq
  apply wpS_region
  simp [wpOpsS, go_sem, recoverD, hu, Exit.thenS]
  refine wpS_cond (t := false) (by simp [Act.eval, Array.replicate]) ?_
  simp only [Bool.false_eq_true, if_false]
  refine wpS_of_wp (wp_skip ?_)
  cases c₀
  simp_all [bodyPostS, results, Tryd.results35]

theorem main_res (t t' : Array Value) : results Tryd.f17 t = results Tryd.f17 t' := by simp [results, Tryd.results17]
theorem main_ret (t : Array Value) (w : World) : (results Tryd.f17 t).run Tryd.prog w = .ok (.tuple #[]) w := by simp [results, Tryd.results17]
/-- What performMain leaves. -/
def MainOk (B rb : Nat) (pv : Value) (lim : Int) (ov vv : Value) (X : List IvL) (w : World) (r : RunRes) (s' : RunS) (e : Ending) (w' : World) : Prop :=
  e = .returned (.tuple #[]) ∧ ∃ ov' vv' X', IAt 46 3 27 B rb w' pv lim s' (valR r) (codR r) ov' vv' X' ∧ Step rb (RI ov vv X) (RI ov' vv' X') w w'

set_option maxRecDepth 100000 in
set_option maxHeartbeats 4000000 in
theorem i_main (B rb : Nat) (pa : Option Addr) (pc : Nat) (PX : List LnL) (lim : Nat) (wb : World) (hp : ProgI B pa PX wb) (hlim : lim ≤ 1000) (r : RunRes) (s' : RunS) (hg : GoesTo (plL PX) lim r s') (w : World)
    (hS : IAt 46 3 27 B rb w (.slice pa PX.length pc) (lim : Int) ⟨[], []⟩ 0 0 (.slice none 0 0) (.slice none 0 0) []) (hB : Below B wb w) :
    Calls Tryd.prog 17 #[.pointer (some ⟨rb, 0, none⟩)] w (MainOk B rb (.slice pa PX.length pc) (lim : Int) (.slice none 0 0) (.slice none 0 0) [] w r s') := by
  obtain ⟨N, hN⟩ := hg
  have HS := Lib.hid hS
  have h0 := main_fun hp.ok
  have harg : argsZ (plL PX) ((0 : Nat) : Int) = [] := hp.ok.2.1.2.2.1
  have HB0 : Hid (Below w.heap.size w (w.alloc (.cells #[.pointer (some ⟨rb, 0, none⟩)] 66))) := Lib.hid ((Below.refl _ _).alloc (Nat.le_refl _) _)
  have HX0 := Lib.hid (heap_alloc_new w (.cells #[.pointer (some ⟨rb, 0, none⟩)] 66))
  have CALL : Hid (∀ W, Below w.heap.size w W → Calls Tryd.prog 36 #[.pointer (some ⟨rb, 0, none⟩), .int .i64 0, .slice none 0 0, .slice none 0 0] W (IOut (IPf r) B rb (.slice pa PX.length pc) (lim : Int) (.slice none 0 0) (.slice none 0 0) [] W s')) := Lib.hid (fun W (hb : Below w.heap.size w W) => (i_all B rb pa pc PX lim wb hp hlim N).2 [] 0 [] ⟨[], []⟩ r s' W none 0 none 0 (.slice none 0 0) (.slice none 0 0) [] hN (Nat.zero_le _) h0 (by rw [harg]; rfl) SmV.nil (Nat.zero_le _) (Nat.le_refl _) (HS.out.below hb) (hB.trans (hb.mono (by have := HS.out.lo; have := HS.out.lt; omega))) (World.ownsRow_nil _ _ _ _) (fun u hu => Ap.none) (.inl ⟨rfl, rfl⟩))
  have hf := run_fits _ _ _ _ _ _ _ _ _ hN
  have hmf : ∀ (fn : Fn) (first cap : Array Value) (w : World), (Instr.makeFunc fn first cap).run Tryd.prog w = .ok (.func fn first cap) w := fun _ _ _ _ => rfl
  clear hS hB hp hN h0 harg
  go_enter_defers Tryd.func17, Tryd.ntmps17
  go_upto_region 2 with fail
  have hQ : ∀ (R : Ending → World → Prop) (v : Value) (d : Option Nat) c (a : Act) w, bodyPostD Tryd.prog Tryd.f17 R (.panic c) (a.put d v) w → bodyPostD Tryd.prog Tryd.f17 R (.panic c) a w := fun R v d c a w h => by
    have hd : (a.put d v).defers = a.defers := by cases d <;> rfl
    have h' : Leaves Tryd.prog Tryd.f17 (a.put d v).tmps R (a.put d v).defers (.panicking c) w := h
    rw [hd] at h'
    exact leaves_tmps main_res _ _ _ _ _ h'
  refine E_start (S := fun w' => w'.cell? ⟨w.heap.size, 0, none⟩ = some (.pointer (some ⟨rb, 0, none⟩))) 6 (by kernel_rfl) ((blk HX0.out).1 0 _ rfl) (fun hHeld => ?_)
  refine E_take (i := 0) (oi := _) (v := ?_) rfl (by kernel_rfl) (fun c a w h => hQ _ _ _ c a w h) ?_ (by assumption) ?_
  rotate_left 1
  · first | (refine Or.inl ⟨by rfl, ?_⟩; intro w hSw; (try dsimp only at hSw); (try simp only [List.getElem_toArray, List.getElem_cons_zero, List.getElem_cons_succ]); go_simp; done) | (refine Or.inl ⟨by rfl, ?_⟩; intro w hSw; (try dsimp only at hSw); (try simp only [List.getElem_toArray, List.getElem_cons_zero, List.getElem_cons_succ]); go_simp; with_reducible rfl)
  try simp only [Act.put, List.setIfInBounds_toArray, List.set_cons_zero, List.set_cons_succ, List.getElem_toArray, List.getElem_cons_zero, List.getElem_cons_succ]
  refine E_take (i := 1) (oi := _) (v := ?_) rfl (by kernel_rfl) (fun c a w h => hQ _ _ _ c a w h) ?_ (by assumption) ?_
  rotate_left 1
  · first | (refine Or.inl ⟨by rfl, ?_⟩; intro w hSw; (try dsimp only at hSw); (try simp only [List.getElem_toArray, List.getElem_cons_zero, List.getElem_cons_succ]); go_simp; done) | (refine Or.inl ⟨by rfl, ?_⟩; intro w hSw; (try dsimp only at hSw); (try simp only [List.getElem_toArray, List.getElem_cons_zero, List.getElem_cons_succ]); go_simp; with_reducible rfl)
  try simp only [Act.put, List.setIfInBounds_toArray, List.set_cons_zero, List.set_cons_succ, List.getElem_toArray, List.getElem_cons_zero, List.getElem_cons_succ]
  refine E_ready (rs := [2]) (by kernel_rfl) (by decide) ?_
  refine AllE.cons (o := _) rfl (fun K hK => ?_) AllE.nil
  try simp only [List.getElem_toArray, List.getElem_cons_zero, List.getElem_cons_succ]
  go_simp
  refine (CALL.out _ HB0.out.drew).mono ?_
  rintro e w7 ⟨ov7, vv7, X7, hev, hs7, hst7, _⟩
  have HS7 := Lib.hid hs7
  have HST7 := Lib.hid ((Step.of_below HB0.out.drew).trans hst7)
  have HX7 := Lib.hid ((HS.out.below HB0.out.drew).keep hst7 (show (w.alloc (.cells #[.pointer (some ⟨rb, 0, none⟩)] 66)).drew.heap[w.heap.size]? = some (.cells #[.pointer (some ⟨rb, 0, none⟩)] 66 (0, 0)) from HX0.out) (by decide) (by decide) (by decide))
  have x7 : w7.cell? ⟨w.heap.size, 0, none⟩ = some (.pointer (some ⟨rb, 0, none⟩)) := (blk HX7.out).1 0 _ rfl
  have e4 : w7.cell? ⟨rb, 4, none⟩ = some (.int .i64 0) := (blk hs7.row).1 4 _ rfl
  have f4 : w7.frozen? ⟨rb, 4, none⟩ = false := (blk hs7.row).2.1 4
  have e5 : w7.cell? ⟨rb, 5, none⟩ = some (.int .i64 0) := (blk hs7.row).1 5 _ rfl
  have f5 : w7.frozen? ⟨rb, 5, none⟩ = false := (blk hs7.row).2.1 5
  have HV := Lib.hid (fun (d : Int) => hs7.valued neI.1 neI.2.1 d)
  have HC := Lib.hid (fun (d : Int) => hs7.coded neI.1 neI.2.1 d)
  clear hs7 hst7
  cases r with
  | val v i => exact hev.elim
  | vals ws i => exact hev.elim
  | stop qq =>
    subst hev
    refine leaves_cons (f := 35) (args := #[.pointer (some ⟨w.heap.size, 0, none⟩)]) (by simp) (by simp [go_sem]) ?_
    refine (i_catch ⟨w.heap.size, 0, none⟩ rb qq _ w7 x7 e5 rfl f5).mono ?_
    rintro e u' w'' ⟨rfl, rfl, rfl⟩
    simp only [settle, List.dropWhile_nil]
    refine ⟨.tuple #[], main_ret _ _, rfl, ov7, vv7, X7, HC.out qq, HST7.out.trans (Step.of_set (fun v hv g hg => .inl ⟨v, hv, hg⟩))⟩
  | ret v =>
    subst hev
    go_wp2_with fail
    refine hK.out _ _ x7 (fun hHeld => ?_)
    clear hK K
    try simp only [Act.put, List.setIfInBounds_toArray, List.set_cons_zero, List.set_cons_succ, List.getElem_toArray, List.getElem_cons_zero, List.getElem_cons_succ]
    refine E_take (i := 3) (oi := _) (v := ?_) rfl (by kernel_rfl) (fun c a w h => hQ _ _ _ c a w h) ?_ (by assumption) ?_
    rotate_left 1
    · first | (refine Or.inl ⟨by rfl, ?_⟩; intro w hSw; (try dsimp only at hSw); (try simp only [List.getElem_toArray, List.getElem_cons_zero, List.getElem_cons_succ]); go_simp; done) | (refine Or.inl ⟨by rfl, ?_⟩; intro w hSw; (try dsimp only at hSw); (try simp only [List.getElem_toArray, List.getElem_cons_zero, List.getElem_cons_succ]); go_simp; with_reducible rfl)
    try simp only [Act.put, List.setIfInBounds_toArray, List.set_cons_zero, List.set_cons_succ, List.getElem_toArray, List.getElem_cons_zero, List.getElem_cons_succ]
    refine E_take (i := 4) (oi := _) (v := ?_) rfl (by kernel_rfl) (fun c a w h => hQ _ _ _ c a w h) ?_ (by assumption) ?_
    rotate_left 1
    · first | (refine Or.inl ⟨by rfl, ?_⟩; intro w hSw; (try dsimp only at hSw); (try simp only [List.getElem_toArray, List.getElem_cons_zero, List.getElem_cons_succ]); go_simp; done) | (refine Or.inl ⟨by rfl, ?_⟩; intro w hSw; (try dsimp only at hSw); (try simp only [List.getElem_toArray, List.getElem_cons_zero, List.getElem_cons_succ]); go_simp; with_reducible rfl)
    try simp only [Act.put, List.setIfInBounds_toArray, List.set_cons_zero, List.set_cons_succ, List.getElem_toArray, List.getElem_cons_zero, List.getElem_cons_succ]
    refine E_take (i := 5) (oi := _) (v := ?_) rfl (by kernel_rfl) (fun c a w h => hQ _ _ _ c a w h) ?_ (by assumption) ?_
    rotate_left 1
    · first | (refine Or.inl ⟨by rfl, ?_⟩; intro w hSw; (try dsimp only at hSw); (try simp only [List.getElem_toArray, List.getElem_cons_zero, List.getElem_cons_succ]); go_simp; done) | (refine Or.inl ⟨by rfl, ?_⟩; intro w hSw; (try dsimp only at hSw); (try simp only [List.getElem_toArray, List.getElem_cons_zero, List.getElem_cons_succ]); go_simp; with_reducible rfl)
    try simp only [Act.put, List.setIfInBounds_toArray, List.set_cons_zero, List.set_cons_succ, List.getElem_toArray, List.getElem_cons_zero, List.getElem_cons_succ]
    refine E_last (o := _) (by kernel_rfl) rfl (by kernel_rfl) (fun K hK => ?_)
    try simp only [List.getElem_toArray, List.getElem_cons_zero, List.getElem_cons_succ]
    go_simp
    refine hK.out _ _ ?_
    clear hK K
    refine leaves_cons (f := 35) (args := #[.pointer (some ⟨w.heap.size, 0, none⟩)]) (by simp) (by simp [go_sem]) ?_
    refine (i_idle ⟨w.heap.size, 0, none⟩ _).mono ?_
    rintro e u' w'' ⟨rfl, rfl, rfl⟩
    simp only [settle]
    exact ⟨.tuple #[], main_ret _ _, rfl, ov7, vv7, X7, HV.out v, HST7.out.trans (Step.of_set (fun v hv g hg => .inl ⟨v, hv, hg⟩))⟩

set_option maxRecDepth 100000 in
set_option maxHeartbeats 4000000 in
theorem i_interpret (pa : Option Addr) (pc : Nat) (PX : List LnL) (lim : Int) (w : World) (hl : PX.length ≤ 1048576) (hcap : PX.length ≤ pc) (hr : ReadL 9 41 w pa PX) (hz : SzAl PX) (hsh : Shapes w) (ho : OkI (plL PX)) (h0 : 0 ≤ lim) (h1 : lim ≤ 1000) (r : RunRes) (s' : RunS) (hg : GoesTo (plL PX) lim.toNat r s') :
    Calls Tryd.prog 8 #[.slice pa PX.length pc, .int .i64 lim] w (RunGives 3 27 w s' (valR r) (codR r)) := by
  obtain ⟨ln, rfl⟩ := Int.eq_ofNat_of_zero_le h0
  rw [Int.toNat_natCast] at hg
  have HR := Lib.hid hr
  have HSH := Lib.hid hsh
  have HO := Lib.hid ho
  have HG := Lib.hid hg
  have POK := Lib.hid (fun W (hb : Below w.heap.size w W) => i_progOkB pa pc PX W hl hcap (HR.out.below hb) hz (HSH.out.on hb))
  rw [(pokB_iff _).2 ho] at POK
  have HB0 : Hid (Below w.heap.size w (w.alloc (.cells #[.slice none 0 0, .slice none 0 0, .int .i64 0, .int .i64 0] 30))) := Lib.hid ((Below.refl _ _).alloc (Nat.le_refl _) _)
  have HX0 := Lib.hid (heap_alloc_new w (.cells #[.slice none 0 0, .slice none 0 0, .int .i64 0, .int .i64 0] 30))
  have d0 : decide ((ln : Int) < 0) = false := by simp
  have d1 : decide ((1000 : Int) < (ln : Int)) = false := by simp; omega
  clear hr hsh ho hg hz
  go_enter Tryd.func8, Tryd.ntmps8
  go_wp2_with fail
  refine (POK.out _ HB0.out).mono ?_
  rintro e w1 ⟨rfl, b1⟩
  have z0 : (w.alloc (.cells #[.slice none 0 0, .slice none 0 0, .int .i64 0, .int .i64 0] 30)).heap.size = w.heap.size + 1 := by simp
  have HB1 : Hid (Below w.heap.size w w1) := Lib.hid (HB0.out.trans (b1.mono (by omega)))
  have HX1 := Lib.hid ((b1.block _ (by omega)).trans HX0.out)
  have z1 := b1.size
  rw [z0] at z1
  have HI : Hid (IAt 46 3 27 w.heap.size w1.heap.size (w1.alloc (.cells #[.slice pa PX.length pc, .int .i64 (ln : Int), .slice none 0 0, .slice none 0 0, .int .i64 0, .int .i64 0] 46)) (.slice pa PX.length pc) (ln : Int) ⟨[], []⟩ 0 0 (.slice none 0 0) (.slice none 0 0) []) := Lib.hid ⟨heap_alloc_new _ _, RunR.start, by omega⟩
  have HBI : Hid (Below w.heap.size w (w1.alloc (.cells #[.slice pa PX.length pc, .int .i64 (ln : Int), .slice none 0 0, .slice none 0 0, .int .i64 0, .int .i64 0] 46))) := Lib.hid (HB1.out.alloc (by omega) _)
  have HX2 : Hid ((w1.alloc (.cells #[.slice pa PX.length pc, .int .i64 (ln : Int), .slice none 0 0, .slice none 0 0, .int .i64 0, .int .i64 0] 46)).heap[w.heap.size]? = some (.cells #[.slice none 0 0, .slice none 0 0, .int .i64 0, .int .i64 0] 30 (0, 0))) := Lib.hid ((Below.heap_alloc _ _ _ (by omega)).trans HX1.out)
  have MAIN := Lib.hid (i_main w.heap.size w1.heap.size pa pc PX ln w ⟨HR.out, rfl, HO.out, HSH.out⟩ (by omega) r s' HG.out _ HI.out HBI.out)
  clear b1 POK HB0 HX0 z0
  go_wp2_with fail
  refine MAIN.out.mono ?_
  rintro e w3 ⟨rfl, ov, vv, X, hs, hst⟩
  have HS3 := Lib.hid hs
  have HST3 := Lib.hid hst
  have HX3 := Lib.hid (HI.out.keep hst HX2.out (by decide) (by decide) (by decide))
  have HB3 : Hid (Below w.heap.size w w3) := Lib.hid (HBI.out.trans (HI.out.base hst))
  obtain ⟨oa, oc, rfl⟩ := owns_shape hs.R.out
  obtain ⟨va, vc, rfl⟩ := owns_shape hs.R.vis
  have e2 : w3.cell? ⟨w1.heap.size, 2, none⟩ = some (.slice oa s'.out.length oc) := (blk hs.row).1 2 _ rfl
  have e3 : w3.cell? ⟨w1.heap.size, 3, none⟩ = some (.slice va X.length vc) := (blk hs.row).1 3 _ rfl
  have e4 : w3.cell? ⟨w1.heap.size, 4, none⟩ = some (.int .i64 (valR r)) := (blk hs.row).1 4 _ rfl
  have e5 : w3.cell? ⟨w1.heap.size, 5, none⟩ = some (.int .i64 (codR r)) := (blk hs.row).1 5 _ rfl
  have g0 : w3.cell? ⟨w.heap.size, 0, none⟩ = some (.slice none 0 0) := (blk HX3.out).1 0 _ rfl
  have g1 : w3.cell? ⟨w.heap.size, 1, none⟩ = some (.slice none 0 0) := (blk HX3.out).1 1 _ rfl
  have g2 : w3.cell? ⟨w.heap.size, 2, none⟩ = some (.int .i64 0) := (blk HX3.out).1 2 _ rfl
  have g3 : w3.cell? ⟨w.heap.size, 3, none⟩ = some (.int .i64 0) := (blk HX3.out).1 3 _ rfl
  have f0 := (blk HX3.out).2.1 0
  have f1 := (blk HX3.out).2.1 1
  have f2 := (blk HX3.out).2.1 2
  have f3 := (blk HX3.out).2.1 3
  clear hs hst MAIN
  go_wp2
  refine bodyPost_ret (v := .agg #[.slice oa s'.out.length oc, .slice va X.length vc, .int .i64 (valR r), .int .i64 (codR r)]) (by simp [results, Tryd.results8, go_sem, g0, g1, g2, g3]) rfl ?_
  exact ⟨_, _, X, rfl, HS3.out.R.copied HX3.out (by decide) (by decide) _ _ _ _, (((HB3.out.setCell (Nat.le_refl _) _).setCell (Nat.le_refl _) _).setCell (Nat.le_refl _) _).setCell (Nat.le_refl _) _⟩

set_option maxRecDepth 100000 in
set_option maxHeartbeats 4000000 in
theorem i_interpret_bad (pa : Option Addr) (pc : Nat) (PX : List LnL) (lim : Int) (w : World) (hl : PX.length ≤ 1048576) (hcap : PX.length ≤ pc) (hr : ReadL 9 41 w pa PX) (hz : SzAl PX) (hsh : Shapes w) (hbad : ¬ (OkI (plL PX) ∧ 0 ≤ lim ∧ lim ≤ 1000)) :
    Calls Tryd.prog 8 #[.slice pa PX.length pc, .int .i64 lim] w (RunGives 3 27 w ⟨[], []⟩ 0 3) := by
  have HR := Lib.hid hr
  have HSH := Lib.hid hsh
  have POK := Lib.hid (fun W (hb : Below w.heap.size w W) => i_progOkB pa pc PX W hl hcap (HR.out.below hb) hz (HSH.out.on hb))
  have HB0 : Hid (Below w.heap.size w (w.alloc (.cells #[.slice none 0 0, .slice none 0 0, .int .i64 0, .int .i64 0] 30))) := Lib.hid ((Below.refl _ _).alloc (Nat.le_refl _) _)
  have HX0 := Lib.hid (heap_alloc_new w (.cells #[.slice none 0 0, .slice none 0 0, .int .i64 0, .int .i64 0] 30))
  obtain ⟨ok, hok⟩ : ∃ b, pokB (plL PX) = b := ⟨_, rfl⟩
  rw [hok] at POK
  have z0 : (w.alloc (.cells #[.slice none 0 0, .slice none 0 0, .int .i64 0, .int .i64 0] 30)).heap.size = w.heap.size + 1 := by simp
  have hcase : (ok = false) ∨ (ok = true ∧ decide (lim < 0) = true) ∨ (ok = true ∧ decide (lim < 0) = false ∧ decide ((1000 : Int) < lim) = true) := by
    cases ok with
    | false => exact .inl rfl
    | true =>
      have := (pokB_iff _).1 hok
      refine .inr ?_
      by_cases h0 : lim < 0
      · exact .inl ⟨rfl, by simpa using h0⟩
      · refine .inr ⟨rfl, by simpa using h0, ?_⟩
        have : ¬ lim ≤ 1000 := fun h => hbad ⟨this, by omega, h⟩
        simp; omega
  clear hr hsh hz hbad hok
  rcases hcase with rfl | ⟨rfl, d0⟩ | ⟨rfl, d0, d1⟩
  all_goals
    go_enter Tryd.func8, Tryd.ntmps8
    go_wp2_with fail
    refine (POK.out _ HB0.out).mono ?_
    rintro e w1 ⟨rfl, b1⟩
    have HB1 : Hid (Below w.heap.size w w1) := Lib.hid (HB0.out.trans (b1.mono (by omega)))
    have HX1 := Lib.hid ((b1.block _ (by omega)).trans HX0.out)
    have g0 : w1.cell? ⟨w.heap.size, 0, none⟩ = some (.slice none 0 0) := (blk HX1.out).1 0 _ rfl
    have g1 : w1.cell? ⟨w.heap.size, 1, none⟩ = some (.slice none 0 0) := (blk HX1.out).1 1 _ rfl
    have g2 : w1.cell? ⟨w.heap.size, 2, none⟩ = some (.int .i64 0) := (blk HX1.out).1 2 _ rfl
    have g3 : w1.cell? ⟨w.heap.size, 3, none⟩ = some (.int .i64 0) := (blk HX1.out).1 3 _ rfl
    have f0 := (blk HX1.out).2.1 0
    have f1 := (blk HX1.out).2.1 1
    have f2 := (blk HX1.out).2.1 2
    have f3 := (blk HX1.out).2.1 3
    clear b1
    go_wp2
    refine bodyPost_ret (v := .agg #[.slice none 0 0, .slice none 0 0, .int .i64 0, .int .i64 3]) (by simp [results, Tryd.results8, go_sem, g0, g1, g2, g3]) rfl ?_
    exact ⟨_, _, [], rfl, RunR.start, (((HB1.out.setCell (Nat.le_refl _) _).setCell (Nat.le_refl _) _).setCell (Nat.le_refl _) _).setCell (Nat.le_refl _) _⟩
end Go.Proofs.YtcffmdmdojkggaaDoor
