/- The model's Interpret. -/
import Derived.Test.YtcnnfhcpkbjolaaDoorSperf
import Derived.Test.YtcnnfhcpkbjolaaDoorRunGo
import Derived.Test.YtcnnfhcpkbjolaaDoorPokS
import Derived.Test.YtcnnfhcpkbjolaaDoorNtB
namespace Go.Proofs.YtcnnfhcpkbjolaaDoor
open Go.RowKit Go.Lib

theorem s_all (B rb : Nat) (pa : Option Addr) (pc : Nat) (PX : List LnL) (lim : Nat) (wb : World) (hp : ProgS B pa PX wb) (hlim : lim ≤ 1000) (N : Nat) : SEvalOk B rb pa pc PX lim wb N ∧ SPerfOk B rb pa pc PX lim wb N := by
  induction N using Nat.strongRecOn with
  | ind N ih =>
    have hP := s_perf_step B rb pa pc PX lim wb hp hlim N (fun m hm => (ih m hm).1)
    refine ⟨?_, hP⟩
    cases N with
    | zero => intro c k L vs i s r s' w la va lc vc ov vv cv X hrun; exact (no_fuel hrun).elim
    | succ n => exact s_eval_step B rb pa pc PX lim wb hp hlim n (fun m hm => (ih m (by omega)).1) (fun m hm => (ih m (by omega)).2)

set_option maxRecDepth 100000 in
set_option maxHeartbeats 4000000 in
theorem s_interpret (pa : Option Addr) (pc : Nat) (PX : List LnL) (lim : Int) (w : World) (hl : PX.length ≤ 1048576) (hr : ReadL 9 83 w pa PX) (hz : SzAl PX) (ho : OkI (plL PX)) (h0 : 0 ≤ lim) (h1 : lim ≤ 1000) (r : RunRes) (s' : RunS) (hg : GoesTo (plL PX) lim.toNat r s') :
    Calls Tryd.prog 10 #[.slice pa PX.length pc, .int .i64 lim] w (RunGives 3 28 w s' (valR r) (codR r)) := by
  obtain ⟨ln, rfl⟩ := Int.eq_ofNat_of_zero_le h0
  rw [Int.toNat_natCast] at hg
  obtain ⟨N, hN⟩ := hg
  have HR := Lib.hid hr
  have HO := Lib.hid ho
  have HN := Lib.hid hN
  have HFU := Lib.hid (main_fun ho)
  have HAR : Hid (argsZ (plL PX) ((0 : Nat) : Int) = []) := Lib.hid ho.2.1.2.2.1
  have POK := Lib.hid (fun W (hb : Below w.heap.size w W) => s_progOkB pa pc PX W hl (HR.out.below hb) hz)
  rw [(pokB_iff _).2 ho] at POK
  have HB0 : Hid (Below w.heap.size w (w.alloc (.cells #[.slice none 0 0, .slice none 0 0, .int .i64 0, .int .i64 0] 31))) := Lib.hid ((Below.refl _ _).alloc (Nat.le_refl _) _)
  have HX0 := Lib.hid (heap_alloc_new w (.cells #[.slice none 0 0, .slice none 0 0, .int .i64 0, .int .i64 0] 31))
  have HIN := Lib.hid (fun W => s_in (ln : Int) 0 1000 W)
  have hd : (decide ((0 : Int) ≤ (ln : Int)) && decide ((ln : Int) ≤ 1000)) = true := by simp; omega
  rw [hd] at HIN
  clear hr ho hN hz hd
  go_enter Tryd.func10, Tryd.ntmps10
  go_wp2_with fail
  refine (POK.out _ HB0.out).mono ?_
  rintro e w1 ⟨rfl, b1⟩
  have z0 : (w.alloc (.cells #[.slice none 0 0, .slice none 0 0, .int .i64 0, .int .i64 0] 31)).heap.size = w.heap.size + 1 := by simp
  have HB1 : Hid (Below w.heap.size w w1) := Lib.hid (HB0.out.trans (b1.mono (by omega)))
  have HX1 := Lib.hid ((b1.block _ (by omega)).trans HX0.out)
  have z1 := b1.size
  rw [z0] at z1
  have HI : Hid (SAt 58 3 28 w.heap.size w1.heap.size (w1.alloc (.cells #[.slice pa PX.length pc, .int .i64 (ln : Int), .slice none 0 0, .slice none 0 0, .int .i64 0, .int .i64 0, .slice none 0 0] 58)) (.slice pa PX.length pc) (ln : Int) ⟨[], []⟩ [] 0 (.slice none 0 0) (.slice none 0 0) (.slice none 0 0) []) := Lib.hid ⟨heap_alloc_new _ _, RunR.start, World.ownsRow_nil _ _ _ _, Ap.none, fun x hx => (by cases hx), by omega⟩
  have HBI : Hid (Below w.heap.size w (w1.alloc (.cells #[.slice pa PX.length pc, .int .i64 (ln : Int), .slice none 0 0, .slice none 0 0, .int .i64 0, .int .i64 0, .slice none 0 0] 58))) := Lib.hid (HB1.out.alloc (by omega) _)
  have HX2 : Hid ((w1.alloc (.cells #[.slice pa PX.length pc, .int .i64 (ln : Int), .slice none 0 0, .slice none 0 0, .int .i64 0, .int .i64 0, .slice none 0 0] 58)).heap[w.heap.size]? = some (.cells #[.slice none 0 0, .slice none 0 0, .int .i64 0, .int .i64 0] 31 (0, 0))) := Lib.hid ((Below.heap_alloc _ _ _ (by omega)).trans HX1.out)
  have MAIN : Hid (Calls Tryd.prog 33 #[.pointer (some ⟨w1.heap.size, 0, none⟩), .int .i64 0, .slice none 0 0] _ (SRes (PfRes r) w.heap.size w1.heap.size (.slice pa PX.length pc) (ln : Int) [] (.slice none 0 0) (.slice none 0 0) (.slice none 0 0) [] _ s')) := Lib.hid ((s_all w.heap.size w1.heap.size pa pc PX ln w ⟨HR.out, rfl, HO.out⟩ (by omega) N).2 [] 0 [] ⟨[], []⟩ r s' _ none 0 (.slice none 0 0) (.slice none 0 0) (.slice none 0 0) [] HN.out (Nat.zero_le _) HFU.out (by rw [HAR.out]; rfl) (Nat.zero_le _) (Nat.le_refl _) HI.out HBI.out (World.ownsRow_nil _ _ _ _) (fun u hu => Ap.none))
  clear b1 POK HB0 HX0 z0
  go_wp2_with fail
  refine (HIN.out _).mono ?_
  rintro e w' ⟨rfl, rfl⟩
  go_wp2_with fail
  refine MAIN.out.mono ?_
  rintro e w3 ⟨code, ov, vv, cv, X, hev, hs, hst⟩
  obtain ⟨x, rfl, hev⟩ := pf_int hev
  have HS3 := Lib.hid hs
  have HX3 := Lib.hid (HI.out.keep hst HX2.out (by decide) (by decide) (by decide))
  have HB3 : Hid (Below w.heap.size w w3) := Lib.hid (HBI.out.trans (HI.out.base hst))
  have HEV := Lib.hid hev
  obtain ⟨oa, oc, rfl⟩ := owns_shape hs.R.out
  obtain ⟨va, vc, rfl⟩ := owns_shape hs.R.vis
  have e2 : w3.cell? ⟨w1.heap.size, 2, none⟩ = some (.slice oa s'.out.length oc) := (blk hs.row).1 2 _ rfl
  have e3 : w3.cell? ⟨w1.heap.size, 3, none⟩ = some (.slice va X.length vc) := (blk hs.row).1 3 _ rfl
  have e4 : w3.cell? ⟨w1.heap.size, 4, none⟩ = some (.int .i64 0) := (blk hs.row).1 4 _ rfl
  have e5 : w3.cell? ⟨w1.heap.size, 5, none⟩ = some (.int .i64 code) := (blk hs.row).1 5 _ rfl
  have k4 := (blk hs.row).2.1 4
  have g0 : w3.cell? ⟨w.heap.size, 0, none⟩ = some (.slice none 0 0) := (blk HX3.out).1 0 _ rfl
  have g1 : w3.cell? ⟨w.heap.size, 1, none⟩ = some (.slice none 0 0) := (blk HX3.out).1 1 _ rfl
  have g2 : w3.cell? ⟨w.heap.size, 2, none⟩ = some (.int .i64 0) := (blk HX3.out).1 2 _ rfl
  have g3 : w3.cell? ⟨w.heap.size, 3, none⟩ = some (.int .i64 0) := (blk HX3.out).1 3 _ rfl
  have f0 := (blk HX3.out).2.1 0
  have f1 := (blk HX3.out).2.1 1
  have f2 := (blk HX3.out).2.1 2
  have f3 := (blk HX3.out).2.1 3
  clear hs hst hev MAIN
  cases r with
  | val v i => exact HEV.out.elim
  | vals ws i => exact HEV.out.elim
  | ret v =>
    have hx : x = v := by have h := HEV.out.1; injection h with h; injection h
    have hc0 : code = 0 := HEV.out.2
    subst hx hc0
    have hd : ((0 : Int) != 0) = false := rfl
    go_wp2
    refine bodyPost_ret (v := .agg #[.slice oa s'.out.length oc, .slice va X.length vc, .int .i64 x, .int .i64 0]) (by simp [results, Tryd.results10, go_sem, g0, g1, g2, g3]) rfl ?_
    have hne : w.heap.size ≠ w1.heap.size := by omega
    have HB := HB3.out.setCell (p := ⟨w1.heap.size, 4, none⟩) (by simp; omega) (.int .i64 x)
    exact ⟨_, _, X, rfl, (HS3.out.R.set HS3.out.row (by decide) (by decide)).copied ((set_other hne).trans HX3.out) (by decide) (by decide) _ _ _ _, (((HB.setCell (Nat.le_refl _) _).setCell (Nat.le_refl _) _).setCell (Nat.le_refl _) _).setCell (Nat.le_refl _) _⟩
  | stop q =>
    have hcq : code = q := HEV.out.2.1
    have hd : (code != 0) = true := by rw [hcq]; simpa using HEV.out.2.2
    subst hcq
    go_wp2
    refine bodyPost_ret (v := .agg #[.slice oa s'.out.length oc, .slice va X.length vc, .int .i64 0, .int .i64 code]) (by simp [results, Tryd.results10, go_sem, g0, g1, g2, g3]) rfl ?_
    have hne : w.heap.size ≠ w1.heap.size := by omega
    have HB := (HB3.out.setCell (p := ⟨w1.heap.size, 4, none⟩) (by simp; omega) (.int .i64 x)).setCell (p := ⟨w1.heap.size, 4, none⟩) (by simp; omega) (.int .i64 0)
    exact ⟨_, _, X, rfl, ((HS3.out.R.set HS3.out.row (by decide) (by decide)).set (heap_setCell_at HS3.out.row _) (by decide) (by decide)).copied ((set_other hne).trans ((set_other hne).trans HX3.out)) (by decide) (by decide) _ _ _ _, (((HB.setCell (Nat.le_refl _) _).setCell (Nat.le_refl _) _).setCell (Nat.le_refl _) _).setCell (Nat.le_refl _) _⟩
set_option maxRecDepth 100000 in
set_option maxHeartbeats 4000000 in
theorem s_interpret_bad (pa : Option Addr) (pc : Nat) (PX : List LnL) (lim : Int) (w : World) (hl : PX.length ≤ 1048576) (hr : ReadL 9 83 w pa PX) (hz : SzAl PX) (hbad : ¬ (OkI (plL PX) ∧ 0 ≤ lim ∧ lim ≤ 1000)) :
    Calls Tryd.prog 10 #[.slice pa PX.length pc, .int .i64 lim] w (RunGives 3 28 w ⟨[], []⟩ 0 3) := by
  have HR := Lib.hid hr
  have POK := Lib.hid (fun W (hb : Below w.heap.size w W) => s_progOkB pa pc PX W hl (HR.out.below hb) hz)
  have HB0 : Hid (Below w.heap.size w (w.alloc (.cells #[.slice none 0 0, .slice none 0 0, .int .i64 0, .int .i64 0] 31))) := Lib.hid ((Below.refl _ _).alloc (Nat.le_refl _) _)
  have HX0 := Lib.hid (heap_alloc_new w (.cells #[.slice none 0 0, .slice none 0 0, .int .i64 0, .int .i64 0] 31))
  obtain ⟨ok, hok⟩ : ∃ b, pokB (plL PX) = b := ⟨_, rfl⟩
  rw [hok] at POK
  have z0 : (w.alloc (.cells #[.slice none 0 0, .slice none 0 0, .int .i64 0, .int .i64 0] 31)).heap.size = w.heap.size + 1 := by simp
  have HIN := Lib.hid (fun W => s_in lim 0 1000 W)
  obtain ⟨inb, hin⟩ : ∃ b, (decide ((0 : Int) ≤ lim) && decide (lim ≤ 1000)) = b := ⟨_, rfl⟩
  rw [hin] at HIN
  have hcase : (ok = false) ∨ (ok = true ∧ inb = false) := by
    cases ok with
    | false => exact .inl rfl
    | true =>
      have := (pokB_iff _).1 hok
      refine .inr ⟨rfl, ?_⟩
      cases inb with
      | false => rfl
      | true =>
        simp at hin
        exact absurd ⟨this, hin.1, hin.2⟩ hbad
  clear hr hz hbad hok hin
  rcases hcase with rfl | ⟨rfl, rfl⟩
  all_goals
    go_enter Tryd.func10, Tryd.ntmps10
    go_wp2_with fail
    refine (POK.out _ HB0.out).mono ?_
    rintro e w1 ⟨rfl, b1⟩
    have HB1 : Hid (Below w.heap.size w w1) := Lib.hid (HB0.out.trans (b1.mono (by omega)))
    have HX1 := Lib.hid ((b1.block _ (by omega)).trans HX0.out)
    have g0 : w1.cell? ⟨w.heap.size, 0, none⟩ = some (.slice none 0 0) := (blk HX1.out).1 0 _ rfl
    have g1 : w1.cell? ⟨w.heap.size, 1, none⟩ = some (.slice none 0 0) := (blk HX1.out).1 1 _ rfl
    have g2 : w1.cell? ⟨w.heap.size, 2, none⟩ = some (.int .i64 0) := (blk HX1.out).1 2 _ rfl
    have g3 : w1.cell? ⟨w.heap.size, 3, none⟩ = some (.int .i64 0) := (blk HX1.out).1 3 _ rfl
    have f0 := (blk HX1.out).2.1 0
    have f1 := (blk HX1.out).2.1 1
    have f2 := (blk HX1.out).2.1 2
    have f3 := (blk HX1.out).2.1 3
    clear b1
    first
      | (go_wp2_with fail; refine (HIN.out _).mono ?_; rintro e w' ⟨rfl, rfl⟩; go_wp2)
      | go_wp2
    refine bodyPost_ret (v := .agg #[.slice none 0 0, .slice none 0 0, .int .i64 0, .int .i64 3]) (by simp [results, Tryd.results10, go_sem, g0, g1, g2, g3]) rfl ?_
    exact ⟨_, _, [], rfl, RunR.start, (((HB1.out.setCell (Nat.le_refl _) _).setCell (Nat.le_refl _) _).setCell (Nat.le_refl _) _).setCell (Nat.le_refl _) _⟩
end Go.Proofs.YtcnnfhcpkbjolaaDoor
