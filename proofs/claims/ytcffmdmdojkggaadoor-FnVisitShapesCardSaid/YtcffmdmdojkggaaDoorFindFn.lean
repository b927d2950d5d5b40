/- FindFunction, the model's and the program's (a closure handed to the library's IndexFunc). -/
import Derived.Test.YtcffmdmdojkggaaDoorBeSpec
import Derived.FnLit
namespace Go.Proofs.YtcffmdmdojkggaaDoor
open Go.RowKit Go.Lib

theorem pl_at (X : List LnL) (j : Nat) (h : j < X.length) (h' : j < (plL X).length) : (plL X)[j] = X[j].p := plL_get X j h

theorem findX_yes (X : List LnL) (n : ByteArray) (q : Nat) (h : q < X.length) (h0 : X[q].kind = 0) (hn : X[q].name = n) : findF n q ((plL X).drop q) = (q : Int) := by
  have hq : q < (plL X).length := by rw [plL_length]; exact h
  rw [findF_at (plL X) n q hq, pl_at X q h, if_pos ⟨h0, hn⟩]
theorem findX_no (X : List LnL) (n : ByteArray) (q : Nat) (h : q < X.length) (hn : ¬ (X[q].kind = 0 ∧ X[q].name = n)) : findF n q ((plL X).drop q) = findF n (q + 1) ((plL X).drop (q + 1)) := by
  have hq : q < (plL X).length := by rw [plL_length]; exact h
  rw [findF_at (plL X) n q hq, pl_at X q h, if_neg (show ¬ (X[q].p.kind = 0 ∧ X[q].p.name = n) from hn)]

set_option maxRecDepth 100000 in
set_option maxHeartbeats 2000000 in
theorem s_findFn (a : Option Addr) (cap : Nat) (X : List LnL) (n : ByteArray) (w : World) (hl : X.length ≤ 2000000) (hr : ReadL 9 41 w a X) :
    Calls Tryd.prog 20 #[.slice a X.length cap, .string n] w fun e w' => e = .returned (.int .i64 (findZ (plL X) n)) ∧ Below w.heap.size w w' := by
  have HR := Lib.hid hr
  have hpl := plL_length X
  clear hr
  go_enter Tryd.func20, Tryd.ntmps20
  go_wp2_with fail
  go_loopw [5] (fun i wr => ∃ q : Nat, q ≤ X.length ∧ i = .int .i64 (q : Int) ∧ Hid (findF n q ((plL X).drop q) = findZ (plL X) n) ∧ Below w.heap.size w wr) (fun i _ => X.length - (RowKit.intOf i).toNat)
  case atStart => exact ⟨0, Nat.zero_le _, rfl, Lib.hid rfl, Below.refl _ _⟩
  case round =>
    obtain ⟨q, hq, rfl, HE, hbel⟩ := hrel
    have HB := Lib.hid hbel
    by_cases hlt : q < X.length
    · obtain ⟨g, rfl, hg, ⟨c0, c1, _, _⟩, _⟩ := (HR.out.below hbel) q hlt
      have HY := Lib.hid (findX_yes X n q hlt)
      have HNO := Lib.hid (findX_no X n q hlt)
      have k0 : (0 : Int) ≤ (q : Int) := by omega
      have k1 : (q : Int) < (X.length : Int) := by omega
      generalize X[q].kind = kd at *
      generalize X[q].name = nm at *
      clear hbel
      by_cases hk : kd = 0
      · subst hk
        by_cases hn : nm = n
        · subst hn
          have HN' := Lib.hid ((HY.out rfl rfl).symm.trans HE.out)
          clear HY HNO
          go_wp2
          go_ret
          exact ⟨by rw [← HN'.out]; rfl, HB.out⟩
        · have HN' := Lib.hid ((HNO.out (fun h => hn h.2)).symm.trans HE.out)
          have hd := str_ne _ _ hn
          clear HY HNO hn
          go_wp2
          go_roundw
          case rel => exact ⟨q + 1, by omega, by go_num, HN', HB.out⟩
          case measure => simp [RowKit.intOf]; omega
      · have HN' := Lib.hid ((HNO.out (fun h => hk h.1)).symm.trans HE.out)
        have hd : (kd == 0) = false := by simpa using hk
        clear HY HNO hk
        go_wp2
        go_roundw
        case rel => exact ⟨q + 1, by omega, by go_num, HN', HB.out⟩
        case measure => simp [RowKit.intOf]; omega
    · have hqq : q = X.length := by omega
      subst hqq
      have HN' : Hid (-1 = findZ (plL X) n) := Lib.hid (by rw [← HE.out, findF_out _ _ _ (by omega)])
      clear hbel
      go_wp2
      go_ret
      exact ⟨by rw [← HN'.out]; rfl, HB.out⟩

set_option maxHeartbeats 400000 in
/-- The closure: a function of that name? -/
theorem i_findIs (k : Int) (nm n : ByteArray) (va ve : Value) (c : Nat) (w : World) (hc : w.cell? ⟨c, 0, none⟩ = some (.string n)) (hcl : c < w.heap.size) :
    Calls Tryd.prog 72 #[.agg #[.int .i64 k, .string nm, va, ve], .pointer (some ⟨c, 0, none⟩)] w fun e w' => e = .returned (.bool (decide (k = 0) && decide (nm = n))) ∧ Below w.heap.size w w' := by
  have X0 := heap_alloc_new w (.cells #[.int .i64 k, .string nm, va, ve] 39)
  have e0 : (w.alloc (.cells #[.int .i64 k, .string nm, va, ve] 39)).cell? ⟨w.heap.size, 0, none⟩ = some (.int .i64 k) := (blk X0).1 0 _ rfl
  have e1 : (w.alloc (.cells #[.int .i64 k, .string nm, va, ve] 39)).cell? ⟨w.heap.size, 1, none⟩ = some (.string nm) := (blk X0).1 1 _ rfl
  have HB : Hid (Below w.heap.size w (w.alloc (.cells #[.int .i64 k, .string nm, va, ve] 39))) := Lib.hid ((Below.refl _ _).alloc (Nat.le_refl _) _)
  have e2 : (w.alloc (.cells #[.int .i64 k, .string nm, va, ve] 39)).cell? ⟨c, 0, none⟩ = some (.string n) := (HB.out.cell (p := ⟨c, 0, none⟩) hcl).trans hc
  clear X0 hc
  by_cases h0 : k = 0
  · subst h0
    by_cases hn : nm = n
    · subst hn
      go_enter Tryd.func72, Tryd.ntmps72
      go_wp2
      go_ret
      exact ⟨ret_b (by simp), HB.out⟩
    · have hd := str_ne _ _ hn
      have HV : Hid (decide (nm = n) = false) := Lib.hid (decide_eq_false hn)
      clear hn
      go_enter Tryd.func72, Tryd.ntmps72
      go_wp2
      go_ret
      exact ⟨ret_b (by rw [HV.out]; rfl), HB.out⟩
  · have hd : (k == 0) = false := by simpa using h0
    have HV : Hid (decide (k = 0) = false) := Lib.hid (decide_eq_false h0)
    clear h0
    go_enter Tryd.func72, Tryd.ntmps72
    go_wp2
    go_ret
    exact ⟨ret_b (by rw [HV.out]; rfl), HB.out⟩

set_option maxRecDepth 100000 in
set_option maxHeartbeats 2000000 in
theorem i_indexFn (a : Option Addr) (cap : Nat) (X : List LnL) (n : ByteArray) (c : Nat) (w : World) (hl : X.length ≤ 2000000) (hr : ReadL 9 41 w a X) (hc : w.cell? ⟨c, 0, none⟩ = some (.string n)) (hcl : c < w.heap.size) :
    Calls Tryd.prog 67 #[.slice a X.length cap, .func (.func 72) #[] #[.pointer (some ⟨c, 0, none⟩)]] w fun e w' => e = .returned (.int .i64 (findZ (plL X) n)) ∧ Below w.heap.size w w' := by
  have HR := Lib.hid hr
  have hpl := plL_length X
  have HC := Lib.hid (fun (W : World) (hb : Below w.heap.size w W) k nm va ve => i_findIs k nm n va ve c W ((hb.cell (p := ⟨c, 0, none⟩) hcl).trans hc) (by have := hb.size; omega))
  clear hr hc
  go_enter Tryd.func67, Tryd.ntmps67
  go_wp2_with fail
  go_loopw [5, 8] (fun _ i wr => ∃ q : Nat, q ≤ X.length ∧ i = .int .i64 (q : Int) ∧ Hid (findF n q ((plL X).drop q) = findZ (plL X) n) ∧ Below w.heap.size w wr) (fun _ i _ => X.length - (RowKit.intOf i).toNat)
  case atStart => exact ⟨0, Nat.zero_le _, rfl, Lib.hid rfl, Below.refl _ _⟩
  case round =>
    obtain ⟨q, hq, rfl, HE, hbel⟩ := hrel
    have HB := Lib.hid hbel
    have hB := hbel.size
    by_cases hlt : q < X.length
    · obtain ⟨g, rfl, hg, ⟨c0, c1, c2, c3⟩, hm⟩ := (HR.out.below hbel) q hlt
      have HY := Lib.hid (findX_yes X n q hlt)
      have HNO := Lib.hid (findX_no X n q hlt)
      obtain ⟨xa, xb, xc, xd, ea, ee, _, _, _, _⟩ := inMem_shape hm
      rw [ea] at c2
      rw [ee] at c3
      have HF := Lib.hid (fun va ve => HC.out wr hbel X[q].kind X[q].name va ve)
      have k0 : (0 : Int) ≤ (q : Int) := by omega
      have k1 : (q : Int) < (X.length : Int) := by omega
      generalize X[q].kind = kd at *
      generalize X[q].name = nm at *
      generalize X[q].args.length = na at *
      generalize X[q].expr.length = ne at *
      clear hbel hm ea ee
      by_cases hkn : kd = 0 ∧ nm = n
      · have HN' := Lib.hid ((HY.out hkn.1 hkn.2).symm.trans HE.out)
        rw [hkn.1, hkn.2, decide_eq_true rfl, decide_eq_true rfl] at HF
        obtain ⟨rfl, rfl⟩ := hkn
        clear HY HNO
        go_wp2_with fail
        refine (HF.out _ _).mono ?_
        rintro e w1 ⟨rfl, b1⟩
        have HB1 : Hid (Below w.heap.size w w1) := Lib.hid (HB.out.trans (b1.mono hB))
        clear b1 c0 c1 c2 c3
        go_wp2
        go_ret
        exact ⟨by rw [← HN'.out]; rfl, HB1.out⟩
      · have HN' := Lib.hid ((HNO.out hkn).symm.trans HE.out)
        have hb : (decide (kd = 0) && decide (nm = n)) = false := by
          rw [Bool.and_eq_false_iff]
          by_cases h0 : kd = 0
          · exact .inr (decide_eq_false (fun e => hkn ⟨h0, e⟩))
          · exact .inl (decide_eq_false h0)
        rw [hb] at HF
        clear HY HNO hb hkn
        go_wp2_with fail
        refine (HF.out _ _).mono ?_
        rintro e w1 ⟨rfl, b1⟩
        have HB1 : Hid (Below w.heap.size w w1) := Lib.hid (HB.out.trans (b1.mono hB))
        clear b1 c0 c1 c2 c3
        go_wp2
        go_roundw
        case rel => exact ⟨q + 1, by omega, by go_num, HN', HB1.out⟩
        case measure => simp [RowKit.intOf]; omega
    · have hqq : q = X.length := by omega
      subst hqq
      have HN' : Hid (-1 = findZ (plL X) n) := Lib.hid (by rw [← HE.out, findF_out _ _ _ (by omega)])
      clear hbel
      go_wp2
      go_ret
      exact ⟨by rw [← HN'.out]; rfl, HB.out⟩

set_option maxHeartbeats 400000 in
theorem i_findFn (a : Option Addr) (cap : Nat) (X : List LnL) (n : ByteArray) (w : World) (hl : X.length ≤ 2000000) (hr : ReadL 9 41 w a X) :
    Calls Tryd.prog 52 #[.slice a X.length cap, .string n] w fun e w' => e = .returned (.int .i64 (findZ (plL X) n)) ∧ Below w.heap.size w w' := by
  have HB0 : Hid (Below w.heap.size w (w.alloc (.cells #[.string n] 9))) := Lib.hid ((Below.refl _ _).alloc (Nat.le_refl _) _)
  have X0 := heap_alloc_new w (.cells #[.string n] 9)
  have hz : (w.alloc (.cells #[.string n] 9)).heap.size = w.heap.size + 1 := by simp
  have HI := Lib.hid (i_indexFn a cap X n w.heap.size (w.alloc (.cells #[.string n] 9)) hl (hr.below HB0.out) ((blk X0).1 0 _ rfl) (by omega))
  clear hr X0
  go_enter Tryd.func52, Tryd.ntmps52
  go_wp2_with fail
  refine HI.out.mono ?_
  rintro e w1 ⟨rfl, b1⟩
  have HB1 : Hid (Below w.heap.size w w1) := Lib.hid (HB0.out.trans (b1.mono (by omega)))
  clear b1
  go_wp2
  go_ret
  exact ⟨rfl, HB1.out⟩
end Go.Proofs.YtcffmdmdojkggaaDoor
