/- RulesOk and FindRule, the model's and the program's. -/
import Derived.Test.YtakgjlpgcepnkaaRows
import Derived.Test.YtakgjlpgcepnkaaRuPlain
import Derived.Outline
import Derived.Lib.Hide
import Derived.Below
import Derived.Deep.QuietTactic
import Derived.BigQuiet
namespace Go.Proofs.Ytakgjlpgcepnkaa
open Go.RowKit Go.Lib

/-- May a rule stand behind one that ends at e? -/
def ruB (e : Int) (x : RuL) : Bool := decide (e ≤ x.start) && (decide (x.start < x.stop) && (decide (x.stop ≤ 1000000) && ((decide (0 ≤ x.depth) && decide (x.depth ≤ 1200)) && !(x.frame && !decide (x.depth = 0)))))
def ruF : Int → List RuL → Bool
  | _, [] => true
  | e, x :: r => ruB e x && ruF x.stop r
theorem ruF_at (X : List RuL) (e : Int) (q : Nat) (h : q < X.length) : ruF e (X.drop q) = (ruB e X[q] && ruF X[q].stop (X.drop (q + 1))) := by rw [List.drop_eq_getElem_cons h]; rfl
theorem ruF_yes (X : List RuL) (e : Int) (q : Nat) (h : q < X.length) (h0 : ruB e X[q] = true) : ruF e (X.drop q) = ruF X[q].stop (X.drop (q + 1)) := by rw [ruF_at X e q h, h0]; rfl
theorem ruF_no (X : List RuL) (e : Int) (q : Nat) (h : q < X.length) (h0 : ruB e X[q] = false) : ruF e (X.drop q) = false := by rw [ruF_at X e q h, h0]; rfl
theorem ruF_out (X : List RuL) (e : Int) (q : Nat) (h : X.length ≤ q) : ruF e (X.drop q) = true := by rw [List.drop_eq_nil_of_le h]; rfl
theorem ret_bRu {p q : Bool} (h : p = q) : Ending.returned (.bool p) = .returned (.bool q) := by rw [h]
theorem s_inRu (x a b : Int) (w : World) : Calls Try.prog 32 #[.int .i64 x, .int .i64 a, .int .i64 b] w fun e w' => e = .returned (.bool (decide (a ≤ x) && decide (x ≤ b))) ∧ w = w' := by
  by_cases h1 : a ≤ x <;> by_cases h2 : x ≤ b
  all_goals
    go_enter Try.func32, Try.ntmps32
    go_wp2
    go_ret
    exact ⟨ret_bRu (by simp [h1, h2]), rfl⟩
set_option maxRecDepth 100000 in
set_option maxHeartbeats 4000000 in
theorem s_rulesOk (a : Option Addr) (cap : Nat) (X : List RuL) (w : World) (hl : X.length ≤ 2000000) (hr : ReadRu w a X) :
    Calls Try.prog 23 #[.slice a X.length cap] w fun e w' => e = .returned (.bool (ruF 0 X)) ∧ Below w.heap.size w w' := by
  have HR := Lib.hid hr
  clear hr
  go_enter Try.func23, Try.ntmps23
  go_wp2_with fail
  go_loopw [3, 4] (fun la i wr => ∃ (q : Nat) (l : Int), q ≤ X.length ∧ i = .int .i64 (q : Int) ∧ la = .int .i64 l ∧ Hid (ruF l (X.drop q) = ruF 0 X) ∧ Below w.heap.size w wr) (fun _ i _ => X.length - (RowKit.intOf i).toNat)
  case atStart => exact ⟨0, 0, Nat.zero_le _, rfl, rfl, Lib.hid rfl, Below.refl _ _⟩
  case round =>
    obtain ⟨q, l, hq, rfl, rfl, HE, hbel⟩ := hrel
    have HB := Lib.hid hbel
    have hB := hbel.size
    by_cases hlt : q < X.length
    · obtain ⟨g, rfl, hg, c0, c1, c2, c3⟩ := (HR.out.below hbel) q hlt
      have HY := Lib.hid (ruF_yes X l q hlt)
      have HNO := Lib.hid (ruF_no X l q hlt)
      have k0 : (0 : Int) ≤ (q : Int) := by omega
      have k1 : (q : Int) < (X.length : Int) := by omega
      generalize X[q] = xx at *
      obtain ⟨st, sp, fr, de⟩ := xx
      dsimp only at c0 c1 c2 c3
      have HB2 : Hid (Below w.heap.size w (wr.alloc (.cells #[.int .i64 st, .int .i64 sp, .bool fr, .int .i64 de] 43))) := Lib.hid (HB.out.alloc hB _)
      have I1 := Lib.hid (fun W => s_inRu de 0 1200 W)
      clear hbel
      by_cases h1 : l ≤ st
      · by_cases h2 : st < sp
        · by_cases h3 : sp ≤ 1000000
          · cases h4 : (decide (0 ≤ de) && decide (de ≤ 1200)) with
            | false =>
              have HV := Lib.hid ((HNO.out (by unfold ruB; simp only [h4]; simp)).symm.trans HE.out)
              rw [h4] at I1
              clear HY HNO h4
              go_wp2_with fail
              refine (I1.out _).mono ?_
              rintro e w' ⟨rfl, rfl⟩
              go_wp2
              go_ret
              exact ⟨ret_bRu HV.out, HB2.out⟩
            | true =>
              cases fr with
              | false =>
                have HV := Lib.hid ((HY.out (by unfold ruB; simp only [h4, decide_eq_true h1, decide_eq_true h2, decide_eq_true h3]; rfl)).symm.trans HE.out)
                rw [h4] at I1
                clear HY HNO h4
                go_wp2_with fail
                refine (I1.out _).mono ?_
                rintro e w' ⟨rfl, rfl⟩
                go_wp2
                go_roundw
                case rel => exact ⟨q + 1, sp, by omega, by go_num, rfl, HV, HB2.out⟩
                case measure => simp [RowKit.intOf]; omega
              | true =>
                by_cases h5 : de = 0
                · subst h5
                  have HV := Lib.hid ((HY.out (by unfold ruB; simp only [h4, decide_eq_true h1, decide_eq_true h2, decide_eq_true h3]; rfl)).symm.trans HE.out)
                  rw [h4] at I1
                  clear HY HNO h4
                  go_wp2_with fail
                  refine (I1.out _).mono ?_
                  rintro e w' ⟨rfl, rfl⟩
                  go_wp2
                  go_roundw
                  case rel => exact ⟨q + 1, sp, by omega, by go_num, rfl, HV, HB2.out⟩
                  case measure => simp [RowKit.intOf]; omega
                · have HV := Lib.hid ((HNO.out (by unfold ruB; simp [h5])).symm.trans HE.out)
                  have h6 : (de != 0) = true := by simp [h5]
                  rw [h4] at I1
                  clear HY HNO h4
                  go_wp2_with fail
                  refine (I1.out _).mono ?_
                  rintro e w' ⟨rfl, rfl⟩
                  go_wp2
                  go_ret
                  exact ⟨ret_bRu HV.out, HB2.out⟩
          · have HV := Lib.hid ((HNO.out (by unfold ruB; simp [h3])).symm.trans HE.out)
            clear HY HNO I1
            go_wp2
            go_ret
            exact ⟨ret_bRu HV.out, HB2.out⟩
        · have HV := Lib.hid ((HNO.out (by unfold ruB; simp [h2])).symm.trans HE.out)
          clear HY HNO I1
          go_wp2
          go_ret
          exact ⟨ret_bRu HV.out, HB2.out⟩
      · have HV := Lib.hid ((HNO.out (by unfold ruB; simp [h1])).symm.trans HE.out)
        clear HY HNO I1
        go_wp2
        go_ret
        exact ⟨ret_bRu HV.out, HB2.out⟩
    · have hqq : q = X.length := by omega
      subst hqq
      have HV : Hid (true = ruF 0 X) := Lib.hid (by rw [← HE.out, ruF_out _ _ _ (by omega)])
      go_wp2
      go_ret
      exact ⟨ret_bRu HV.out, HB.out⟩
/-- The program's test of one rule. -/
theorem i_ruOk (x : RuL) (e : Int) (w : World) :
    Calls Try.prog 43 #[.agg #[.int .i64 x.start, .int .i64 x.stop, .bool x.frame, .int .i64 x.depth], .int .i64 e] w fun e' w' => e' = .returned (.bool (ruB e x)) ∧ Below w.heap.size w w' := by
  obtain ⟨st, sp, fr, de⟩ := x
  dsimp only
  have HB : Hid (Below w.heap.size w (w.alloc (.cells #[.int .i64 st, .int .i64 sp, .bool fr, .int .i64 de] 43))) := Lib.hid ((Below.refl _ _).alloc (Nat.le_refl _) _)
  cases fr
  · by_cases h1 : e ≤ st
    · by_cases h2 : st < sp
      · by_cases h3 : sp ≤ 1000000
        · by_cases h4 : 0 ≤ de
          · by_cases h5 : de ≤ 1200
            · go_enter Try.func43, Try.ntmps43
              go_wp2
              go_ret
              exact ⟨ret_bRu (by unfold ruB; first | (simp [*]; done) | (simp [*]; intros; omega)), HB.out⟩
            · go_enter Try.func43, Try.ntmps43
              go_wp2
              go_ret
              exact ⟨ret_bRu (by unfold ruB; first | (simp [*]; done) | (simp [*]; intros; omega)), HB.out⟩
          · go_enter Try.func43, Try.ntmps43
            go_wp2
            go_ret
            exact ⟨ret_bRu (by unfold ruB; first | (simp [*]; done) | (simp [*]; intros; omega)), HB.out⟩
        · go_enter Try.func43, Try.ntmps43
          go_wp2
          go_ret
          exact ⟨ret_bRu (by unfold ruB; first | (simp [*]; done) | (simp [*]; intros; omega)), HB.out⟩
      · go_enter Try.func43, Try.ntmps43
        go_wp2
        go_ret
        exact ⟨ret_bRu (by unfold ruB; first | (simp [*]; done) | (simp [*]; intros; omega)), HB.out⟩
    · go_enter Try.func43, Try.ntmps43
      go_wp2
      go_ret
      exact ⟨ret_bRu (by unfold ruB; first | (simp [*]; done) | (simp [*]; intros; omega)), HB.out⟩
  · by_cases h1 : e ≤ st
    · by_cases h2 : st < sp
      · by_cases h3 : sp ≤ 1000000
        · by_cases h4 : 0 ≤ de
          · by_cases h5 : de ≤ 0
            · have h6 : de = 0 := by omega
              subst h6
              go_enter Try.func43, Try.ntmps43
              go_wp2
              go_ret
              exact ⟨ret_bRu (by unfold ruB; first | (simp [*]; done) | (simp [*]; intros; omega)), HB.out⟩
            · have h6 : ¬ de = 0 := by omega
              go_enter Try.func43, Try.ntmps43
              go_wp2
              go_ret
              exact ⟨ret_bRu (by unfold ruB; first | (simp [*]; done) | (simp [*]; intros; omega)), HB.out⟩
          · go_enter Try.func43, Try.ntmps43
            go_wp2
            go_ret
            exact ⟨ret_bRu (by unfold ruB; first | (simp [*]; done) | (simp [*]; intros; omega)), HB.out⟩
        · go_enter Try.func43, Try.ntmps43
          go_wp2
          go_ret
          exact ⟨ret_bRu (by unfold ruB; first | (simp [*]; done) | (simp [*]; intros; omega)), HB.out⟩
      · go_enter Try.func43, Try.ntmps43
        go_wp2
        go_ret
        exact ⟨ret_bRu (by unfold ruB; first | (simp [*]; done) | (simp [*]; intros; omega)), HB.out⟩
    · go_enter Try.func43, Try.ntmps43
      go_wp2
      go_ret
      exact ⟨ret_bRu (by unfold ruB; first | (simp [*]; done) | (simp [*]; intros; omega)), HB.out⟩
set_option maxRecDepth 100000 in
set_option maxHeartbeats 4000000 in
theorem i_rulesOk (a : Option Addr) (cap : Nat) (X : List RuL) (w : World) (hl : X.length ≤ 2000000) (hr : ReadRu w a X) :
    Calls Try.prog 13 #[.slice a X.length cap] w fun e w' => e = .returned (.bool (ruF 0 X)) ∧ Below w.heap.size w w' := by
  have HR := Lib.hid hr
  clear hr
  go_enter Try.func13, Try.ntmps13
  go_wp2_with fail
  go_loopw [3, 8] (fun la i wr => ∃ (q : Nat) (l : Int), q ≤ X.length ∧ i = .int .i64 (q : Int) ∧ la = .int .i64 l ∧ Hid (ruF l (X.drop q) = ruF 0 X) ∧ Below w.heap.size w wr) (fun _ i _ => X.length - (RowKit.intOf i).toNat)
  case atStart => exact ⟨0, 0, Nat.zero_le _, rfl, rfl, Lib.hid rfl, Below.refl _ _⟩
  case round =>
    obtain ⟨q, l, hq, rfl, rfl, HE, hbel⟩ := hrel
    have HB := Lib.hid hbel
    have hB := hbel.size
    by_cases hlt : q < X.length
    · obtain ⟨g, rfl, hg, c0, c1, c2, c3⟩ := (HR.out.below hbel) q hlt
      have HY := Lib.hid (ruF_yes X l q hlt)
      have HNO := Lib.hid (ruF_no X l q hlt)
      have k0 : (0 : Int) ≤ (q : Int) := by omega
      have k1 : (q : Int) < (X.length : Int) := by omega
      generalize X[q] = xx at *
      obtain ⟨st, sp, fr, de⟩ := xx
      dsimp only at c0 c1 c2 c3
      have HB2 : Hid (Below w.heap.size w (wr.alloc (.cells #[.int .i64 st, .int .i64 sp, .bool fr, .int .i64 de] 43))) := Lib.hid (HB.out.alloc hB _)
      have T0 := Lib.hid (heap_alloc_new wr (.cells #[.int .i64 st, .int .i64 sp, .bool fr, .int .i64 de] 43))
      have I1 := Lib.hid (fun W => i_ruOk ⟨st, sp, fr, de⟩ l W)
      clear hbel
      cases hb : ruB l ⟨st, sp, fr, de⟩ with
      | false =>
        have HV := Lib.hid ((HNO.out hb).symm.trans HE.out)
        rw [hb] at I1
        clear HY HNO hb
        go_wp2_with fail
        refine (I1.out _).mono ?_
        rintro e w1 ⟨rfl, b1⟩
        have HB3 : Hid (Below w.heap.size w w1) := Lib.hid (HB2.out.trans (b1.mono HB2.out.size))
        clear b1 HB2 T0 c0 c1 c2 c3
        go_wp2
        go_ret
        exact ⟨ret_bRu HV.out, HB3.out⟩
      | true =>
        have HV := Lib.hid ((HY.out hb).symm.trans HE.out)
        rw [hb] at I1
        clear HY HNO hb
        go_wp2_with fail
        refine (I1.out _).mono ?_
        rintro e w1 ⟨rfl, b1⟩
        have HB3 : Hid (Below w.heap.size w w1) := Lib.hid (HB2.out.trans (b1.mono HB2.out.size))
        have P1 := Lib.hid ((b1.block _ (by simp)).trans T0.out)
        have e1 : w1.cell? ⟨wr.heap.size, 1, none⟩ = some (.int .i64 sp) := (blk P1.out).1 1 _ rfl
        clear b1 HB2 T0 P1 c0 c1 c2 c3
        go_wp2
        go_roundw
        case rel => exact ⟨q + 1, sp, by omega, by go_num, rfl, HV, HB3.out⟩
        case measure => simp [RowKit.intOf]; omega
    · have hqq : q = X.length := by omega
      subst hqq
      have HV : Hid (true = ruF 0 X) := Lib.hid (by rw [← HE.out, ruF_out _ _ _ (by omega)])
      go_wp2
      go_ret
      exact ⟨ret_bRu HV.out, HB.out⟩
/-- Is a rule for an offset? The first one of those that is. -/
def ruIn (x : RuL) (o : Int) : Bool := decide (x.start ≤ o) && decide (o < x.stop)
def ruX (o : Int) : Nat → List RuL → Int
  | _, [] => -1
  | k, x :: r => if ruIn x o = true then (k : Int) else ruX o (k + 1) r
def ruZ (l : List RuL) (o : Int) : Int := if ruF 0 l = true then ruX o 0 l else -1
theorem ruX_at (l : List RuL) (o : Int) (k : Nat) (h : k < l.length) : ruX o k (l.drop k) = if ruIn l[k] o = true then (k : Int) else ruX o (k + 1) (l.drop (k + 1)) := by
  rw [List.drop_eq_getElem_cons h]; rfl
theorem ruX_out (l : List RuL) (o : Int) (k : Nat) (h : l.length ≤ k) : ruX o k (l.drop k) = -1 := by rw [List.drop_eq_nil_of_le h]; rfl
theorem ruX_yes (X : List RuL) (o : Int) (q : Nat) (h : q < X.length) (h0 : ruIn X[q] o = true) : ruX o q (X.drop q) = (q : Int) := by rw [ruX_at X o q h, if_pos h0]
theorem ruX_no (X : List RuL) (o : Int) (q : Nat) (h : q < X.length) (h0 : ruIn X[q] o = false) : ruX o q (X.drop q) = ruX o (q + 1) (X.drop (q + 1)) := by rw [ruX_at X o q h, if_neg (by rw [h0]; decide)]
theorem i_ruHas (x : RuL) (o : Int) (w : World) :
    Calls Try.prog 41 #[.agg #[.int .i64 x.start, .int .i64 x.stop, .bool x.frame, .int .i64 x.depth], .int .i64 o] w fun e w' => e = .returned (.bool (ruIn x o)) ∧ Below w.heap.size w w' := by
  obtain ⟨st, sp, fr, de⟩ := x
  dsimp only
  have HB : Hid (Below w.heap.size w (w.alloc (.cells #[.int .i64 st, .int .i64 sp, .bool fr, .int .i64 de] 43))) := Lib.hid ((Below.refl _ _).alloc (Nat.le_refl _) _)
  by_cases h1 : st ≤ o <;> by_cases h2 : o < sp
  all_goals
    go_enter Try.func41, Try.ntmps41
    go_wp2
    go_ret
    exact ⟨ret_bRu (by unfold ruIn; simp [h1, h2]), HB.out⟩
theorem i_ruFn (x : RuL) (o : Int) (c : Nat) (w : World) (hc : w.cell? ⟨c, 0, none⟩ = some (.int .i64 o)) (hcl : c < w.heap.size) :
    Calls Try.prog 40 #[.agg #[.int .i64 x.start, .int .i64 x.stop, .bool x.frame, .int .i64 x.depth], .pointer (some ⟨c, 0, none⟩)] w fun e w' => e = .returned (.bool (ruIn x o)) ∧ Below w.heap.size w w' := by
  have C := Lib.hid (fun W => i_ruHas x o W)
  obtain ⟨st, sp, fr, de⟩ := x
  dsimp only at C ⊢
  have HB : Hid (Below w.heap.size w (w.alloc (.cells #[.int .i64 st, .int .i64 sp, .bool fr, .int .i64 de] 43))) := Lib.hid ((Below.refl _ _).alloc (Nat.le_refl _) _)
  have e2 : (w.alloc (.cells #[.int .i64 st, .int .i64 sp, .bool fr, .int .i64 de] 43)).cell? ⟨c, 0, none⟩ = some (.int .i64 o) := (HB.out.cell (p := ⟨c, 0, none⟩) hcl).trans hc
  clear hc
  go_enter Try.func40, Try.ntmps40
  go_wp2_with fail
  refine (C.out _).mono ?_
  rintro e w1 ⟨rfl, b1⟩
  have HB1 : Hid (Below w.heap.size w w1) := Lib.hid (HB.out.trans (b1.mono HB.out.size))
  clear b1
  go_wp2
  go_ret
  exact ⟨rfl, HB1.out⟩
set_option maxRecDepth 100000 in
set_option maxHeartbeats 2000000 in
theorem i_ruIx (a : Option Addr) (cap : Nat) (X : List RuL) (o : Int) (c : Nat) (w : World) (hl : X.length ≤ 2000000) (hr : ReadRu w a X) (hc : w.cell? ⟨c, 0, none⟩ = some (.int .i64 o)) (hcl : c < w.heap.size) :
    Calls Try.prog 39 #[.slice a X.length cap, .func (.func 40) #[] #[.pointer (some ⟨c, 0, none⟩)]] w fun e w' => e = .returned (.int .i64 (ruX o 0 X)) ∧ Below w.heap.size w w' := by
  have HR := Lib.hid hr
  have HC := Lib.hid (fun (W : World) (hb : Below w.heap.size w W) x => i_ruFn x o c W ((hb.cell (p := ⟨c, 0, none⟩) hcl).trans hc) (by have := hb.size; omega))
  clear hr hc
  go_enter Try.func39, Try.ntmps39
  go_wp2_with fail
  go_loopw [5, 8] (fun _ i wr => ∃ q : Nat, q ≤ X.length ∧ i = .int .i64 (q : Int) ∧ Hid (ruX o q (X.drop q) = ruX o 0 X) ∧ Below w.heap.size w wr) (fun _ i _ => X.length - (RowKit.intOf i).toNat)
  case atStart => exact ⟨0, Nat.zero_le _, rfl, Lib.hid rfl, Below.refl _ _⟩
  case round =>
    obtain ⟨q, hq, rfl, HE, hbel⟩ := hrel
    have HB := Lib.hid hbel
    have hB := hbel.size
    by_cases hlt : q < X.length
    · obtain ⟨g, rfl, hg, c0, c1, c2, c3⟩ := (HR.out.below hbel) q hlt
      have HY := Lib.hid (ruX_yes X o q hlt)
      have HNO := Lib.hid (ruX_no X o q hlt)
      have HF := Lib.hid (HC.out wr hbel X[q])
      have k0 : (0 : Int) ≤ (q : Int) := by omega
      have k1 : (q : Int) < (X.length : Int) := by omega
      generalize X[q] = xx at *
      obtain ⟨st, sp, fr, de⟩ := xx
      dsimp only at c0 c1 c2 c3 HF
      clear hbel
      cases hb : ruIn ⟨st, sp, fr, de⟩ o with
      | true =>
        have HN' := Lib.hid ((HY.out hb).symm.trans HE.out)
        rw [hb] at HF
        clear HY HNO hb
        go_wp2_with fail
        refine HF.out.mono ?_
        rintro e w1 ⟨rfl, b1⟩
        have HB1 : Hid (Below w.heap.size w w1) := Lib.hid (HB.out.trans (b1.mono hB))
        clear b1 c0 c1 c2 c3
        go_wp2
        go_ret
        exact ⟨by rw [← HN'.out]; rfl, HB1.out⟩
      | false =>
        have HN' := Lib.hid ((HNO.out hb).symm.trans HE.out)
        rw [hb] at HF
        clear HY HNO hb
        go_wp2_with fail
        refine HF.out.mono ?_
        rintro e w1 ⟨rfl, b1⟩
        have HB1 : Hid (Below w.heap.size w w1) := Lib.hid (HB.out.trans (b1.mono hB))
        clear b1 c0 c1 c2 c3
        go_wp2
        go_roundw
        case rel => exact ⟨q + 1, by omega, by go_num, HN', HB1.out⟩
        case measure => simp [RowKit.intOf]; omega
    · have hqq : q = X.length := by omega
      subst hqq
      have HN' : Hid (-1 = ruX o 0 X) := Lib.hid (by rw [← HE.out, ruX_out _ _ _ (by omega)])
      clear hbel
      go_wp2
      go_ret
      exact ⟨by rw [← HN'.out]; rfl, HB.out⟩
set_option maxRecDepth 100000 in
set_option maxHeartbeats 2000000 in
theorem i_findRule (a : Option Addr) (cap : Nat) (X : List RuL) (o : Int) (w : World) (hl : X.length ≤ 2000000) (hr : ReadRu w a X) :
    Calls Try.prog 11 #[.slice a X.length cap, .int .i64 o] w fun e w' => e = .returned (.int .i64 (ruZ X o)) ∧ Below w.heap.size w w' := by
  have T0 := Lib.hid (heap_alloc_new w (.cells #[.int .i64 o] 3))
  have TB := Lib.hid ((Below.refl w.heap.size w).alloc (Nat.le_refl _) (.cells #[.int .i64 o] 3))
  have OK := Lib.hid (i_rulesOk a cap X _ hl (hr.below TB.out))
  have IX := Lib.hid (fun (W : World) (hb : Below (w.heap.size + 1) (w.alloc (.cells #[.int .i64 o] 3)) W) => i_ruIx a cap X o w.heap.size W hl (hr.below (TB.out.trans (hb.mono (by omega)))) ((hb.cell (p := ⟨w.heap.size, 0, none⟩) (by show w.heap.size < w.heap.size + 1; omega)).trans ((blk T0.out).1 0 _ rfl)) (by have := hb.size; simp at this; omega))
  have HB0 : Hid (∀ W, Below (w.heap.size + 1) (w.alloc (.cells #[.int .i64 o] 3)) W → Below w.heap.size w W) := Lib.hid (fun W hb => TB.out.trans (hb.mono (by omega)))
  have HZ : Hid ((w.alloc (.cells #[.int .i64 o] 3)).heap.size = w.heap.size + 1) := Lib.hid (by simp)
  rw [HZ.out] at OK
  clear hr
  cases hb : ruF 0 X with
  | false =>
    have HV : Hid (ruZ X o = -1) := Lib.hid (by unfold ruZ; rw [hb]; rfl)
    rw [hb] at OK
    rw [HV.out]
    clear hb IX HV
    go_enter Try.func11, Try.ntmps11
    go_wp2_with fail
    refine OK.out.mono ?_
    rintro e w1 ⟨rfl, b1⟩
    have HB1 := Lib.hid (HB0.out _ b1)
    clear b1
    go_wp2
    go_ret
    exact ⟨rfl, HB1.out⟩
  | true =>
    have HV : Hid (ruZ X o = ruX o 0 X) := Lib.hid (by unfold ruZ; rw [hb]; rfl)
    rw [hb] at OK
    rw [HV.out]
    clear hb HV
    go_enter Try.func11, Try.ntmps11
    go_wp2_with fail
    refine OK.out.mono ?_
    rintro e w1 ⟨rfl, b1⟩
    have HB1 := Lib.hid b1
    have IX1 := Lib.hid (IX.out _ b1)
    have z1 := b1.size
    rw [HZ.out] at z1
    clear b1 IX OK
    go_wp2_with fail
    refine IX1.out.mono ?_
    rintro e w2 ⟨rfl, b2⟩
    have HB2 := Lib.hid (HB0.out _ (HB1.out.trans (b2.mono z1)))
    clear b2
    go_wp2
    go_ret
    exact ⟨rfl, HB2.out⟩
set_option maxRecDepth 100000 in
set_option maxHeartbeats 4000000 in
theorem s_findRule (a : Option Addr) (cap : Nat) (X : List RuL) (o : Int) (w : World) (hl : X.length ≤ 2000000) (hr : ReadRu w a X) :
    Calls Try.prog 25 #[.slice a X.length cap, .int .i64 o] w fun e w' => e = .returned (.int .i64 (ruZ X o)) ∧ Below w.heap.size w w' := by
  have HR := Lib.hid hr
  have OK := Lib.hid (s_rulesOk a cap X w hl hr)
  clear hr
  cases hb : ruF 0 X with
  | false =>
    have HV : Hid (ruZ X o = -1) := Lib.hid (by unfold ruZ; rw [hb]; rfl)
    rw [hb] at OK
    rw [HV.out]
    clear hb HV
    go_enter Try.func25, Try.ntmps25
    go_wp2_with fail
    refine OK.out.mono ?_
    rintro e w1 ⟨rfl, b1⟩
    have HB1 := Lib.hid b1
    clear b1 OK
    by_cases h0 : X.length = 0
    all_goals
      go_wp2_with fail
      go_loopw [6] (fun i wr => i = .int .i64 0 ∧ Below w.heap.size w wr) (fun i _ => 0)
      case atStart => exact ⟨rfl, HB1.out⟩
      case round =>
        obtain ⟨rfl, hbel⟩ := hrel
        have HB := Lib.hid hbel
        clear hbel
        go_wp2
        go_ret
        exact ⟨rfl, HB.out⟩
  | true =>
    have HV : Hid (ruZ X o = ruX o 0 X) := Lib.hid (by unfold ruZ; rw [hb]; rfl)
    rw [hb] at OK
    rw [HV.out]
    clear hb HV
    go_enter Try.func25, Try.ntmps25
    go_wp2_with fail
    refine OK.out.mono ?_
    rintro e w1 ⟨rfl, b1⟩
    have HB1 := Lib.hid b1
    clear b1 OK
    go_wp2_with fail
    go_loopw [6] (fun i wr => ∃ q : Nat, q ≤ X.length ∧ i = .int .i64 (q : Int) ∧ Hid (ruX o q (X.drop q) = ruX o 0 X) ∧ Below w.heap.size w wr) (fun i _ => X.length - (RowKit.intOf i).toNat)
    case atStart => exact ⟨0, Nat.zero_le _, rfl, Lib.hid rfl, HB1.out⟩
    case round =>
      obtain ⟨q, hq, rfl, HE, hbel⟩ := hrel
      have HB := Lib.hid hbel
      have hB := hbel.size
      by_cases hlt : q < X.length
      · obtain ⟨g, rfl, hg, c0, c1, c2, c3⟩ := (HR.out.below hbel) q hlt
        have HY := Lib.hid (ruX_yes X o q hlt)
        have HNO := Lib.hid (ruX_no X o q hlt)
        have k0 : (0 : Int) ≤ (q : Int) := by omega
        have k1 : (q : Int) < (X.length : Int) := by omega
        generalize X[q] = xx at *
        obtain ⟨st, sp, fr, de⟩ := xx
        dsimp only at c0 c1 c2 c3
        clear hbel
        by_cases h1 : st ≤ o
        · by_cases h2 : o < sp
          · have HN' := Lib.hid ((HY.out (by unfold ruIn; simp [h1, h2])).symm.trans HE.out)
            clear HY HNO
            go_wp2
            go_ret
            exact ⟨by rw [← HN'.out]; rfl, HB.out⟩
          · have HN' := Lib.hid ((HNO.out (by unfold ruIn; simp [h2])).symm.trans HE.out)
            clear HY HNO
            go_wp2
            go_roundw
            case rel => exact ⟨q + 1, by omega, by go_num, HN', HB.out⟩
            case measure => simp [RowKit.intOf]; omega
        · have HN' := Lib.hid ((HNO.out (by unfold ruIn; simp [h1])).symm.trans HE.out)
          clear HY HNO
          go_wp2
          go_roundw
          case rel => exact ⟨q + 1, by omega, by go_num, HN', HB.out⟩
          case measure => simp [RowKit.intOf]; omega
      · have hqq : q = X.length := by omega
        subst hqq
        have HN' : Hid (-1 = ruX o 0 X) := Lib.hid (by rw [← HE.out, ruX_out _ _ _ (by omega)])
        clear hbel
        go_wp2
        go_ret
        exact ⟨by rw [← HN'.out]; rfl, HB.out⟩
end Go.Proofs.Ytakgjlpgcepnkaa
