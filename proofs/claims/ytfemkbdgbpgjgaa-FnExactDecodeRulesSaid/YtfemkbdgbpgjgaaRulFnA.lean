/- RulesOk, the model's and the program's. -/
import Derived.Test.YtfemkbdgbpgjgaaRows
import Derived.Test.YtfemkbdgbpgjgaaRuPlain
import Derived.Outline
import Derived.Lib.Hide
import Derived.Below
import Derived.Deep.QuietTactic
import Derived.BigQuiet
namespace Go.Proofs.Ytfemkbdgbpgjgaa
open Go.RowKit Go.Lib

/-- May a rule stand behind one that ends at e? -/
def ruB (e : Int) (x : RuL) : Bool := decide (e ≤ x.start) && (decide (x.start < x.stop) && (decide (x.stop ≤ 1000000) && ((decide (0 ≤ x.depth) && decide (x.depth ≤ 1200)) && !(x.frame && !decide (x.depth = 0)))))
def ruF : Int → List RuL → Bool
  | _, [] => true
  | e, x :: r => ruB e x && ruF x.stop r
theorem ruF_at (X : List RuL) (e : Int) (q : Nat) (h : q < X.length) : ruF e (X.drop q) = (ruB e X[q] && ruF X[q].stop (X.drop (q + 1))) := by rw [List.drop_eq_getElem_cons h]; rfl
theorem ruF_yes (X : List RuL) (e : Int) (q : Nat) (h : q < X.length) (h0 : ruB e X[q] = true) : ruF e (X.drop q) = ruF X[q].stop (X.drop (q + 1)) := by rw [ruF_at X e q h, h0]; rfl
theorem ruF_no (X : List RuL) (e : Int) (q : Nat) (h : q < X.length) (h0 : ruB e X[q] = false) : ruF e (X.drop q) = false := by rw [ruF_at X e q h, h0]; rfl
theorem ruF_out (X : List RuL) (e : Int) (q : Nat) (h : X.length ≤ q) : ruF e (X.drop q) = true := by rw [List.drop_eq_nil_of_le h]; rfl
theorem ret_bRu {p q : Bool} (h : p = q) : Ending.returned (.bool p) = .returned (.bool q) := by rw [h]
theorem s_inRu (x a b : Int) (w : World) : Calls Try.prog 57 #[.int .i64 x, .int .i64 a, .int .i64 b] w fun e w' => e = .returned (.bool (decide (a ≤ x) && decide (x ≤ b))) ∧ w = w' := by
  by_cases h1 : a ≤ x <;> by_cases h2 : x ≤ b
  all_goals
    go_enter Try.func57, Try.ntmps57
    go_wp2
    go_ret
    exact ⟨ret_bRu (by simp [h1, h2]), rfl⟩
set_option maxRecDepth 100000 in
set_option maxHeartbeats 4000000 in
theorem s_rulesOk (a : Option Addr) (cap : Nat) (X : List RuL) (w : World) (hl : X.length ≤ 2000000) (hr : ReadRu w a X) :
    Calls Try.prog 58 #[.slice a X.length cap] w fun e w' => e = .returned (.bool (ruF 0 X)) ∧ Below w.heap.size w w' := by
  have HR := Lib.hid hr
  clear hr
  go_enter Try.func58, Try.ntmps58
  go_wp2_with fail
  go_loopw [3, 4] (fun la i wr => ∃ (q : Nat) (l : Int), q ≤ X.length ∧ i = .int .i64 (q : Int) ∧ la = .int .i64 l ∧ Hid (ruF l (X.drop q) = ruF 0 X) ∧ Below w.heap.size w wr) (fun _ i _ => X.length - (RowKit.intOf i).toNat)
  case atStart => exact ⟨0, 0, Nat.zero_le _, rfl, rfl, Lib.hid rfl, Below.refl _ _⟩
  case round =>
    obtain ⟨q, l, hq, rfl, rfl, HE, hbel⟩ := hrel
    have HB := Lib.hid hbel
    have hB := hbel.size
    by_cases hlt : q < X.length
    · obtain ⟨g, rfl, hg, c0, c1, c2, c3⟩ := (HR.out.below hbel) q hlt
      have HY := Lib.hid (ruF_yes X l q hlt)
      have HNO := Lib.hid (ruF_no X l q hlt)
      have k0 : (0 : Int) ≤ (q : Int) := by omega
      have k1 : (q : Int) < (X.length : Int) := by omega
      generalize X[q] = xx at *
      obtain ⟨st, sp, fr, de⟩ := xx
      dsimp only at c0 c1 c2 c3
      have HB2 : Hid (Below w.heap.size w (wr.alloc (.cells #[.int .i64 st, .int .i64 sp, .bool fr, .int .i64 de] 61))) := Lib.hid (HB.out.alloc hB _)
      have I1 := Lib.hid (fun W => s_inRu de 0 1200 W)
      clear hbel
      by_cases h1 : l ≤ st
      · by_cases h2 : st < sp
        · by_cases h3 : sp ≤ 1000000
          · cases h4 : (decide (0 ≤ de) && decide (de ≤ 1200)) with
            | false =>
              have HV := Lib.hid ((HNO.out (by unfold ruB; simp only [h4]; simp)).symm.trans HE.out)
              rw [h4] at I1
              clear HY HNO h4
              go_wp2_with fail
              refine (I1.out _).mono ?_
              rintro e w' ⟨rfl, rfl⟩
              go_wp2
              go_ret
              exact ⟨ret_bRu HV.out, HB2.out⟩
            | true =>
              cases fr with
              | false =>
                have HV := Lib.hid ((HY.out (by unfold ruB; simp only [h4, decide_eq_true h1, decide_eq_true h2, decide_eq_true h3]; rfl)).symm.trans HE.out)
                rw [h4] at I1
                clear HY HNO h4
                go_wp2_with fail
                refine (I1.out _).mono ?_
                rintro e w' ⟨rfl, rfl⟩
                go_wp2
                go_roundw
                case rel => exact ⟨q + 1, sp, by omega, by go_num, rfl, HV, HB2.out⟩
                case measure => simp [RowKit.intOf]; omega
              | true =>
                by_cases h5 : de = 0
                · subst h5
                  have HV := Lib.hid ((HY.out (by unfold ruB; simp only [h4, decide_eq_true h1, decide_eq_true h2, decide_eq_true h3]; rfl)).symm.trans HE.out)
                  rw [h4] at I1
                  clear HY HNO h4
                  go_wp2_with fail
                  refine (I1.out _).mono ?_
                  rintro e w' ⟨rfl, rfl⟩
                  go_wp2
                  go_roundw
                  case rel => exact ⟨q + 1, sp, by omega, by go_num, rfl, HV, HB2.out⟩
                  case measure => simp [RowKit.intOf]; omega
                · have HV := Lib.hid ((HNO.out (by unfold ruB; simp [h5])).symm.trans HE.out)
                  have h6 : (de != 0) = true := by simp [h5]
                  rw [h4] at I1
                  clear HY HNO h4
                  go_wp2_with fail
                  refine (I1.out _).mono ?_
                  rintro e w' ⟨rfl, rfl⟩
                  go_wp2
                  go_ret
                  exact ⟨ret_bRu HV.out, HB2.out⟩
          · have HV := Lib.hid ((HNO.out (by unfold ruB; simp [h3])).symm.trans HE.out)
            clear HY HNO I1
            go_wp2
            go_ret
            exact ⟨ret_bRu HV.out, HB2.out⟩
        · have HV := Lib.hid ((HNO.out (by unfold ruB; simp [h2])).symm.trans HE.out)
          clear HY HNO I1
          go_wp2
          go_ret
          exact ⟨ret_bRu HV.out, HB2.out⟩
      · have HV := Lib.hid ((HNO.out (by unfold ruB; simp [h1])).symm.trans HE.out)
        clear HY HNO I1
        go_wp2
        go_ret
        exact ⟨ret_bRu HV.out, HB2.out⟩
    · have hqq : q = X.length := by omega
      subst hqq
      have HV : Hid (true = ruF 0 X) := Lib.hid (by rw [← HE.out, ruF_out _ _ _ (by omega)])
      go_wp2
      go_ret
      exact ⟨ret_bRu HV.out, HB.out⟩
/-- The program's test of one rule. -/
theorem i_ruOk (x : RuL) (e : Int) (w : World) :
    Calls Try.prog 64 #[.agg #[.int .i64 x.start, .int .i64 x.stop, .bool x.frame, .int .i64 x.depth], .int .i64 e] w fun e' w' => e' = .returned (.bool (ruB e x)) ∧ Below w.heap.size w w' := by
  obtain ⟨st, sp, fr, de⟩ := x
  dsimp only
  have HB : Hid (Below w.heap.size w (w.alloc (.cells #[.int .i64 st, .int .i64 sp, .bool fr, .int .i64 de] 61))) := Lib.hid ((Below.refl _ _).alloc (Nat.le_refl _) _)
  cases fr
  · by_cases h1 : e ≤ st
    · by_cases h2 : st < sp
      · by_cases h3 : sp ≤ 1000000
        · by_cases h4 : 0 ≤ de
          · by_cases h5 : de ≤ 1200
            · go_enter Try.func64, Try.ntmps64
              go_wp2
              go_ret
              exact ⟨ret_bRu (by unfold ruB; first | (simp [*]; done) | (simp [*]; intros; omega)), HB.out⟩
            · go_enter Try.func64, Try.ntmps64
              go_wp2
              go_ret
              exact ⟨ret_bRu (by unfold ruB; first | (simp [*]; done) | (simp [*]; intros; omega)), HB.out⟩
          · go_enter Try.func64, Try.ntmps64
            go_wp2
            go_ret
            exact ⟨ret_bRu (by unfold ruB; first | (simp [*]; done) | (simp [*]; intros; omega)), HB.out⟩
        · go_enter Try.func64, Try.ntmps64
          go_wp2
          go_ret
          exact ⟨ret_bRu (by unfold ruB; first | (simp [*]; done) | (simp [*]; intros; omega)), HB.out⟩
      · go_enter Try.func64, Try.ntmps64
        go_wp2
        go_ret
        exact ⟨ret_bRu (by unfold ruB; first | (simp [*]; done) | (simp [*]; intros; omega)), HB.out⟩
    · go_enter Try.func64, Try.ntmps64
      go_wp2
      go_ret
      exact ⟨ret_bRu (by unfold ruB; first | (simp [*]; done) | (simp [*]; intros; omega)), HB.out⟩
  · by_cases h1 : e ≤ st
    · by_cases h2 : st < sp
      · by_cases h3 : sp ≤ 1000000
        · by_cases h4 : 0 ≤ de
          · by_cases h5 : de ≤ 0
            · have h6 : de = 0 := by omega
              subst h6
              go_enter Try.func64, Try.ntmps64
              go_wp2
              go_ret
              exact ⟨ret_bRu (by unfold ruB; first | (simp [*]; done) | (simp [*]; intros; omega)), HB.out⟩
            · have h6 : ¬ de = 0 := by omega
              go_enter Try.func64, Try.ntmps64
              go_wp2
              go_ret
              exact ⟨ret_bRu (by unfold ruB; first | (simp [*]; done) | (simp [*]; intros; omega)), HB.out⟩
          · go_enter Try.func64, Try.ntmps64
            go_wp2
            go_ret
            exact ⟨ret_bRu (by unfold ruB; first | (simp [*]; done) | (simp [*]; intros; omega)), HB.out⟩
        · go_enter Try.func64, Try.ntmps64
          go_wp2
          go_ret
          exact ⟨ret_bRu (by unfold ruB; first | (simp [*]; done) | (simp [*]; intros; omega)), HB.out⟩
      · go_enter Try.func64, Try.ntmps64
        go_wp2
        go_ret
        exact ⟨ret_bRu (by unfold ruB; first | (simp [*]; done) | (simp [*]; intros; omega)), HB.out⟩
    · go_enter Try.func64, Try.ntmps64
      go_wp2
      go_ret
      exact ⟨ret_bRu (by unfold ruB; first | (simp [*]; done) | (simp [*]; intros; omega)), HB.out⟩
set_option maxRecDepth 100000 in
set_option maxHeartbeats 4000000 in
theorem i_rulesOk (a : Option Addr) (cap : Nat) (X : List RuL) (w : World) (hl : X.length ≤ 2000000) (hr : ReadRu w a X) :
    Calls Try.prog 55 #[.slice a X.length cap] w fun e w' => e = .returned (.bool (ruF 0 X)) ∧ Below w.heap.size w w' := by
  have HR := Lib.hid hr
  clear hr
  go_enter Try.func55, Try.ntmps55
  go_wp2_with fail
  go_loopw [3, 8] (fun la i wr => ∃ (q : Nat) (l : Int), q ≤ X.length ∧ i = .int .i64 (q : Int) ∧ la = .int .i64 l ∧ Hid (ruF l (X.drop q) = ruF 0 X) ∧ Below w.heap.size w wr) (fun _ i _ => X.length - (RowKit.intOf i).toNat)
  case atStart => exact ⟨0, 0, Nat.zero_le _, rfl, rfl, Lib.hid rfl, Below.refl _ _⟩
  case round =>
    obtain ⟨q, l, hq, rfl, rfl, HE, hbel⟩ := hrel
    have HB := Lib.hid hbel
    have hB := hbel.size
    by_cases hlt : q < X.length
    · obtain ⟨g, rfl, hg, c0, c1, c2, c3⟩ := (HR.out.below hbel) q hlt
      have HY := Lib.hid (ruF_yes X l q hlt)
      have HNO := Lib.hid (ruF_no X l q hlt)
      have k0 : (0 : Int) ≤ (q : Int) := by omega
      have k1 : (q : Int) < (X.length : Int) := by omega
      generalize X[q] = xx at *
      obtain ⟨st, sp, fr, de⟩ := xx
      dsimp only at c0 c1 c2 c3
      have HB2 : Hid (Below w.heap.size w (wr.alloc (.cells #[.int .i64 st, .int .i64 sp, .bool fr, .int .i64 de] 61))) := Lib.hid (HB.out.alloc hB _)
      have T0 := Lib.hid (heap_alloc_new wr (.cells #[.int .i64 st, .int .i64 sp, .bool fr, .int .i64 de] 61))
      have I1 := Lib.hid (fun W => i_ruOk ⟨st, sp, fr, de⟩ l W)
      clear hbel
      cases hb : ruB l ⟨st, sp, fr, de⟩ with
      | false =>
        have HV := Lib.hid ((HNO.out hb).symm.trans HE.out)
        rw [hb] at I1
        clear HY HNO hb
        go_wp2_with fail
        refine (I1.out _).mono ?_
        rintro e w1 ⟨rfl, b1⟩
        have HB3 : Hid (Below w.heap.size w w1) := Lib.hid (HB2.out.trans (b1.mono HB2.out.size))
        clear b1 HB2 T0 c0 c1 c2 c3
        go_wp2
        go_ret
        exact ⟨ret_bRu HV.out, HB3.out⟩
      | true =>
        have HV := Lib.hid ((HY.out hb).symm.trans HE.out)
        rw [hb] at I1
        clear HY HNO hb
        go_wp2_with fail
        refine (I1.out _).mono ?_
        rintro e w1 ⟨rfl, b1⟩
        have HB3 : Hid (Below w.heap.size w w1) := Lib.hid (HB2.out.trans (b1.mono HB2.out.size))
        have P1 := Lib.hid ((b1.block _ (by simp)).trans T0.out)
        have e1 : w1.cell? ⟨wr.heap.size, 1, none⟩ = some (.int .i64 sp) := (blk P1.out).1 1 _ rfl
        clear b1 HB2 T0 P1 c0 c1 c2 c3
        go_wp2
        go_roundw
        case rel => exact ⟨q + 1, sp, by omega, by go_num, rfl, HV, HB3.out⟩
        case measure => simp [RowKit.intOf]; omega
    · have hqq : q = X.length := by omega
      subst hqq
      have HV : Hid (true = ruF 0 X) := Lib.hid (by rw [← HE.out, ruF_out _ _ _ (by omega)])
      go_wp2
      go_ret
      exact ⟨ret_bRu HV.out, HB.out⟩
end Go.Proofs.Ytfemkbdgbpgjgaa
