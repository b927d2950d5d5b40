/- The program's ProgramOk, check by check: functions, their order, blocks, elses. -/
import Derived.Test.YthmllcpldgbbcaaDoorFunLines
import Derived.Test.YthmllcpldgbbcaaDoorOkPlain
import Derived.Test.YthmllcpldgbbcaaDoorElImpl
namespace Go.Proofs.YthmllcpldgbbcaaDoor
open Go.RowKit Go.Lib

/-- A check's answer. -/
def Ans (P : Prop) (w : World) (e : Ending) (w' : World) : Prop := ∃ b : Bool, e = .returned (.bool b) ∧ (b = true ↔ P) ∧ Below w.heap.size w w'
theorem Ans.of {P : Prop} {w w' : World} {e : Ending} (b : Bool) (h : e = .returned (.bool b)) (hp : b = true ↔ P) (hb : Below w.heap.size w w') : Ans P w e w' := ⟨b, h, hp, hb⟩
theorem funI_get (p : List PLine) (i : Nat) (h : i < (funI p).length) : ∃ h' : i < (funs p).length, (funI p)[i] = ((funs p)[i] : Int) := by
  have h' : i < (funs p).length := by unfold funI at h; rwa [List.length_map] at h
  exact ⟨h', by simp [funI]⟩
theorem funI_length (p : List PLine) : (funI p).length = (funs p).length := by unfold funI; rw [List.length_map]
theorem funs_lt (p : List PLine) (i : Nat) (h : i < (funs p).length) : (funs p)[i] < p.length := by
  have := (funF_ge p 0 _ (List.getElem_mem h)).2
  rwa [Nat.zero_add] at this
theorem follow_ends (p : List PLine) (l : List Nat) : ∀ n, followF p n l → ∀ k ∈ l, 0 ≤ beZ p (k : Int) := by
  induction l with
  | nil => intro n _ k hk; cases hk
  | cons x r ih =>
    intro n h k hk
    rcases List.mem_cons.1 hk with rfl | hk
    · exact h.2.1
    · exact ih _ h.2.2 k hk

set_option maxRecDepth 100000 in
set_option maxHeartbeats 4000000 in
theorem i_funFollow (a : Option Addr) (cap : Nat) (X : List LnL) (w : World) (hl : X.length ≤ 1048576) (hr : ReadL 9 70 w a X) :
    Calls Tryd.prog 22 #[.slice a X.length cap] w (Ans (followF (plL X) 0 (funs (plL X))) w) := by
  have HR := Lib.hid hr
  have hpl := plL_length X
  have HF := Lib.hid (i_funLines a cap X w hl hr)
  have HE := Lib.hid (fun (W : World) (hb : Below w.heap.size w W) k => i_endOf a cap X k W (by omega) (hr.below hb))
  clear hr
  go_enter Tryd.func22, Tryd.ntmps22
  go_wp2_with fail
  refine HF.out.mono ?_
  rintro e w1 ⟨v, rfl, hown, b1⟩
  obtain ⟨av, cv, rfl⟩ := owns3_shape hown
  have HRI := Lib.hid (readI_of hown)
  have HB1 := Lib.hid b1
  have z1 := b1.size
  have hfl := funI_length (plL X)
  obtain ⟨F, hF⟩ : ∃ F, funI (plL X) = F := ⟨_, rfl⟩
  have HFG := Lib.hid (fun i h => funI_get (plL X) i h)
  rw [hF] at HRI hfl HFG
  have HFL := Lib.hid hfl
  obtain ⟨n, hn⟩ : ∃ n, F.length = n := ⟨_, rfl⟩
  rw [hn] at hfl
  have hnn : n ≤ 1048576 := by
    have h2 : (funs (plL X)).length ≤ (plL X).length := by
      have hh : ∀ (l : List PLine) i, (funF i l).length ≤ l.length := by
        intro l
        induction l with
        | nil => intro i; exact Nat.le_refl _
        | cons x r ih =>
          intro i
          have := ih (i + 1)
          unfold funF
          split
          · rw [List.length_cons, List.length_cons]; omega
          · rw [List.length_cons]; omega
      exact hh _ 0
    omega
  have HNN := Lib.hid hn
  rw [hF, hn]
  clear b1 hown hF hn HF hfl
  go_wp2_with fail
  go_loopw [3, 5, 6, 10] (fun x _ _ i wr => ∃ (q : Nat) (m : Int), q ≤ n ∧ i = .int .i64 (q : Int) ∧ x = .int .i64 m ∧ 0 ≤ m ∧ m ≤ 1048577 ∧ Hid (followF (plL X) m ((funs (plL X)).drop q) ↔ followF (plL X) 0 (funs (plL X))) ∧ Below w.heap.size w wr ∧ Below w1.heap.size w1 wr) (fun _ _ _ i _ => n - (RowKit.intOf i).toNat)
  case atStart => exact ⟨0, 0, Nat.zero_le _, rfl, rfl, by omega, by omega, Lib.hid (by rw [List.drop_zero]), HB1.out, Below.refl _ _⟩
  case round =>
    obtain ⟨q, m, hq, rfl, rfl, hm0, hm1, HP, hbel, hbel1⟩ := hrel
    have HB := Lib.hid hbel
    have HC := Lib.hid hbel1
    have hB := hbel.size
    have hC := hbel1.size
    by_cases hlt : q < n
    · have hqF : q < F.length := by rw [HNN.out]; exact hlt
      obtain ⟨g, rfl, hg, c0⟩ := (HRI.out.below hbel1) q hqF
      obtain ⟨hq', hget⟩ := HFG.out q hqF
      rw [hget] at c0
      have hklt := funs_lt (plL X) q hq'
      have HST : Hid (((((funs (plL X))[q] : Nat) : Int) = m ∧ 0 ≤ beZ (plL X) (((funs (plL X))[q] : Nat) : Int) ∧ followF (plL X) (beZ (plL X) (((funs (plL X))[q] : Nat) : Int) + 1) ((funs (plL X)).drop (q + 1))) ↔ followF (plL X) 0 (funs (plL X))) := Lib.hid (by
        have := HP.out
        rw [List.drop_eq_getElem_cons hq', followF] at this
        exact this)
      obtain ⟨k, hk⟩ : ∃ k, (funs (plL X))[q] = k := ⟨_, rfl⟩
      rw [hk] at c0 hklt HST
      have hbz := beZ_lt (plL X) (k : Int)
      have HEK := Lib.hid (HE.out wr hbel k)
      obtain ⟨E, hE⟩ : ∃ E, beZ (plL X) (k : Int) = E := ⟨_, rfl⟩
      rw [hE] at HST HEK hbz
      have k0 : (0 : Int) ≤ (q : Int) := by omega
      have k1 : (q : Int) < (n : Int) := by omega
      clear hk hE hget hqF hq' hbel hbel1
      by_cases hkm : (k : Int) = m
      · subst hkm
        by_cases hE0 : E < 0
        · have HV : Hid (¬ followF (plL X) 0 (funs (plL X))) := Lib.hid (fun h => by have := (HST.out.2 h).2.1; omega)
          have hd : decide (E < 0) = true := decide_eq_true hE0
          clear HST
          go_wp2_with fail
          refine HEK.out.mono ?_
          rintro e w2 ⟨rfl, b2⟩
          have HB2 : Hid (Below w.heap.size w w2) := Lib.hid (HB.out.trans (b2.mono hB))
          clear b2 c0
          go_wp2
          go_ret
          exact Ans.of false rfl (by simpa using HV.out) HB2.out
        · have HN : Hid (followF (plL X) (E + 1) ((funs (plL X)).drop (q + 1)) ↔ followF (plL X) 0 (funs (plL X))) := Lib.hid (by
            rw [← HST.out]
            exact ⟨fun h => ⟨rfl, by omega, h⟩, fun h => h.2.2⟩)
          have hd : decide (E < 0) = false := decide_eq_false hE0
          clear HST HP
          go_wp2_with fail
          refine HEK.out.mono ?_
          rintro e w2 ⟨rfl, b2⟩
          have HB2 : Hid (Below w.heap.size w w2) := Lib.hid (HB.out.trans (b2.mono hB))
          have HC2 : Hid (Below w1.heap.size w1 w2) := Lib.hid (HC.out.trans (b2.mono hC))
          clear b2 c0
          go_wp2
          go_roundw
          case rel => exact ⟨q + 1, E + 1, by omega, by go_num, by go_num, by omega, by omega, HN, HB2.out, HC2.out⟩
          case measure => simp [RowKit.intOf]; omega
      · have HV : Hid (¬ followF (plL X) 0 (funs (plL X))) := Lib.hid (fun h => hkm (HST.out.2 h).1)
        have hd : ((k : Int) != m) = true := by simpa using hkm
        clear HST hkm
        go_wp2_with fail
        refine HEK.out.mono ?_
        rintro e w2 ⟨rfl, b2⟩
        have HB2 : Hid (Below w.heap.size w w2) := Lib.hid (HB.out.trans (b2.mono hB))
        clear b2 c0
        go_wp2
        go_ret
        exact Ans.of false rfl (by simpa using HV.out) HB2.out
    · have hqq : q = n := by omega
      have HV : Hid (m = (X.length : Int) ↔ followF (plL X) 0 (funs (plL X))) := Lib.hid (by
        have := HP.out
        rw [List.drop_of_length_le (by have := HFL.out; have := HNN.out; omega), followF, hpl] at this
        exact this)
      subst hqq
      clear hbel hbel1 HP
      go_wp2
      go_ret
      exact Ans.of (m == (X.length : Int)) rfl (by rw [← HV.out]; simp) HB.out

set_option maxRecDepth 100000 in
set_option maxHeartbeats 4000000 in
theorem i_nesting (a : Option Addr) (cap : Nat) (X : List LnL) (w : World) (hl : X.length ≤ 1048576) (hr : ReadL 9 70 w a X) :
    Calls Tryd.prog 23 #[.slice a X.length cap] w (Ans (nestF 0 (plL X)) w) := by
  have HR := Lib.hid hr
  have hpl := plL_length X
  clear hr
  go_enter Tryd.func23, Tryd.ntmps23
  go_wp2_with fail
  go_loopw [3, 5, 8] (fun o _ i wr => ∃ (q : Nat) (z : Int), q ≤ X.length ∧ i = .int .i64 (q : Int) ∧ o = .int .i64 z ∧ -(q : Int) ≤ z ∧ z ≤ (q : Int) ∧ Hid (nestF z ((plL X).drop q) ↔ nestF 0 (plL X)) ∧ Below w.heap.size w wr) (fun _ _ i _ => X.length - (RowKit.intOf i).toNat)
  case atStart => exact ⟨0, 0, Nat.zero_le _, rfl, rfl, by omega, by omega, Lib.hid (by rw [List.drop_zero]), Below.refl _ _⟩
  case round =>
    obtain ⟨q, z, hq, rfl, rfl, hz1, hz2, HP, hbel⟩ := hrel
    have HB := Lib.hid hbel
    have hB := hbel.size
    by_cases hlt : q < X.length
    · obtain ⟨g, rfl, hg, ⟨c0, c1, c2, c3⟩, hm⟩ := (HR.out.below hbel) q hlt
      have hqp : q < (plL X).length := by omega
      have HST : Hid ((z + opn X[q].kind ≤ 5 ∧ nestF (z + opn X[q].kind) ((plL X).drop (q + 1))) ↔ nestF 0 (plL X)) := Lib.hid (by
        have := HP.out
        rw [List.drop_eq_getElem_cons hqp, nestF, pl_at X q hlt] at this
        exact this)
      obtain ⟨xa, xb, xc, xd, ea, ee, _, _, _, _⟩ := inMem_shape hm
      rw [ea] at c2
      rw [ee] at c3
      have HOP := Lib.hid (fun W => i_opened X[q].kind X[q].name (.slice xa X[q].args.length xc) (.slice xb X[q].expr.length xd) W)
      have HC := Lib.hid (opn_cases X[q].kind)
      generalize X[q].kind = kd at *
      generalize X[q].name = nm at *
      generalize X[q].args.length = na at *
      generalize X[q].expr.length = ne at *
      have hob : -1 ≤ opn kd ∧ opn kd ≤ 1 := by have := HC.out; omega
      have k0 : (0 : Int) ≤ (q : Int) := by omega
      have k1 : (q : Int) < (X.length : Int) := by omega
      generalize opn kd = od at *
      have HB1r : Hid (Below wr.heap.size wr (wr.alloc (.cells #[.int .i64 kd, .string nm, .slice xa na xc, .slice xb ne xd] 34))) := Lib.hid ((Below.refl _ _).alloc (Nat.le_refl _) _)
      have zr : (wr.alloc (.cells #[.int .i64 kd, .string nm, .slice xa na xc, .slice xb ne xd] 34)).heap.size = wr.heap.size + 1 := by simp
      clear hm ea ee HC hbel HP
      by_cases h5 : 5 < z + od
      · have HV : Hid (¬ nestF 0 (plL X)) := Lib.hid (fun h => by have := (HST.out.2 h).1; omega)
        have hd : decide (5 < z + od) = true := decide_eq_true h5
        clear HST h5
        go_wp2_with fail
        refine (HOP.out _).mono ?_
        rintro e w2 ⟨rfl, b2⟩
        have HB2 : Hid (Below w.heap.size w w2) := Lib.hid (HB.out.trans ((HB1r.out.trans (b2.mono (by omega))).mono hB))
        clear b2 c0 c1 c2 c3
        go_wp2
        go_ret
        exact Ans.of false rfl (by simpa using HV.out) HB2.out
      · have HN : Hid (nestF (z + od) ((plL X).drop (q + 1)) ↔ nestF 0 (plL X)) := Lib.hid (by
          rw [← HST.out]
          exact ⟨fun h => ⟨by omega, h⟩, fun h => h.2⟩)
        have hd : decide (5 < z + od) = false := decide_eq_false h5
        clear HST h5
        go_wp2_with fail
        refine (HOP.out _).mono ?_
        rintro e w2 ⟨rfl, b2⟩
        have HB2 : Hid (Below w.heap.size w w2) := Lib.hid (HB.out.trans ((HB1r.out.trans (b2.mono (by omega))).mono hB))
        clear b2 c0 c1 c2 c3
        go_wp2
        go_roundw
        case rel => exact ⟨q + 1, z + od, by omega, by go_num, by go_num, by omega, by omega, HN, HB2.out⟩
        case measure => simp [RowKit.intOf]; omega
    · have HV : Hid (nestF 0 (plL X)) := Lib.hid (by
        have := HP.out
        rw [List.drop_of_length_le (by omega)] at this
        exact this.1 trivial)
      have hqq : q = X.length := by omega
      subst hqq
      clear hbel HP
      go_wp2
      go_ret
      exact Ans.of true rfl (by simpa using HV.out) HB.out

set_option maxRecDepth 100000 in
set_option maxHeartbeats 4000000 in
theorem i_ifOf (a : Option Addr) (cap : Nat) (X : List LnL) (n : Nat) (w : World) (hl : X.length ≤ 1048576) (hn : n ≤ 1048576) (hr : ReadL 9 70 w a X) :
    Calls Tryd.prog 47 #[.slice a X.length cap, .int .i64 (n : Int)] w fun e w' => ∃ r : Int, e = .returned (.int .i64 r) ∧ (decide (r < 0) = false ↔ ∃ j : Nat, j < n ∧ elseZ (plL X) j = (n : Int)) ∧ Below w.heap.size w w' := by
  have HE := Lib.hid (fun (W : World) (hb : Below w.heap.size w W) k => i_elseOf a cap X k W (by omega) (hr.below hb))
  clear hr
  go_enter Tryd.func47, Tryd.ntmps47
  go_wp2_with fail
  go_loopw [5, 7] (fun _ i wr => ∃ q : Nat, q ≤ n ∧ i = .int .i64 (q : Int) ∧ Hid (∀ j : Nat, j < q → elseZ (plL X) j ≠ (n : Int)) ∧ Below w.heap.size w wr) (fun _ i _ => n - (RowKit.intOf i).toNat)
  case atStart => exact ⟨0, Nat.zero_le _, rfl, Lib.hid (fun j hj => by omega), Below.refl _ _⟩
  case round =>
    obtain ⟨q, hq, rfl, HP, hbel⟩ := hrel
    have HB := Lib.hid hbel
    have hB := hbel.size
    by_cases hlt : q < n
    · have HEQ := Lib.hid (HE.out wr hbel q)
      have HPN := Lib.hid (fun (h : elseZ (plL X) q ≠ (n : Int)) => show ∀ j : Nat, j < q + 1 → elseZ (plL X) j ≠ (n : Int) from fun j hj => by
        by_cases hjq : j = q
        · subst hjq; exact h
        · exact HP.out j (by omega))
      have HPY := Lib.hid (fun (h : elseZ (plL X) q = (n : Int)) => show ∃ j : Nat, j < n ∧ elseZ (plL X) j = (n : Int) from ⟨q, hlt, h⟩)
      generalize elseZ (plL X) (q : Int) = e at *
      clear hbel
      by_cases he : e = (n : Int)
      · subst he
        have HY := Lib.hid (HPY.out rfl)
        have hdn : decide ((q : Int) < 0) = false := decide_eq_false (by omega)
        clear HPN HPY
        go_wp2_with fail
        refine HEQ.out.mono ?_
        rintro e w2 ⟨rfl, b2⟩
        have HB2 : Hid (Below w.heap.size w w2) := Lib.hid (HB.out.trans (b2.mono hB))
        clear b2
        go_wp2
        go_ret
        exact ⟨(q : Int), rfl, ⟨fun _ => HY.out, fun _ => hdn⟩, HB2.out⟩
      · have HN := Lib.hid (HPN.out he)
        have hd : (e == (n : Int)) = false := by simpa using he
        clear HPN HPY he
        go_wp2_with fail
        refine HEQ.out.mono ?_
        rintro e w2 ⟨rfl, b2⟩
        have HB2 : Hid (Below w.heap.size w w2) := Lib.hid (HB.out.trans (b2.mono hB))
        clear b2
        go_wp2
        go_roundw
        case rel => exact ⟨q + 1, by omega, by go_num, HN, HB2.out⟩
        case measure => simp [RowKit.intOf]; omega
    · have HV : Hid (¬ ∃ j : Nat, j < n ∧ elseZ (plL X) j = (n : Int)) := Lib.hid (by
        rintro ⟨j, hj, h⟩
        exact HP.out j (by omega) h)
      have hqq : q = n := by omega
      subst hqq
      clear hbel HP
      go_wp2
      go_ret
      exact ⟨-1, rfl, ⟨(fun h => absurd h (by decide)), (fun h => absurd h HV.out)⟩, HB.out⟩

set_option maxRecDepth 100000 in
set_option maxHeartbeats 4000000 in
theorem i_elses (a : Option Addr) (cap : Nat) (X : List LnL) (w : World) (hl : X.length ≤ 1048576) (hr : ReadL 9 70 w a X) :
    Calls Tryd.prog 24 #[.slice a X.length cap] w (Ans (elsesF (plL X) 0 (plL X)) w) := by
  have HR := Lib.hid hr
  have hpl := plL_length X
  have HI := Lib.hid (fun (W : World) (hb : Below w.heap.size w W) (n : Nat) (hn : n ≤ 1048576) => i_ifOf a cap X n W hl hn (hr.below hb))
  clear hr
  go_enter Tryd.func24, Tryd.ntmps24
  go_wp2_with fail
  go_loopw [3, 4, 7] (fun _ _ i wr => ∃ q : Nat, q ≤ X.length ∧ i = .int .i64 (q : Int) ∧ Hid (elsesF (plL X) q ((plL X).drop q) ↔ elsesF (plL X) 0 (plL X)) ∧ Below w.heap.size w wr) (fun _ _ i _ => X.length - (RowKit.intOf i).toNat)
  case atStart => exact ⟨0, Nat.zero_le _, rfl, Lib.hid (by rw [List.drop_zero]), Below.refl _ _⟩
  case round =>
    obtain ⟨q, hq, rfl, HP, hbel⟩ := hrel
    have HB := Lib.hid hbel
    have hB := hbel.size
    by_cases hlt : q < X.length
    · obtain ⟨g, rfl, hg, ⟨c0, c1, c2, c3⟩, hm⟩ := (HR.out.below hbel) q hlt
      have hqp : q < (plL X).length := by omega
      have HST : Hid (((X[q].kind = 4 → ∃ j : Nat, j < q ∧ elseZ (plL X) j = (q : Int)) ∧ elsesF (plL X) (q + 1) ((plL X).drop (q + 1))) ↔ elsesF (plL X) 0 (plL X)) := Lib.hid (by
        have := HP.out
        rw [List.drop_eq_getElem_cons hqp, elsesF, pl_at X q hlt] at this
        exact this)
      obtain ⟨xa, xb, xc, xd, ea, ee, _, _, _, _⟩ := inMem_shape hm
      rw [ea] at c2
      rw [ee] at c3
      generalize X[q].kind = kd at *
      generalize X[q].name = nm at *
      generalize X[q].args.length = na at *
      generalize X[q].expr.length = ne at *
      have k0 : (0 : Int) ≤ (q : Int) := by omega
      have k1 : (q : Int) < (X.length : Int) := by omega
      have HB1r : Hid (Below wr.heap.size wr (wr.alloc (.cells #[.int .i64 kd, .string nm, .slice xa na xc, .slice xb ne xd] 34))) := Lib.hid ((Below.refl _ _).alloc (Nat.le_refl _) _)
      have zr : (wr.alloc (.cells #[.int .i64 kd, .string nm, .slice xa na xc, .slice xb ne xd] 34)).heap.size = wr.heap.size + 1 := by simp
      have HBA : Hid (Below w.heap.size w (wr.alloc (.cells #[.int .i64 kd, .string nm, .slice xa na xc, .slice xb ne xd] 34))) := Lib.hid (HB.out.trans (HB1r.out.mono hB))
      have HIQ := Lib.hid (HI.out _ HBA.out q (by omega))
      clear hm ea ee hbel HP
      by_cases h4 : kd = 4
      · subst h4
        go_wp2_with fail
        refine HIQ.out.mono ?_
        rintro e w2 ⟨r, rfl, hrr, b2⟩
        have HB2 : Hid (Below w.heap.size w w2) := Lib.hid (HBA.out.trans (b2.mono (by omega)))
        have HRR := Lib.hid hrr
        clear b2 c0 c1 c2 c3 hrr
        by_cases hr0 : r < 0
        · have hd : decide (r < 0) = true := decide_eq_true hr0
          have HV : Hid (¬ elsesF (plL X) 0 (plL X)) := Lib.hid (fun h => by
            have h1 := HRR.out.2 ((HST.out.2 h).1 (by first | exact trivial | rfl))
            rw [hd] at h1
            cases h1)
          clear HST HRR
          go_wp2
          go_ret
          exact Ans.of false rfl (by simpa using HV.out) HB2.out
        · have hd : decide (r < 0) = false := decide_eq_false hr0
          have HN : Hid (elsesF (plL X) (q + 1) ((plL X).drop (q + 1)) ↔ elsesF (plL X) 0 (plL X)) := Lib.hid (by
            rw [← HST.out]
            exact ⟨fun h => ⟨fun _ => HRR.out.1 hd, h⟩, fun h => h.2⟩)
          clear HST HRR
          go_wp2
          go_roundw
          case rel => exact ⟨q + 1, by omega, by go_num, HN, HB2.out⟩
          case measure => simp [RowKit.intOf]; omega
      · have hd : (kd == 4) = false := by simpa using h4
        have HN : Hid (elsesF (plL X) (q + 1) ((plL X).drop (q + 1)) ↔ elsesF (plL X) 0 (plL X)) := Lib.hid (by
          rw [← HST.out]
          exact ⟨fun h => ⟨fun h' => absurd h' h4, h⟩, fun h => h.2⟩)
        clear HST HIQ h4
        go_wp2
        go_roundw
        case rel => exact ⟨q + 1, by omega, by go_num, HN, HBA.out⟩
        case measure => simp [RowKit.intOf]; omega
    · have HV : Hid (elsesF (plL X) 0 (plL X)) := Lib.hid (by
        have := HP.out
        rw [List.drop_of_length_le (by omega)] at this
        exact this.1 trivial)
      have hqq : q = X.length := by omega
      subst hqq
      clear hbel HP
      go_wp2
      go_ret
      exact Ans.of true rfl (by simpa using HV.out) HB.out
end Go.Proofs.YthmllcpldgbbcaaDoor
