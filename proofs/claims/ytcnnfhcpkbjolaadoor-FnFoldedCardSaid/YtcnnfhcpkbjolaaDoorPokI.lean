/- Plain facts: The program's ProgramOk, check by check: lines, functions, their order, their blocks; The program's ProgramOk, check by check: functions, their order, blocks, elses; The program's ProgramOk, check by check: the functions' names; known variables and calls; The program's known, and the library's ContainsFunc over tokens; The program's namesFit, and ProgramOk; The program's ProgramOk. Nothing of the program. -/
import Derived.Test.YtcnnfhcpkbjolaaDoorLokImpl
import Derived.Test.YtcnnfhcpkbjolaaDoorFunLines
import Derived.Test.YtcnnfhcpkbjolaaDoorPlainR
import Derived.Test.YtcnnfhcpkbjolaaDoorElB
import Derived.Test.YtcnnfhcpkbjolaaDoorLocImpl
import Derived.Deep.QuietTactic
import Derived.BigQuiet
import Derived.Deep.RegionHeld3
/-! The program's ProgramOk, check by check: lines, functions, their order, their blocks -/
namespace Go.Proofs.YtcnnfhcpkbjolaaDoor
open Go.RowKit Go.Lib

/-- The first place where a test holds. -/
def fixI {α : Type} (pb : α → Bool) (l : List α) : Int := match l.findIdx? pb with
  | some j => (j : Int)
  | none => -1
theorem fixI_at {α : Type} (pb : α → Bool) (l : List α) (j : Nat) (h : j < l.length) (hj : pb l[j] = true) (hno : ∀ i, ∀ h : i < j, pb l[i] = false) : fixI pb l = (j : Int) := by
  unfold fixI
  have : l.findIdx? pb = some j := by
    rw [List.findIdx?_eq_some_iff_getElem]
    exact ⟨h, hj, fun i hi => by rw [hno i hi]; decide⟩
  rw [this]
theorem fixI_none {α : Type} (pb : α → Bool) (l : List α) (h : ∀ j, ∀ h : j < l.length, pb l[j] = false) : fixI pb l = -1 := by
  unfold fixI
  have : l.findIdx? pb = none := by
    rw [List.findIdx?_eq_none_iff]
    intro x hx
    obtain ⟨j, hj, rfl⟩ := List.mem_iff_getElem.1 hx
    exact h j hj
  rw [this]
theorem fixI_any {α : Type} (pb : α → Bool) (l : List α) : decide (0 ≤ fixI pb l) = l.any pb := by
  unfold fixI
  cases h : l.findIdx? pb with
  | some j =>
    simp only
    rw [decide_eq_true (by omega)]
    obtain ⟨hj, hx, _⟩ := List.findIdx?_eq_some_iff_getElem.1 h
    exact (List.any_eq_true.2 ⟨_, List.getElem_mem hj, hx⟩).symm
  | none =>
    simp only
    rw [List.findIdx?_eq_none_iff] at h
    cases hc : l.any pb with
    | false => rfl
    | true =>
      obtain ⟨x, hx, hp⟩ := List.any_eq_true.1 hc
      rw [h x hx] at hp; cases hp
/-- What is asked of the lines' sizes. -/
def SzAl (X : List LnL) : Prop := ∀ x ∈ X, SmallL x.p
theorem szOk_of {x : LnL} (h : SmallL x.p) (c : Nat) (h1 : x.args.length ≤ c) (h2 : c ≤ maxLen) : SzOk x.p c :=
  ⟨by have := h.2.1; omega, h1, h2, fun s hs => small_max (h.2.2.1 s hs), small_max h.1, h.2.2.2.1, fun j hj => small_max (h.2.2.2.2 _ (List.getElem_mem hj))⟩

set_option maxRecDepth 100000 in
set_option maxHeartbeats 1000000 in
/-- The closure: is a line not valid? -/
theorem i_badLine (p : PLine) (a b : Option Addr) (c d : Nat) (w : World) (hA : ReadS w a p.args) (hT : ReadT w b p.expr) (hs : SzOk p c) (hsh : Shapes w) :
    Calls Tryd.prog 83 #[.agg #[.int .i64 p.kind, .string p.name, .slice a p.args.length c, .slice b p.expr.length d]] w fun e w' => e = .returned (.bool (!lineB p)) ∧ Below w.heap.size w w' := by
  have hb0 := (Below.refl w.heap.size w).alloc (Nat.le_refl _) (.cells #[.int .i64 p.kind, .string p.name, .slice a p.args.length c, .slice b p.expr.length d] 48)
  have HL := Lib.hid (i_lineok p a b c d _ (hA.below hb0) (hT.below hb0) hs (hsh.on hb0))
  have HB0 := Lib.hid hb0
  have hz : (w.alloc (.cells #[.int .i64 p.kind, .string p.name, .slice a p.args.length c, .slice b p.expr.length d] 48)).heap.size = w.heap.size + 1 := by simp
  obtain ⟨r, hr⟩ : ∃ r, lineB p = r := ⟨_, rfl⟩
  rw [hr] at HL ⊢
  obtain ⟨k, nm, gs, ex⟩ := p
  dsimp only at HL HB0 hz ⊢
  clear hA hT hs hsh hb0 hr
  go_enter Tryd.func83, Tryd.ntmps83
  go_wp2_with fail
  refine HL.out.mono ?_
  rintro e w1 ⟨rfl, b1⟩
  have HB1 : Hid (Below w.heap.size w w1) := Lib.hid (HB0.out.trans (b1.mono (by omega)))
  clear b1
  go_wp2
  go_ret
  exact ⟨rfl, HB1.out⟩

set_option maxRecDepth 100000 in
set_option maxHeartbeats 2000000 in
theorem i_indexBad (a : Option Addr) (cap : Nat) (X : List LnL) (w : World) (hl : X.length ≤ 2000000) (hr : ReadL 9 83 w a X) (hz : SzAl X) (hsh : Shapes w) :
    Calls Tryd.prog 108 #[.slice a X.length cap, .func (.func 83) #[] #[]] w fun e w' => e = .returned (.int .i64 (fixI (fun p => !lineB p) (plL X))) ∧ Below w.heap.size w w' := by
  have HR := Lib.hid hr
  have HZ := Lib.hid hz
  have HSH := Lib.hid hsh
  have hpl := plL_length X
  clear hr hz hsh
  go_enter Tryd.func108, Tryd.ntmps108
  go_wp2_with fail
  go_loopw [5, 8] (fun _ i wr => ∃ q : Nat, q ≤ X.length ∧ i = .int .i64 (q : Int) ∧ Hid (∀ j, ∀ h : j < (plL X).length, j < q → (!lineB (plL X)[j]) = false) ∧ Below w.heap.size w wr) (fun _ i _ => X.length - (RowKit.intOf i).toNat)
  case atStart => exact ⟨0, Nat.zero_le _, rfl, Lib.hid (fun j _ h => by omega), Below.refl _ _⟩
  case round =>
    obtain ⟨q, hq, rfl, HE, hbel⟩ := hrel
    have HB := Lib.hid hbel
    have hB := hbel.size
    by_cases hlt : q < X.length
    · obtain ⟨g, rfl, hg, ⟨c0, c1, c2, c3⟩, hm⟩ := (HR.out.below hbel) q hlt
      have hqp : q < (plL X).length := by omega
      have hsm := HZ.out _ (List.getElem_mem hlt)
      have HAT := Lib.hid (fun h => fixI_at (fun p => !lineB p) (plL X) q hqp h (fun i hi => HE.out i (by omega) hi))
      have HNX := Lib.hid (fun (h : (!lineB (plL X)[q]) = false) => show ∀ j, ∀ h : j < (plL X).length, j < q + 1 → (!lineB (plL X)[j]) = false from fun j hj hjq => by
        by_cases hjj : j = q
        · subst hjj; exact h
        · exact HE.out j hj (by omega))
      rw [pl_at X q hlt] at HAT HNX
      obtain ⟨xa, xb, xc, xd, ea, ee, rs, rt, hcap, _⟩ := inMem_shape hm
      rw [ea] at c2
      rw [ee] at c3
      have HF := Lib.hid (i_badLine X[q].p xa xb xc xd wr rs rt (szOk_of hsm xc hcap.1 hcap.2) (HSH.out.on hbel))
      obtain ⟨r, hr⟩ : ∃ r, lineB X[q].p = r := ⟨_, rfl⟩
      rw [hr] at HF HAT HNX
      obtain ⟨x, hx⟩ : ∃ x, X[q] = x := ⟨_, rfl⟩
      rw [hx] at c0 c1 c2 c3 HF
      obtain ⟨kk, nm, gs, ex, va, ve⟩ := x
      dsimp only [LnL.p] at c0 c1 c2 c3 HF
      have k0 : (0 : Int) ≤ (q : Int) := by omega
      have k1 : (q : Int) < (X.length : Int) := by omega
      clear hbel hm ea ee hr hx rs rt hcap hsm
      cases r
      · have HV := Lib.hid (HAT.out rfl)
        clear HAT HNX
        go_wp2_with fail
        refine HF.out.mono ?_
        rintro e w1 ⟨rfl, b1⟩
        have HB1 : Hid (Below w.heap.size w w1) := Lib.hid (HB.out.trans (b1.mono hB))
        clear b1 c0 c1 c2 c3
        go_wp2
        go_ret
        exact ⟨by rw [HV.out]; rfl, HB1.out⟩
      · have HN := Lib.hid (HNX.out rfl)
        clear HAT HNX
        go_wp2_with fail
        refine HF.out.mono ?_
        rintro e w1 ⟨rfl, b1⟩
        have HB1 : Hid (Below w.heap.size w w1) := Lib.hid (HB.out.trans (b1.mono hB))
        clear b1 c0 c1 c2 c3
        go_wp2
        go_roundw
        case rel => exact ⟨q + 1, by omega, by go_num, HN, HB1.out⟩
        case measure => simp [RowKit.intOf]; omega
    · have HV := Lib.hid (fixI_none (fun p => !lineB p) (plL X) (fun j hj => HE.out j hj (by omega)))
      have hqq : q = X.length := by omega
      subst hqq
      clear hbel
      go_wp2
      go_ret
      exact ⟨by rw [HV.out]; rfl, HB.out⟩

/-- The lines are few, and valid. -/
def linesB (p : List PLine) : Bool := decide (p.length ≤ 60) && p.all lineB
theorem linesB_iff (p : List PLine) : linesB p = true ↔ (p.length ≤ 60 ∧ ∀ x ∈ p, lineB x = true) := by
  unfold linesB
  rw [Bool.and_eq_true, decide_eq_true_eq, List.all_eq_true]
theorem any_not (p : List PLine) : (!p.any fun p => !lineB p) = p.all lineB := by
  rw [List.not_any_eq_all_not]
  congr 1
  funext x
  rw [Bool.not_not]

set_option maxHeartbeats 1000000 in
theorem x_containsBad (a : Option Addr) (cap : Nat) (X : List LnL) (w : World) (hl : X.length ≤ 2000000) (hr : ReadL 9 83 w a X) (hz : SzAl X) (hsh : Shapes w) :
    Calls Tryd.prog 82 #[.slice a X.length cap, .func (.func 83) #[] #[]] w fun e w' => e = .returned (.bool (!(plL X).all lineB)) ∧ Below w.heap.size w w' := by
  have HC := Lib.hid (i_indexBad a cap X w hl hr hz hsh)
  have HM : Hid (decide (0 ≤ fixI (fun p => !lineB p) (plL X)) = !(plL X).all lineB) := Lib.hid (by rw [fixI_any, ← any_not, Bool.not_not])
  clear hr hz hsh
  go_enter Tryd.func82, Tryd.ntmps82
  go_wp2_with fail
  refine HC.out.mono ?_
  rintro e w1 ⟨rfl, b1⟩
  have HB := Lib.hid b1
  clear b1
  generalize fixI (fun p => !lineB p) (plL X) = r at *
  go_wp2
  go_ret
  exact ⟨ret_b HM.out, HB.out⟩
set_option maxHeartbeats 1000000 in
theorem i_linesFit (a : Option Addr) (cap : Nat) (X : List LnL) (w : World) (hl : X.length ≤ 2000000) (hr : ReadL 9 83 w a X) (hz : SzAl X) (hsh : Shapes w) :
    Calls Tryd.prog 57 #[.slice a X.length cap] w fun e w' => e = .returned (.bool (linesB (plL X))) ∧ Below w.heap.size w w' := by
  have HC := Lib.hid (x_containsBad a cap X w hl hr hz hsh)
  have hpl := plL_length X
  clear hr hz hsh
  by_cases h60 : X.length ≤ 60
  · have HV : Hid (linesB (plL X) = (plL X).all lineB) := Lib.hid (by unfold linesB; rw [decide_eq_true (by omega)]; rfl)
    have hd : decide ((X.length : Int) ≤ 60) = true := decide_eq_true (by omega)
    generalize (plL X).all lineB = r at *
    clear hpl
    go_enter Tryd.func57, Tryd.ntmps57
    go_wp2_with fail
    refine HC.out.mono ?_
    rintro e w1 ⟨rfl, b1⟩
    have HB := Lib.hid b1
    clear b1
    go_wp2
    go_ret
    exact ⟨ret_b (by rw [HV.out]), HB.out⟩
  · have HV : Hid (linesB (plL X) = false) := Lib.hid (by unfold linesB; rw [decide_eq_false (by omega)]; rfl)
    have hd : decide ((X.length : Int) ≤ 60) = false := decide_eq_false (by omega)
    clear hpl
    go_enter Tryd.func57, Tryd.ntmps57
    go_wp2
    go_ret
    exact ⟨ret_b HV.out.symm, Below.refl _ _⟩
end Go.Proofs.YtcnnfhcpkbjolaaDoor

/-! The program's ProgramOk, check by check: functions, their order, blocks, elses -/
namespace Go.Proofs.YtcnnfhcpkbjolaaDoor
open Go.RowKit Go.Lib

/-- A check's answer. -/
def Ans (P : Prop) (w : World) (e : Ending) (w' : World) : Prop := ∃ b : Bool, e = .returned (.bool b) ∧ (b = true ↔ P) ∧ Below w.heap.size w w'
theorem Ans.of {P : Prop} {w w' : World} {e : Ending} (b : Bool) (h : e = .returned (.bool b)) (hp : b = true ↔ P) (hb : Below w.heap.size w w') : Ans P w e w' := ⟨b, h, hp, hb⟩
theorem funI_get (p : List PLine) (i : Nat) (h : i < (funI p).length) : ∃ h' : i < (funs p).length, (funI p)[i] = ((funs p)[i] : Int) := by
  have h' : i < (funs p).length := by unfold funI at h; rwa [List.length_map] at h
  exact ⟨h', by simp [funI]⟩
theorem funI_length (p : List PLine) : (funI p).length = (funs p).length := by unfold funI; rw [List.length_map]
theorem funs_lt (p : List PLine) (i : Nat) (h : i < (funs p).length) : (funs p)[i] < p.length := by
  have := (funF_ge p 0 _ (List.getElem_mem h)).2
  rwa [Nat.zero_add] at this
theorem follow_ends (p : List PLine) (l : List Nat) : ∀ n, followF p n l → ∀ k ∈ l, 0 ≤ beZ p (k : Int) := by
  induction l with
  | nil => intro n _ k hk; cases hk
  | cons x r ih =>
    intro n h k hk
    rcases List.mem_cons.1 hk with rfl | hk
    · exact h.2.1
    · exact ih _ h.2.2 k hk

set_option maxRecDepth 100000 in
set_option maxHeartbeats 4000000 in
theorem i_funFollow (a : Option Addr) (cap : Nat) (X : List LnL) (w : World) (hl : X.length ≤ 1048576) (hr : ReadL 9 83 w a X) :
    Calls Tryd.prog 59 #[.slice a X.length cap] w (Ans (followF (plL X) 0 (funs (plL X))) w) := by
  have HR := Lib.hid hr
  have hpl := plL_length X
  have HF := Lib.hid (i_funLines a cap X w hl hr)
  have HE := Lib.hid (fun (W : World) (hb : Below w.heap.size w W) k => i_endOf a cap X k W (by omega) (hr.below hb))
  clear hr
  go_enter Tryd.func59, Tryd.ntmps59
  go_wp2_with fail
  refine HF.out.mono ?_
  rintro e w1 ⟨v, rfl, hown, b1⟩
  obtain ⟨av, cv, rfl⟩ := owns3_shape hown
  have HRI := Lib.hid (readI_of hown)
  have HB1 := Lib.hid b1
  have z1 := b1.size
  have hfl := funI_length (plL X)
  obtain ⟨F, hF⟩ : ∃ F, funI (plL X) = F := ⟨_, rfl⟩
  have HFG := Lib.hid (fun i h => funI_get (plL X) i h)
  rw [hF] at HRI hfl HFG
  have HFL := Lib.hid hfl
  obtain ⟨n, hn⟩ : ∃ n, F.length = n := ⟨_, rfl⟩
  rw [hn] at hfl
  have hnn : n ≤ 1048576 := by
    have h2 : (funs (plL X)).length ≤ (plL X).length := by
      have hh : ∀ (l : List PLine) i, (funF i l).length ≤ l.length := by
        intro l
        induction l with
        | nil => intro i; exact Nat.le_refl _
        | cons x r ih =>
          intro i
          have := ih (i + 1)
          unfold funF
          split
          · rw [List.length_cons, List.length_cons]; omega
          · rw [List.length_cons]; omega
      exact hh _ 0
    omega
  have HNN := Lib.hid hn
  rw [hF, hn]
  clear b1 hown hF hn HF hfl
  go_wp2_with fail
  go_loopw [3, 5, 6, 10] (fun x _ _ i wr => ∃ (q : Nat) (m : Int), q ≤ n ∧ i = .int .i64 (q : Int) ∧ x = .int .i64 m ∧ 0 ≤ m ∧ m ≤ 1048577 ∧ Hid (followF (plL X) m ((funs (plL X)).drop q) ↔ followF (plL X) 0 (funs (plL X))) ∧ Below w.heap.size w wr ∧ Below w1.heap.size w1 wr) (fun _ _ _ i _ => n - (RowKit.intOf i).toNat)
  case atStart => exact ⟨0, 0, Nat.zero_le _, rfl, rfl, by omega, by omega, Lib.hid (by rw [List.drop_zero]), HB1.out, Below.refl _ _⟩
  case round =>
    obtain ⟨q, m, hq, rfl, rfl, hm0, hm1, HP, hbel, hbel1⟩ := hrel
    have HB := Lib.hid hbel
    have HC := Lib.hid hbel1
    have hB := hbel.size
    have hC := hbel1.size
    by_cases hlt : q < n
    · have hqF : q < F.length := by rw [HNN.out]; exact hlt
      obtain ⟨g, rfl, hg, c0⟩ := (HRI.out.below hbel1) q hqF
      obtain ⟨hq', hget⟩ := HFG.out q hqF
      rw [hget] at c0
      have hklt := funs_lt (plL X) q hq'
      have HST : Hid (((((funs (plL X))[q] : Nat) : Int) = m ∧ 0 ≤ beZ (plL X) (((funs (plL X))[q] : Nat) : Int) ∧ followF (plL X) (beZ (plL X) (((funs (plL X))[q] : Nat) : Int) + 1) ((funs (plL X)).drop (q + 1))) ↔ followF (plL X) 0 (funs (plL X))) := Lib.hid (by
        have := HP.out
        rw [List.drop_eq_getElem_cons hq', followF] at this
        exact this)
      obtain ⟨k, hk⟩ : ∃ k, (funs (plL X))[q] = k := ⟨_, rfl⟩
      rw [hk] at c0 hklt HST
      have hbz := beZ_lt (plL X) (k : Int)
      have HEK := Lib.hid (HE.out wr hbel k)
      obtain ⟨E, hE⟩ : ∃ E, beZ (plL X) (k : Int) = E := ⟨_, rfl⟩
      rw [hE] at HST HEK hbz
      have k0 : (0 : Int) ≤ (q : Int) := by omega
      have k1 : (q : Int) < (n : Int) := by omega
      clear hk hE hget hqF hq' hbel hbel1
      by_cases hkm : (k : Int) = m
      · subst hkm
        by_cases hE0 : E < 0
        · have HV : Hid (¬ followF (plL X) 0 (funs (plL X))) := Lib.hid (fun h => by have := (HST.out.2 h).2.1; omega)
          have hd : decide (E < 0) = true := decide_eq_true hE0
          clear HST
          go_wp2_with fail
          refine HEK.out.mono ?_
          rintro e w2 ⟨rfl, b2⟩
          have HB2 : Hid (Below w.heap.size w w2) := Lib.hid (HB.out.trans (b2.mono hB))
          clear b2 c0
          go_wp2
          go_ret
          exact Ans.of false rfl (by simpa using HV.out) HB2.out
        · have HN : Hid (followF (plL X) (E + 1) ((funs (plL X)).drop (q + 1)) ↔ followF (plL X) 0 (funs (plL X))) := Lib.hid (by
            rw [← HST.out]
            exact ⟨fun h => ⟨rfl, by omega, h⟩, fun h => h.2.2⟩)
          have hd : decide (E < 0) = false := decide_eq_false hE0
          clear HST HP
          go_wp2_with fail
          refine HEK.out.mono ?_
          rintro e w2 ⟨rfl, b2⟩
          have HB2 : Hid (Below w.heap.size w w2) := Lib.hid (HB.out.trans (b2.mono hB))
          have HC2 : Hid (Below w1.heap.size w1 w2) := Lib.hid (HC.out.trans (b2.mono hC))
          clear b2 c0
          go_wp2
          go_roundw
          case rel => exact ⟨q + 1, E + 1, by omega, by go_num, by go_num, by omega, by omega, HN, HB2.out, HC2.out⟩
          case measure => simp [RowKit.intOf]; omega
      · have HV : Hid (¬ followF (plL X) 0 (funs (plL X))) := Lib.hid (fun h => hkm (HST.out.2 h).1)
        have hd : ((k : Int) != m) = true := by simpa using hkm
        clear HST hkm
        go_wp2_with fail
        refine HEK.out.mono ?_
        rintro e w2 ⟨rfl, b2⟩
        have HB2 : Hid (Below w.heap.size w w2) := Lib.hid (HB.out.trans (b2.mono hB))
        clear b2 c0
        go_wp2
        go_ret
        exact Ans.of false rfl (by simpa using HV.out) HB2.out
    · have hqq : q = n := by omega
      have HV : Hid (m = (X.length : Int) ↔ followF (plL X) 0 (funs (plL X))) := Lib.hid (by
        have := HP.out
        rw [List.drop_of_length_le (by have := HFL.out; have := HNN.out; omega), followF, hpl] at this
        exact this)
      subst hqq
      clear hbel hbel1 HP
      go_wp2
      go_ret
      exact Ans.of (m == (X.length : Int)) rfl (by rw [← HV.out]; simp) HB.out

set_option maxRecDepth 100000 in
set_option maxHeartbeats 4000000 in
theorem i_nesting (a : Option Addr) (cap : Nat) (X : List LnL) (w : World) (hl : X.length ≤ 1048576) (hr : ReadL 9 83 w a X) :
    Calls Tryd.prog 60 #[.slice a X.length cap] w (Ans (nestF 0 (plL X)) w) := by
  have HR := Lib.hid hr
  have hpl := plL_length X
  clear hr
  go_enter Tryd.func60, Tryd.ntmps60
  go_wp2_with fail
  go_loopw [3, 5, 8] (fun o _ i wr => ∃ (q : Nat) (z : Int), q ≤ X.length ∧ i = .int .i64 (q : Int) ∧ o = .int .i64 z ∧ -(q : Int) ≤ z ∧ z ≤ (q : Int) ∧ Hid (nestF z ((plL X).drop q) ↔ nestF 0 (plL X)) ∧ Below w.heap.size w wr) (fun _ _ i _ => X.length - (RowKit.intOf i).toNat)
  case atStart => exact ⟨0, 0, Nat.zero_le _, rfl, rfl, by omega, by omega, Lib.hid (by rw [List.drop_zero]), Below.refl _ _⟩
  case round =>
    obtain ⟨q, z, hq, rfl, rfl, hz1, hz2, HP, hbel⟩ := hrel
    have HB := Lib.hid hbel
    have hB := hbel.size
    by_cases hlt : q < X.length
    · obtain ⟨g, rfl, hg, ⟨c0, c1, c2, c3⟩, hm⟩ := (HR.out.below hbel) q hlt
      have hqp : q < (plL X).length := by omega
      have HST : Hid ((z + opn X[q].kind ≤ 5 ∧ nestF (z + opn X[q].kind) ((plL X).drop (q + 1))) ↔ nestF 0 (plL X)) := Lib.hid (by
        have := HP.out
        rw [List.drop_eq_getElem_cons hqp, nestF, pl_at X q hlt] at this
        exact this)
      obtain ⟨xa, xb, xc, xd, ea, ee, _, _, _, _⟩ := inMem_shape hm
      rw [ea] at c2
      rw [ee] at c3
      have HOP := Lib.hid (fun W => i_opened X[q].kind X[q].name (.slice xa X[q].args.length xc) (.slice xb X[q].expr.length xd) W)
      have HC := Lib.hid (opn_cases X[q].kind)
      generalize X[q].kind = kd at *
      generalize X[q].name = nm at *
      generalize X[q].args.length = na at *
      generalize X[q].expr.length = ne at *
      have hob : -1 ≤ opn kd ∧ opn kd ≤ 1 := by have := HC.out; omega
      have k0 : (0 : Int) ≤ (q : Int) := by omega
      have k1 : (q : Int) < (X.length : Int) := by omega
      generalize opn kd = od at *
      have HB1r : Hid (Below wr.heap.size wr (wr.alloc (.cells #[.int .i64 kd, .string nm, .slice xa na xc, .slice xb ne xd] 48))) := Lib.hid ((Below.refl _ _).alloc (Nat.le_refl _) _)
      have zr : (wr.alloc (.cells #[.int .i64 kd, .string nm, .slice xa na xc, .slice xb ne xd] 48)).heap.size = wr.heap.size + 1 := by simp
      clear hm ea ee HC hbel HP
      by_cases h5 : 5 < z + od
      · have HV : Hid (¬ nestF 0 (plL X)) := Lib.hid (fun h => by have := (HST.out.2 h).1; omega)
        have hd : decide (5 < z + od) = true := decide_eq_true h5
        clear HST h5
        go_wp2_with fail
        refine (HOP.out _).mono ?_
        rintro e w2 ⟨rfl, b2⟩
        have HB2 : Hid (Below w.heap.size w w2) := Lib.hid (HB.out.trans ((HB1r.out.trans (b2.mono (by omega))).mono hB))
        clear b2 c0 c1 c2 c3
        go_wp2
        go_ret
        exact Ans.of false rfl (by simpa using HV.out) HB2.out
      · have HN : Hid (nestF (z + od) ((plL X).drop (q + 1)) ↔ nestF 0 (plL X)) := Lib.hid (by
          rw [← HST.out]
          exact ⟨fun h => ⟨by omega, h⟩, fun h => h.2⟩)
        have hd : decide (5 < z + od) = false := decide_eq_false h5
        clear HST h5
        go_wp2_with fail
        refine (HOP.out _).mono ?_
        rintro e w2 ⟨rfl, b2⟩
        have HB2 : Hid (Below w.heap.size w w2) := Lib.hid (HB.out.trans ((HB1r.out.trans (b2.mono (by omega))).mono hB))
        clear b2 c0 c1 c2 c3
        go_wp2
        go_roundw
        case rel => exact ⟨q + 1, z + od, by omega, by go_num, by go_num, by omega, by omega, HN, HB2.out⟩
        case measure => simp [RowKit.intOf]; omega
    · have HV : Hid (nestF 0 (plL X)) := Lib.hid (by
        have := HP.out
        rw [List.drop_of_length_le (by omega)] at this
        exact this.1 trivial)
      have hqq : q = X.length := by omega
      subst hqq
      clear hbel HP
      go_wp2
      go_ret
      exact Ans.of true rfl (by simpa using HV.out) HB.out

set_option maxRecDepth 100000 in
set_option maxHeartbeats 4000000 in
theorem i_ifOf (a : Option Addr) (cap : Nat) (X : List LnL) (n : Nat) (w : World) (hl : X.length ≤ 1048576) (hn : n ≤ 1048576) (hr : ReadL 9 83 w a X) :
    Calls Tryd.prog 89 #[.slice a X.length cap, .int .i64 (n : Int)] w fun e w' => ∃ r : Int, e = .returned (.int .i64 r) ∧ (decide (r < 0) = false ↔ ∃ j : Nat, j < n ∧ elseZ (plL X) j = (n : Int)) ∧ Below w.heap.size w w' := by
  have HE := Lib.hid (fun (W : World) (hb : Below w.heap.size w W) k => i_elseOf a cap X k W (by omega) (hr.below hb))
  clear hr
  go_enter Tryd.func89, Tryd.ntmps89
  go_wp2_with fail
  go_loopw [5, 7] (fun _ i wr => ∃ q : Nat, q ≤ n ∧ i = .int .i64 (q : Int) ∧ Hid (∀ j : Nat, j < q → elseZ (plL X) j ≠ (n : Int)) ∧ Below w.heap.size w wr) (fun _ i _ => n - (RowKit.intOf i).toNat)
  case atStart => exact ⟨0, Nat.zero_le _, rfl, Lib.hid (fun j hj => by omega), Below.refl _ _⟩
  case round =>
    obtain ⟨q, hq, rfl, HP, hbel⟩ := hrel
    have HB := Lib.hid hbel
    have hB := hbel.size
    by_cases hlt : q < n
    · have HEQ := Lib.hid (HE.out wr hbel q)
      have HPN := Lib.hid (fun (h : elseZ (plL X) q ≠ (n : Int)) => show ∀ j : Nat, j < q + 1 → elseZ (plL X) j ≠ (n : Int) from fun j hj => by
        by_cases hjq : j = q
        · subst hjq; exact h
        · exact HP.out j (by omega))
      have HPY := Lib.hid (fun (h : elseZ (plL X) q = (n : Int)) => show ∃ j : Nat, j < n ∧ elseZ (plL X) j = (n : Int) from ⟨q, hlt, h⟩)
      generalize elseZ (plL X) (q : Int) = e at *
      clear hbel
      by_cases he : e = (n : Int)
      · subst he
        have HY := Lib.hid (HPY.out rfl)
        have hdn : decide ((q : Int) < 0) = false := decide_eq_false (by omega)
        clear HPN HPY
        go_wp2_with fail
        refine HEQ.out.mono ?_
        rintro e w2 ⟨rfl, b2⟩
        have HB2 : Hid (Below w.heap.size w w2) := Lib.hid (HB.out.trans (b2.mono hB))
        clear b2
        go_wp2
        go_ret
        exact ⟨(q : Int), rfl, ⟨fun _ => HY.out, fun _ => hdn⟩, HB2.out⟩
      · have HN := Lib.hid (HPN.out he)
        have hd : (e == (n : Int)) = false := by simpa using he
        clear HPN HPY he
        go_wp2_with fail
        refine HEQ.out.mono ?_
        rintro e w2 ⟨rfl, b2⟩
        have HB2 : Hid (Below w.heap.size w w2) := Lib.hid (HB.out.trans (b2.mono hB))
        clear b2
        go_wp2
        go_roundw
        case rel => exact ⟨q + 1, by omega, by go_num, HN, HB2.out⟩
        case measure => simp [RowKit.intOf]; omega
    · have HV : Hid (¬ ∃ j : Nat, j < n ∧ elseZ (plL X) j = (n : Int)) := Lib.hid (by
        rintro ⟨j, hj, h⟩
        exact HP.out j (by omega) h)
      have hqq : q = n := by omega
      subst hqq
      clear hbel HP
      go_wp2
      go_ret
      exact ⟨-1, rfl, ⟨(fun h => absurd h (by decide)), (fun h => absurd h HV.out)⟩, HB.out⟩

set_option maxRecDepth 100000 in
set_option maxHeartbeats 4000000 in
theorem i_elses (a : Option Addr) (cap : Nat) (X : List LnL) (w : World) (hl : X.length ≤ 1048576) (hr : ReadL 9 83 w a X) :
    Calls Tryd.prog 61 #[.slice a X.length cap] w (Ans (elsesF (plL X) 0 (plL X)) w) := by
  have HR := Lib.hid hr
  have hpl := plL_length X
  have HI := Lib.hid (fun (W : World) (hb : Below w.heap.size w W) (n : Nat) (hn : n ≤ 1048576) => i_ifOf a cap X n W hl hn (hr.below hb))
  clear hr
  go_enter Tryd.func61, Tryd.ntmps61
  go_wp2_with fail
  go_loopw [3, 4, 7] (fun _ _ i wr => ∃ q : Nat, q ≤ X.length ∧ i = .int .i64 (q : Int) ∧ Hid (elsesF (plL X) q ((plL X).drop q) ↔ elsesF (plL X) 0 (plL X)) ∧ Below w.heap.size w wr) (fun _ _ i _ => X.length - (RowKit.intOf i).toNat)
  case atStart => exact ⟨0, Nat.zero_le _, rfl, Lib.hid (by rw [List.drop_zero]), Below.refl _ _⟩
  case round =>
    obtain ⟨q, hq, rfl, HP, hbel⟩ := hrel
    have HB := Lib.hid hbel
    have hB := hbel.size
    by_cases hlt : q < X.length
    · obtain ⟨g, rfl, hg, ⟨c0, c1, c2, c3⟩, hm⟩ := (HR.out.below hbel) q hlt
      have hqp : q < (plL X).length := by omega
      have HST : Hid (((X[q].kind = 4 → ∃ j : Nat, j < q ∧ elseZ (plL X) j = (q : Int)) ∧ elsesF (plL X) (q + 1) ((plL X).drop (q + 1))) ↔ elsesF (plL X) 0 (plL X)) := Lib.hid (by
        have := HP.out
        rw [List.drop_eq_getElem_cons hqp, elsesF, pl_at X q hlt] at this
        exact this)
      obtain ⟨xa, xb, xc, xd, ea, ee, _, _, _, _⟩ := inMem_shape hm
      rw [ea] at c2
      rw [ee] at c3
      generalize X[q].kind = kd at *
      generalize X[q].name = nm at *
      generalize X[q].args.length = na at *
      generalize X[q].expr.length = ne at *
      have k0 : (0 : Int) ≤ (q : Int) := by omega
      have k1 : (q : Int) < (X.length : Int) := by omega
      have HB1r : Hid (Below wr.heap.size wr (wr.alloc (.cells #[.int .i64 kd, .string nm, .slice xa na xc, .slice xb ne xd] 48))) := Lib.hid ((Below.refl _ _).alloc (Nat.le_refl _) _)
      have zr : (wr.alloc (.cells #[.int .i64 kd, .string nm, .slice xa na xc, .slice xb ne xd] 48)).heap.size = wr.heap.size + 1 := by simp
      have HBA : Hid (Below w.heap.size w (wr.alloc (.cells #[.int .i64 kd, .string nm, .slice xa na xc, .slice xb ne xd] 48))) := Lib.hid (HB.out.trans (HB1r.out.mono hB))
      have HIQ := Lib.hid (HI.out _ HBA.out q (by omega))
      clear hm ea ee hbel HP
      by_cases h4 : kd = 4
      · subst h4
        go_wp2_with fail
        refine HIQ.out.mono ?_
        rintro e w2 ⟨r, rfl, hrr, b2⟩
        have HB2 : Hid (Below w.heap.size w w2) := Lib.hid (HBA.out.trans (b2.mono (by omega)))
        have HRR := Lib.hid hrr
        clear b2 c0 c1 c2 c3 hrr
        by_cases hr0 : r < 0
        · have hd : decide (r < 0) = true := decide_eq_true hr0
          have HV : Hid (¬ elsesF (plL X) 0 (plL X)) := Lib.hid (fun h => by
            have h1 := HRR.out.2 ((HST.out.2 h).1 (by first | exact trivial | rfl))
            rw [hd] at h1
            cases h1)
          clear HST HRR
          go_wp2
          go_ret
          exact Ans.of false rfl (by simpa using HV.out) HB2.out
        · have hd : decide (r < 0) = false := decide_eq_false hr0
          have HN : Hid (elsesF (plL X) (q + 1) ((plL X).drop (q + 1)) ↔ elsesF (plL X) 0 (plL X)) := Lib.hid (by
            rw [← HST.out]
            exact ⟨fun h => ⟨fun _ => HRR.out.1 hd, h⟩, fun h => h.2⟩)
          clear HST HRR
          go_wp2
          go_roundw
          case rel => exact ⟨q + 1, by omega, by go_num, HN, HB2.out⟩
          case measure => simp [RowKit.intOf]; omega
      · have hd : (kd == 4) = false := by simpa using h4
        have HN : Hid (elsesF (plL X) (q + 1) ((plL X).drop (q + 1)) ↔ elsesF (plL X) 0 (plL X)) := Lib.hid (by
          rw [← HST.out]
          exact ⟨fun h => ⟨fun h' => absurd h' h4, h⟩, fun h => h.2⟩)
        clear HST HIQ h4
        go_wp2
        go_roundw
        case rel => exact ⟨q + 1, by omega, by go_num, HN, HBA.out⟩
        case measure => simp [RowKit.intOf]; omega
    · have HV : Hid (elsesF (plL X) 0 (plL X)) := Lib.hid (by
        have := HP.out
        rw [List.drop_of_length_le (by omega)] at this
        exact this.1 trivial)
      have hqq : q = X.length := by omega
      subst hqq
      clear hbel HP
      go_wp2
      go_ret
      exact Ans.of true rfl (by simpa using HV.out) HB.out
end Go.Proofs.YtcnnfhcpkbjolaaDoor

/-! The program's ProgramOk, check by check: the functions' names; known variables and calls -/
namespace Go.Proofs.YtcnnfhcpkbjolaaDoor
open Go.RowKit Go.Lib

/-- The name of a line. -/
def nmZ (p : List PLine) (k : Nat) : ByteArray := match p[k]? with
  | none => ⟨#[]⟩
  | some x => x.name
theorem nmZ_at (X : List LnL) (k : Nat) (h : k < X.length) : nmZ (plL X) k = X[k].name := by
  have hq : k < (plL X).length := by rw [plL_length]; exact h
  unfold nmZ
  rw [List.getElem?_eq_getElem hq, pl_at X k h]
  rfl
def FunsP (p : List PLine) : Prop := (funs p).length ≤ 6 ∧ findZ p mainT = 0 ∧ argsZ p 0 = [] ∧ ∀ k ∈ funs p, ∀ h : k < p.length, findZ p p[k].name = (k : Int)
def uniq (p : List PLine) (q : Nat) : Prop := ∀ i, ∀ h : i < (funs p).length, i < q → findZ p (nmZ p (funs p)[i]) = ((funs p)[i] : Int)
theorem uniq_all (p : List PLine) : uniq p (funs p).length ↔ ∀ k ∈ funs p, ∀ h : k < p.length, findZ p p[k].name = (k : Int) := by
  have hn : ∀ k, ∀ h : k < p.length, nmZ p k = p[k].name := fun k h => by unfold nmZ; rw [List.getElem?_eq_getElem h]
  constructor
  · intro hu k hk h
    obtain ⟨i, hi, rfl⟩ := List.mem_iff_getElem.1 hk
    rw [← hn _ h]
    exact hu i hi hi
  · intro hu i hi _
    have hlt := funs_lt p i hi
    rw [hn _ hlt]
    exact hu _ (List.getElem_mem hi) hlt

set_option maxRecDepth 100000 in
set_option maxHeartbeats 4000000 in
theorem i_funFit (a : Option Addr) (cap : Nat) (X : List LnL) (w : World) (hl : X.length ≤ 1048576) (hr : ReadL 9 83 w a X) :
    Calls Tryd.prog 58 #[.slice a X.length cap] w (Ans (FunsP (plL X)) w) := by
  have HR := Lib.hid hr
  have hpl := plL_length X
  have HF := Lib.hid (i_funLines a cap X w hl hr)
  have HE := Lib.hid (fun (W : World) (hb : Below w.heap.size w W) n => i_findFn a cap X n W (by omega) (hr.below hb))
  clear hr
  go_enter Tryd.func58, Tryd.ntmps58
  go_wp2_with fail
  refine HF.out.mono ?_
  rintro e w1 ⟨v, rfl, hown, b1⟩
  obtain ⟨av, cv, rfl⟩ := owns3_shape hown
  have HRI := Lib.hid (readI_of hown)
  have HB1 := Lib.hid b1
  have z1 := b1.size
  have hfl := funI_length (plL X)
  obtain ⟨F, hF⟩ : ∃ F, funI (plL X) = F := ⟨_, rfl⟩
  have HFG := Lib.hid (fun i h => funI_get (plL X) i h)
  rw [hF] at HRI hfl HFG
  have HFL := Lib.hid hfl
  obtain ⟨n, hn⟩ : ∃ n, F.length = n := ⟨_, rfl⟩
  have HNN := Lib.hid hn
  rw [hF, hn]
  rw [hn] at hfl
  have HNF := Lib.hid hfl
  clear b1 hown hF hn HF hfl
  by_cases hn6 : 6 < n
  · have HV : Hid (¬ FunsP (plL X)) := Lib.hid (fun h => by have := h.1; have := HNF.out; omega)
    have hd : decide (6 < (n : Int)) = true := decide_eq_true (by omega)
    go_wp2
    go_ret
    exact Ans.of false rfl (by simpa using HV.out) HB1.out
  have hd : decide (6 < (n : Int)) = false := decide_eq_false (by omega)
  have HMM := Lib.hid (HE.out w1 HB1.out ⟨#[109, 97, 105, 110]⟩)
  by_cases hm : findZ (plL X) mainT = 0
  · obtain ⟨h0l, h00, _⟩ := (find_zero (plL X) mainT).1 hm
    have hx0 : 0 < X.length := by omega
    obtain ⟨g, rfl, hg, ⟨_, _, c2, _⟩, hmm⟩ := (HR.out.below HB1.out) 0 hx0
    obtain ⟨xa, _, xc, _, ea, _, _, _, _, _⟩ := inMem_shape hmm
    rw [ea] at c2
    have c2' : w1.cell? ⟨g, 2, none⟩ = some (.slice xa X[0].args.length xc) := c2
    have HM : Hid (findZ (plL X) ⟨#[109, 97, 105, 110]⟩ = 0) := Lib.hid hm
    rw [HM.out] at HMM
    have HA0 : Hid (argsZ (plL X) 0 = X[0].args) := Lib.hid (argsZ_at X 0 hx0)
    have HU : Hid (uniq (plL X) n ↔ ∀ k ∈ funs (plL X), ∀ h : k < (plL X).length, findZ (plL X) (plL X)[k].name = (k : Int)) := Lib.hid (by rw [HNF.out]; exact uniq_all _)
    have HM0 := Lib.hid hm
    clear c2 hmm ea hm h00
    by_cases ha : X[0].args.length = 0
    · have hd0 : decide ((0 : Int) < (X[0].args.length : Int)) = false := decide_eq_false (by omega)
      have hd1 : ¬ 0 < X[0].args.length := by omega
      have HFP : Hid (uniq (plL X) n ↔ FunsP (plL X)) := Lib.hid (by
        rw [HU.out]
        unfold FunsP
        exact ⟨fun h => ⟨by have := HNF.out; omega, HM0.out, by rw [HA0.out]; exact List.length_eq_zero_iff.1 ha, h⟩, fun h => h.2.2.2⟩)
      generalize X[0].args.length = na at *
      clear ha
      go_wp2_with fail
      refine HMM.out.mono ?_
      rintro e w2 ⟨rfl, b2⟩
      have HB2 : Hid (Below w.heap.size w w2) := Lib.hid (HB1.out.trans (b2.mono z1))
      have HC2 := Lib.hid b2
      have d2 : w2.cell? ⟨g, 2, none⟩ = some (.slice xa na xc) := (b2.cell (p := ⟨g, 2, none⟩) (by show g < w1.heap.size; omega)).trans c2'
      clear b2 c2'
      go_wp2_with fail
      clear d2
      go_loopw [5, 26] (fun _ i wr => ∃ q : Nat, q ≤ n ∧ i = .int .i64 (q : Int) ∧ Hid (uniq (plL X) q) ∧ Below w.heap.size w wr ∧ Below w1.heap.size w1 wr) (fun _ i _ => n - (RowKit.intOf i).toNat)
      case atStart => exact ⟨0, Nat.zero_le _, rfl, Lib.hid (fun i _ h => by omega), HB2.out, HC2.out⟩
      case round =>
        obtain ⟨q, hq, rfl, HP, hbel, hbel1⟩ := hrel
        have HB := Lib.hid hbel
        have HC := Lib.hid hbel1
        have hB := hbel.size
        have hC := hbel1.size
        by_cases hlt : q < n
        · have hqF : q < F.length := by rw [HNN.out]; exact hlt
          obtain ⟨gv, rfl, hgv, c0⟩ := (HRI.out.below hbel1) q hqF
          obtain ⟨hq', hget⟩ := HFG.out q hqF
          rw [hget] at c0
          have hklt := funs_lt (plL X) q hq'
          have HPN := Lib.hid (fun (h : findZ (plL X) (nmZ (plL X) (funs (plL X))[q]) = (((funs (plL X))[q] : Nat) : Int)) => show uniq (plL X) (q + 1) from fun i hi hiq => by
            by_cases hiq' : i = q
            · subst hiq'; exact h
            · exact HP.out i hi (by omega))
          have HPX := Lib.hid (fun (h : FunsP (plL X)) => HFP.out.2 h q hq' hlt)
          obtain ⟨k, hk⟩ : ∃ k, (funs (plL X))[q] = k := ⟨_, rfl⟩
          rw [hk] at c0 hklt HPN HPX
          have hkX : k < X.length := by omega
          rw [nmZ_at X k hkX] at HPN HPX
          obtain ⟨g', hga, hg', ⟨_, c1, _, _⟩, _⟩ := (HR.out.below hbel) k hkX
          injection hga with hga
          injection hga with hga
          subst hga
          have HEK := Lib.hid (HE.out wr hbel X[k].name)
          obtain ⟨r, hrr⟩ : ∃ r, findZ (plL X) X[k].name = r := ⟨_, rfl⟩
          rw [hrr] at HEK HPN HPX
          generalize X[k].name = nm at *
          have k0 : (0 : Int) ≤ (q : Int) := by omega
          have k1 : (q : Int) < (n : Int) := by omega
          have k2 : (0 : Int) ≤ (k : Int) := by omega
          have k3 : (k : Int) < (X.length : Int) := by omega
          clear hk hrr hget hqF hq' hbel hbel1 hklt
          by_cases hrk : r = (k : Int)
          · subst hrk
            have HN := Lib.hid (HPN.out rfl)
            clear HPN HPX HP
            go_wp2_with fail
            refine HEK.out.mono ?_
            rintro e w3 ⟨rfl, b3⟩
            have HB3 : Hid (Below w.heap.size w w3) := Lib.hid (HB.out.trans (b3.mono hB))
            have HC3 : Hid (Below w1.heap.size w1 w3) := Lib.hid (HC.out.trans (b3.mono hC))
            clear b3 c0 c1
            go_wp2
            go_roundw
            case rel => exact ⟨q + 1, by omega, by go_num, HN, HB3.out, HC3.out⟩
            case measure => simp [RowKit.intOf]; omega
          · have HV : Hid (¬ FunsP (plL X)) := Lib.hid (fun h => hrk (HPX.out h))
            have hdk : (r != (k : Int)) = true := by simpa using hrk
            clear HPN HPX HP hrk
            go_wp2_with fail
            refine HEK.out.mono ?_
            rintro e w3 ⟨rfl, b3⟩
            have HB3 : Hid (Below w.heap.size w w3) := Lib.hid (HB.out.trans (b3.mono hB))
            clear b3 c0 c1
            go_wp2
            go_ret
            exact Ans.of false rfl (by simpa using HV.out) HB3.out
        · have hqq : q = n := by omega
          have HV : Hid (FunsP (plL X)) := Lib.hid (HFP.out.1 (hqq ▸ HP.out))
          subst hqq
          clear hbel hbel1 HP
          go_wp2
          go_ret
          exact Ans.of true rfl (by simpa using HV.out) HB.out
    · have hd0 : decide ((0 : Int) < (X[0].args.length : Int)) = true := decide_eq_true (by omega)
      have hd1 : 0 < X[0].args.length := by omega
      have HV : Hid (¬ FunsP (plL X)) := Lib.hid (fun h => by
        have := h.2.2.1
        rw [HA0.out] at this
        exact ha (by rw [this]; rfl))
      generalize X[0].args.length = na at *
      clear ha
      go_wp2_with fail
      refine HMM.out.mono ?_
      rintro e w2 ⟨rfl, b2⟩
      have HB2 : Hid (Below w.heap.size w w2) := Lib.hid (HB1.out.trans (b2.mono z1))
      have d2 : w2.cell? ⟨g, 2, none⟩ = some (.slice xa na xc) := (b2.cell (p := ⟨g, 2, none⟩) (by show g < w1.heap.size; omega)).trans c2'
      clear b2 c2'
      go_wp2
      go_ret
      exact Ans.of false rfl (by simpa using HV.out) HB2.out
  · have HV : Hid (¬ FunsP (plL X)) := Lib.hid (fun h => hm h.2.1)
    obtain ⟨r, hrr⟩ : ∃ r, findZ (plL X) ⟨#[109, 97, 105, 110]⟩ = r := ⟨_, rfl⟩
    have hrn : r ≠ 0 := fun e => hm (by rw [← e, ← hrr]; rfl)
    rw [hrr] at HMM
    have hdr : (r != 0) = true := by simpa using hrn
    clear hm hrn hrr
    go_wp2_with fail
    refine HMM.out.mono ?_
    rintro e w2 ⟨rfl, b2⟩
    have HB2 : Hid (Below w.heap.size w w2) := Lib.hid (HB1.out.trans (b2.mono z1))
    clear b2
    go_wp2
    go_ret
    exact Ans.of false rfl (by simpa using HV.out) HB2.out
end Go.Proofs.YtcnnfhcpkbjolaaDoor

/-! The program's known, and the library's ContainsFunc over tokens -/
namespace Go.Proofs.YtcnnfhcpkbjolaaDoor
open Go.RowKit Go.Lib

/-- A token names what there is. -/
def knownB (p : List PLine) (v : List ByteArray) (t : TokL) : Bool :=
  if t.kind = 1 then memB v t.name else if t.kind = 7 then decide (0 ≤ findZ p t.name) && decide (((argsZ p (findZ p t.name)).length : Int) = t.num) else true
theorem knownB_iff (p : List PLine) (v : List ByteArray) (t : TokL) : knownB p v t = true ↔ knownP p v t := by
  unfold knownB knownP
  by_cases h1 : t.kind = 1
  · rw [if_pos h1, memB_iff]
    exact ⟨fun h => ⟨fun _ => h, fun h7 => by omega⟩, fun h => h.1 h1⟩
  · rw [if_neg h1]
    by_cases h7 : t.kind = 7
    · rw [if_pos h7, Bool.and_eq_true, decide_eq_true_eq, decide_eq_true_eq]
      exact ⟨fun h => ⟨fun h' => absurd h' h1, fun _ => h⟩, fun h => h.2 h7⟩
    · rw [if_neg h7]
      exact ⟨fun _ => ⟨fun h => absurd h h1, fun h => absurd h h7⟩, fun _ => rfl⟩
theorem below_drewN {B : Nat} {w w' : World} (h : Below B w w') (n : Nat) : Below B w (w'.drewN n) := ⟨h.os, h.tape, h.output, h.size, h.block⟩
theorem findF_bd (n : ByteArray) (l : List PLine) : ∀ i : Nat, findF n i l = -1 ∨ ((i : Int) ≤ findF n i l ∧ findF n i l < (i : Int) + (l.length : Int)) := by
  induction l with
  | nil => intro i; exact .inl rfl
  | cons x r ih =>
    intro i
    unfold findF
    rw [List.length_cons]
    split
    · exact .inr ⟨Int.le_refl _, by omega⟩
    · rcases ih (i + 1) with h | h
      · exact .inl h
      · exact .inr ⟨by omega, by omega⟩
theorem findZ_bd (p : List PLine) (n : ByteArray) : findZ p n = -1 ∨ (0 ≤ findZ p n ∧ findZ p n < (p.length : Int)) := by
  rcases findF_bd n p 0 with h | h
  · exact .inl h
  · refine .inr ⟨?_, ?_⟩
    · have := h.1; unfold findZ; omega
    · have := h.2; unfold findZ; omega

set_option maxRecDepth 100000 in
set_option maxHeartbeats 4000000 in
theorem i_known (a : Option Addr) (cap : Nat) (X : List LnL) (av : Option Addr) (cv : Nat) (v : List ByteArray) (t : TokL) (w : World) (hl : X.length ≤ 1048576) (hv : v.length ≤ 3000000) (hr : ReadL 9 83 w a X) (hrv : ReadS w av v) :
    Calls Tryd.prog 93 #[.slice a X.length cap, .slice av v.length cv, .agg #[.int .i64 t.kind, .int .i64 t.num, .string t.name]] w fun e w' => e = .returned (.bool (knownB (plL X) v t)) ∧ Below w.heap.size w w' := by
  have hb0 := (Below.refl w.heap.size w).alloc (Nat.le_refl _) (.cells #[.int .i64 t.kind, .int .i64 t.num, .string t.name] 83)
  have X0 := Lib.hid (heap_alloc_new w (.cells #[.int .i64 t.kind, .int .i64 t.num, .string t.name] 83))
  have HCS := Lib.hid (x_containsS av cv v t.name _ (hrv.below hb0) hv)
  have HFF := Lib.hid (i_findFn a cap X t.name _ (by omega) (hr.below hb0))
  have HR := Lib.hid (hr.below hb0)
  have HB0 := Lib.hid hb0
  have hpl := plL_length X
  have hz : (w.alloc (.cells #[.int .i64 t.kind, .int .i64 t.num, .string t.name] 83)).heap.size = w.heap.size + 1 := by simp
  clear hb0 hr hrv
  obtain ⟨k, num, nm⟩ := t
  dsimp only at X0 HCS HFF HR HB0 hz ⊢
  by_cases h1 : k = 1
  · subst h1
    have HV : Hid (knownB (plL X) v ⟨1, num, nm⟩ = memB v nm) := Lib.hid rfl
    generalize memB v nm = b at *
    clear HFF HR hpl
    go_enter Tryd.func93, Tryd.ntmps93
    go_wp2_with fail
    refine HCS.out.mono ?_
    rintro e w1 ⟨rfl, b1⟩
    have HB1 : Hid (Below w.heap.size w w1) := Lib.hid (HB0.out.trans (b1.mono (by omega)))
    clear b1
    go_wp2
    go_ret
    exact ⟨by rw [HV.out]; rfl, HB1.out⟩
  have a1 : (k == 1) = false := by simpa using h1
  by_cases h7 : k = 7
  · subst h7
    have HV : Hid (knownB (plL X) v ⟨7, num, nm⟩ = (decide (0 ≤ findZ (plL X) nm) && decide (((argsZ (plL X) (findZ (plL X) nm)).length : Int) = num))) := Lib.hid rfl
    have HBD := Lib.hid (findZ_bd (plL X) nm)
    clear HCS
    by_cases h0 : 0 ≤ findZ (plL X) nm
    · obtain ⟨j, hj⟩ := Int.eq_ofNat_of_zero_le h0
      have hjX : j < X.length := by have := HBD.out; omega
      obtain ⟨g, rfl, hg, ⟨_, _, c2, _⟩, hm⟩ := HR.out j hjX
      obtain ⟨xa, _, xc, _, ea, _, _, _, _, _⟩ := inMem_shape hm
      rw [ea] at c2
      have HVV : Hid (knownB (plL X) v ⟨7, num, nm⟩ = decide ((X[j].args.length : Int) = num)) := Lib.hid (by
        rw [HV.out, hj, argsZ_at X j hjX, decide_eq_true (by omega)]
        rfl)
      rw [hj] at HFF
      generalize X[j].args.length = na at *
      have k0 : (0 : Int) ≤ (j : Int) := by omega
      have k1 : (j : Int) < (X.length : Int) := by omega
      have hd0 : decide ((0 : Int) ≤ (j : Int)) = true := decide_eq_true k0
      clear hj h0 hm ea HV HBD
      go_enter Tryd.func93, Tryd.ntmps93
      go_wp2_with fail
      refine HFF.out.mono ?_
      rintro e w1 ⟨rfl, b1⟩
      have HB1 : Hid (Below w.heap.size w w1) := Lib.hid (HB0.out.trans (b1.mono (by omega)))
      have X1 := Lib.hid ((b1.block _ (by omega)).trans X0.out)
      have e1 : w1.cell? ⟨w.heap.size, 1, none⟩ = some (.int .i64 num) := (blk X1.out).1 1 _ rfl
      have d2 : w1.cell? ⟨g, j * 4 + 2, none⟩ = some (.slice xa na xc) := (b1.cell (p := ⟨g, j * 4 + 2, none⟩) hg).trans c2
      clear b1 c2
      by_cases hna : (na : Int) = num
      · have hdn : ((na : Int) == num) = true := by simpa using hna
        have HW : Hid (knownB (plL X) v ⟨7, num, nm⟩ = true) := Lib.hid (by rw [HVV.out]; exact decide_eq_true hna)
        clear hna HVV
        go_wp2_with fail
        go_quiet (fail)
        all_goals
          go_wp2
          go_ret
          exact ⟨by rw [HW.out]; rfl, below_drewN HB1.out _⟩
      · have hdn : ((na : Int) == num) = false := by simpa using hna
        have HW : Hid (knownB (plL X) v ⟨7, num, nm⟩ = false) := Lib.hid (by rw [HVV.out]; exact decide_eq_false hna)
        clear hna HVV
        go_wp2_with fail
        go_quiet (fail)
        all_goals
          go_wp2
          go_ret
          exact ⟨by rw [HW.out]; rfl, below_drewN HB1.out _⟩
    · have HW : Hid (knownB (plL X) v ⟨7, num, nm⟩ = false) := Lib.hid (by rw [HV.out, decide_eq_false h0]; rfl)
      obtain ⟨r, hr⟩ : ∃ r, findZ (plL X) nm = r := ⟨_, rfl⟩
      rw [hr] at HFF h0
      have hd0 : decide ((0 : Int) ≤ r) = false := decide_eq_false h0
      clear hr HV HBD HR
      go_enter Tryd.func93, Tryd.ntmps93
      go_wp2_with fail
      refine HFF.out.mono ?_
      rintro e w1 ⟨rfl, b1⟩
      have HB1 : Hid (Below w.heap.size w w1) := Lib.hid (HB0.out.trans (b1.mono (by omega)))
      clear b1
      go_wp2_with fail
      go_quiet (fail)
      all_goals
        go_wp2
        go_ret
        exact ⟨by rw [HW.out]; rfl, below_drewN HB1.out _⟩
  · have a7 : (k == 7) = false := by simpa using h7
    have HW : Hid (knownB (plL X) v ⟨k, num, nm⟩ = true) := Lib.hid (by unfold knownB; rw [if_neg h1, if_neg h7])
    clear h1 h7 HCS HFF HR
    go_enter Tryd.func93, Tryd.ntmps93
    go_wp2
    go_ret
    exact ⟨by rw [HW.out]; rfl, HB0.out⟩

set_option maxRecDepth 100000 in
set_option maxHeartbeats 1000000 in
/-- The closure: is a token not known? -/
theorem i_unknown (a : Option Addr) (cap : Nat) (X : List LnL) (av : Option Addr) (cv : Nat) (v : List ByteArray) (t : TokL) (c1 c5 : Nat) (w : World) (hl : X.length ≤ 1048576) (hv : v.length ≤ 3000000) (hr : ReadL 9 83 w a X) (hrv : ReadS w av v)
    (h1 : w.cell? ⟨c1, 0, none⟩ = some (.slice a X.length cap)) (h5 : w.cell? ⟨c5, 0, none⟩ = some (.slice av v.length cv)) (l1 : c1 < w.heap.size) (l5 : c5 < w.heap.size) :
    Calls Tryd.prog 92 #[.agg #[.int .i64 t.kind, .int .i64 t.num, .string t.name], .pointer (some ⟨c1, 0, none⟩), .pointer (some ⟨c5, 0, none⟩)] w fun e w' => e = .returned (.bool (!knownB (plL X) v t)) ∧ Below w.heap.size w w' := by
  have hb0 := (Below.refl w.heap.size w).alloc (Nat.le_refl _) (.cells #[.int .i64 t.kind, .int .i64 t.num, .string t.name] 83)
  have HK := Lib.hid (i_known a cap X av cv v t _ hl hv (hr.below hb0) (hrv.below hb0))
  have e1 := (hb0.cell (p := ⟨c1, 0, none⟩) l1).trans h1
  have e5 := (hb0.cell (p := ⟨c5, 0, none⟩) l5).trans h5
  have HB0 := Lib.hid hb0
  have hz : (w.alloc (.cells #[.int .i64 t.kind, .int .i64 t.num, .string t.name] 83)).heap.size = w.heap.size + 1 := by simp
  obtain ⟨r, hrr⟩ : ∃ r, knownB (plL X) v t = r := ⟨_, rfl⟩
  rw [hrr] at HK ⊢
  obtain ⟨k, num, nm⟩ := t
  dsimp only at HK HB0 hz e1 e5 ⊢
  clear hb0 hr hrv hrr h1 h5
  go_enter Tryd.func92, Tryd.ntmps92
  go_wp2_with fail
  refine HK.out.mono ?_
  rintro e w1 ⟨rfl, b1⟩
  have HB1 : Hid (Below w.heap.size w w1) := Lib.hid (HB0.out.trans (b1.mono (by omega)))
  clear b1
  go_wp2
  go_ret
  exact ⟨rfl, HB1.out⟩

set_option maxRecDepth 100000 in
set_option maxHeartbeats 2000000 in
theorem i_indexTok (a : Option Addr) (cap : Nat) (X : List LnL) (av : Option Addr) (cv : Nat) (v : List ByteArray) (b : Option Addr) (d : Nat) (ex : List TokL) (c1 c5 : Nat) (w : World) (hl : X.length ≤ 1048576) (hv : v.length ≤ 3000000) (hr : ReadL 9 83 w a X) (hrv : ReadS w av v)
    (h1 : w.cell? ⟨c1, 0, none⟩ = some (.slice a X.length cap)) (h5 : w.cell? ⟨c5, 0, none⟩ = some (.slice av v.length cv)) (l1 : c1 < w.heap.size) (l5 : c5 < w.heap.size) (hx : ReadT w b ex) (hel : ex.length ≤ 1048576) :
    Calls Tryd.prog 116 #[.slice b ex.length d, .func (.func 92) #[] #[.pointer (some ⟨c1, 0, none⟩), .pointer (some ⟨c5, 0, none⟩)]] w fun e w' => e = .returned (.int .i64 (fixI (fun t => !knownB (plL X) v t) ex)) ∧ Below w.heap.size w w' := by
  have HX := Lib.hid hx
  have HU := Lib.hid (fun (W : World) (hb : Below w.heap.size w W) t => i_unknown a cap X av cv v t c1 c5 W hl hv (hr.below hb) (hrv.below hb) ((hb.cell (p := ⟨c1, 0, none⟩) l1).trans h1) ((hb.cell (p := ⟨c5, 0, none⟩) l5).trans h5) (by have := hb.size; omega) (by have := hb.size; omega))
  obtain ⟨pb, hpb⟩ : ∃ pb : TokL → Bool, (fun t => !knownB (plL X) v t) = pb := ⟨_, rfl⟩
  have HU2 : Hid (∀ (W : World) (hb : Below w.heap.size w W) t, Calls Tryd.prog 92 #[.agg #[.int .i64 t.kind, .int .i64 t.num, .string t.name], .pointer (some ⟨c1, 0, none⟩), .pointer (some ⟨c5, 0, none⟩)] W fun e w' => e = .returned (.bool (pb t)) ∧ Below W.heap.size W w') := Lib.hid (fun W hb t => by
    have := HU.out W hb t
    rw [← hpb]
    exact this)
  rw [hpb]
  clear hx hr hrv h1 h5 l1 l5 HU hpb
  go_enter Tryd.func116, Tryd.ntmps116
  go_wp2_with fail
  go_loopw [5, 8] (fun _ i wr => ∃ q : Nat, q ≤ ex.length ∧ i = .int .i64 (q : Int) ∧ Hid (∀ j, ∀ h : j < ex.length, j < q → pb ex[j] = false) ∧ Below w.heap.size w wr) (fun _ i _ => ex.length - (RowKit.intOf i).toNat)
  case atStart => exact ⟨0, Nat.zero_le _, rfl, Lib.hid (fun j _ h => by omega), Below.refl _ _⟩
  case round =>
    obtain ⟨q, hq, rfl, HE, hbel⟩ := hrel
    have HB := Lib.hid hbel
    have hB := hbel.size
    by_cases hlt : q < ex.length
    · obtain ⟨g, rfl, hg, c0, c1', c2⟩ := (HX.out.below hbel) q hlt
      have HAT := Lib.hid (fun h => fixI_at pb ex q hlt h (fun i hi => HE.out i (by omega) hi))
      have HNX := Lib.hid (fun (h : pb ex[q] = false) => show ∀ j, ∀ h : j < ex.length, j < q + 1 → pb ex[j] = false from fun j hj hjq => by
        by_cases hjj : j = q
        · subst hjj; exact h
        · exact HE.out j hj (by omega))
      have HF := Lib.hid (HU2.out wr hbel ex[q])
      obtain ⟨r, hrr⟩ : ∃ r, pb ex[q] = r := ⟨_, rfl⟩
      rw [hrr] at HF HAT HNX
      obtain ⟨t, ht⟩ : ∃ t, ex[q] = t := ⟨_, rfl⟩
      rw [ht] at c0 c1' c2 HF
      obtain ⟨k, num, nm⟩ := t
      dsimp only at c0 c1' c2 HF
      have k0 : (0 : Int) ≤ (q : Int) := by omega
      have k1 : (q : Int) < (ex.length : Int) := by omega
      clear hbel hrr ht
      cases r
      · have HN := Lib.hid (HNX.out rfl)
        clear HAT HNX
        go_wp2_with fail
        refine HF.out.mono ?_
        rintro e w1 ⟨rfl, b1⟩
        have HB1 : Hid (Below w.heap.size w w1) := Lib.hid (HB.out.trans (b1.mono hB))
        clear b1 c0 c1' c2
        go_wp2
        go_roundw
        case rel => exact ⟨q + 1, by omega, by go_num, HN, HB1.out⟩
        case measure => simp [RowKit.intOf]; omega
      · have HV := Lib.hid (HAT.out rfl)
        clear HAT HNX
        go_wp2_with fail
        refine HF.out.mono ?_
        rintro e w1 ⟨rfl, b1⟩
        have HB1 : Hid (Below w.heap.size w w1) := Lib.hid (HB.out.trans (b1.mono hB))
        clear b1 c0 c1' c2
        go_wp2
        go_ret
        exact ⟨by rw [HV.out]; rfl, HB1.out⟩
    · have HV := Lib.hid (fixI_none pb ex (fun j hj => HE.out j hj (by omega)))
      have hqq : q = ex.length := by omega
      subst hqq
      clear hbel
      go_wp2
      go_ret
      exact ⟨by rw [HV.out]; rfl, HB.out⟩

set_option maxHeartbeats 1000000 in
theorem x_containsTok (a : Option Addr) (cap : Nat) (X : List LnL) (av : Option Addr) (cv : Nat) (v : List ByteArray) (b : Option Addr) (d : Nat) (ex : List TokL) (c1 c5 : Nat) (w : World) (hl : X.length ≤ 1048576) (hv : v.length ≤ 3000000) (hr : ReadL 9 83 w a X) (hrv : ReadS w av v)
    (h1 : w.cell? ⟨c1, 0, none⟩ = some (.slice a X.length cap)) (h5 : w.cell? ⟨c5, 0, none⟩ = some (.slice av v.length cv)) (l1 : c1 < w.heap.size) (l5 : c5 < w.heap.size) (hx : ReadT w b ex) (hel : ex.length ≤ 1048576) :
    Calls Tryd.prog 91 #[.slice b ex.length d, .func (.func 92) #[] #[.pointer (some ⟨c1, 0, none⟩), .pointer (some ⟨c5, 0, none⟩)]] w fun e w' => e = .returned (.bool (!ex.all (knownB (plL X) v))) ∧ Below w.heap.size w w' := by
  have HC := Lib.hid (i_indexTok a cap X av cv v b d ex c1 c5 w hl hv hr hrv h1 h5 l1 l5 hx hel)
  have HM : Hid (decide (0 ≤ fixI (fun t => !knownB (plL X) v t) ex) = !ex.all (knownB (plL X) v)) := Lib.hid (by
    rw [fixI_any, ← Bool.not_inj_iff, Bool.not_not, List.not_any_eq_all_not]
    congr 1
    funext x
    rw [Bool.not_not])
  clear hr hrv h1 h5 hx l1 l5
  go_enter Tryd.func91, Tryd.ntmps91
  go_wp2_with fail
  refine HC.out.mono ?_
  rintro e w1 ⟨rfl, b1⟩
  have HB := Lib.hid b1
  clear b1
  generalize fixI (fun t => !knownB (plL X) v t) ex = r at *
  go_wp2
  go_ret
  exact ⟨ret_b HM.out, HB.out⟩
end Go.Proofs.YtcnnfhcpkbjolaaDoor

/-! The program's namesFit, and ProgramOk -/
namespace Go.Proofs.YtcnnfhcpkbjolaaDoor
open Go.RowKit Go.Lib

theorem locF_le (l : List PLine) : ∀ v, (locF v l).length ≤ v.length + l.length := by
  induction l with
  | nil => intro v; exact Nat.le_refl _
  | cons x r ih =>
    intro v
    unfold locF
    rw [List.length_cons]
    split
    · have := ih (v ++ [x.name]); rw [List.length_append] at this; simp at this; omega
    · have := ih v; omega
theorem locZ_le (X : List LnL) (k : Nat) (h : k < X.length) (hz : X[k].args.length ≤ 1048576) (hl : X.length ≤ 1048576) : (locZ (plL X) (k : Int)).length ≤ 2097152 := by
  unfold locZ
  split
  · rw [argsZ_at X k h]
    have h1 := locF_le (((plL X).drop (k : Int).toNat).take ((beZ (plL X) (k : Int)).toNat - (k : Int).toNat)) X[k].args
    have h3 : (((plL X).drop (k : Int).toNat).take ((beZ (plL X) (k : Int)).toNat - (k : Int).toNat)).length ≤ X.length := by rw [List.length_take, List.length_drop, plL_length]; omega
    omega
  · exact Nat.zero_le _
/-- The first q functions' names are known. -/
def namesT (p : List PLine) (q : Nat) : Prop := ∀ i, ∀ h : i < (funs p).length, i < q → namesAt p (funs p)[i]
theorem namesT_all (p : List PLine) : namesT p (funs p).length ↔ ∀ k ∈ funs p, namesAt p k := by
  constructor
  · intro hu k hk
    obtain ⟨i, hi, rfl⟩ := List.mem_iff_getElem.1 hk
    exact hu i hi hi
  · intro hu i hi _
    exact hu _ (List.getElem_mem hi)
/-- The lines of a function are all right from line q on. -/
def lineK (p : List PLine) (v : List ByteArray) (S : List PLine) : Prop := ∀ x ∈ S, ∀ t ∈ x.expr, knownP p v t
theorem lineK_all (p : List PLine) (v : List ByteArray) (ex : List TokL) : ex.all (knownB p v) = true ↔ ∀ t ∈ ex, knownP p v t := by
  rw [List.all_eq_true]
  exact ⟨fun h t ht => (knownB_iff p v t).1 (h t ht), fun h t ht => (knownB_iff p v t).2 (h t ht)⟩

set_option maxRecDepth 100000 in
set_option maxHeartbeats 8000000 in
theorem i_names (a : Option Addr) (cap : Nat) (X : List LnL) (w : World) (hl : X.length ≤ 1048576) (hcap : X.length ≤ cap) (hr : ReadL 9 83 w a X) (hz : SzAl X) (hend : ∀ k ∈ funs (plL X), 0 ≤ beZ (plL X) (k : Int)) :
    Calls Tryd.prog 62 #[.slice a X.length cap] w (Ans (∀ k ∈ funs (plL X), namesAt (plL X) k) w) := by
  have hb0 := (Below.refl w.heap.size w).alloc (Nat.le_refl _) (.cells #[.slice a X.length cap] 24)
  have X0 := Lib.hid (heap_alloc_new w (.cells #[.slice a X.length cap] 24))
  have HB0 := Lib.hid hb0
  have hz0 : (w.alloc (.cells #[.slice a X.length cap] 24)).heap.size = w.heap.size + 1 := by simp
  have HR := Lib.hid hr
  have HZ := Lib.hid hz
  have HEND := Lib.hid hend
  have hpl := plL_length X
  have HF := Lib.hid (i_funLines a cap X _ hl (hr.below hb0))
  have HLO := Lib.hid (fun (W : World) (hb : Below w.heap.size w W) k => i_localsOf a cap X k W hl hcap (hr.below hb) (fun x hx => (hz x hx).2.1))
  have HE := Lib.hid (fun (W : World) (hb : Below w.heap.size w W) k => i_endOf a cap X k W (by omega) (hr.below hb))
  clear hr hz hend hb0
  go_enter Tryd.func62, Tryd.ntmps62
  go_wp2_with fail
  refine HF.out.mono ?_
  rintro e w1 ⟨v, rfl, hown, b1⟩
  obtain ⟨av, cv, rfl⟩ := owns3_shape hown
  have HRI := Lib.hid (readI_of hown)
  have HB1 : Hid (Below w.heap.size w w1) := Lib.hid (HB0.out.trans (b1.mono (by omega)))
  have X1 := Lib.hid ((b1.block _ (by omega)).trans X0.out)
  have z1 := b1.size
  rw [hz0] at z1
  have hfl := funI_length (plL X)
  obtain ⟨F, hF⟩ : ∃ F, funI (plL X) = F := ⟨_, rfl⟩
  have HFG := Lib.hid (fun i h => funI_get (plL X) i h)
  rw [hF] at HRI hfl HFG
  obtain ⟨n, hn⟩ : ∃ n, F.length = n := ⟨_, rfl⟩
  have HNN := Lib.hid hn
  rw [hF, hn]
  rw [hn] at hfl
  have HNF := Lib.hid hfl
  have hnn : n ≤ 1048576 := by
    have h2 : (funs (plL X)).length ≤ (plL X).length := by
      have hh : ∀ (l : List PLine) i, (funF i l).length ≤ l.length := by
        intro l
        induction l with
        | nil => intro i; exact Nat.le_refl _
        | cons x r ih =>
          intro i
          have := ih (i + 1)
          unfold funF
          split
          · rw [List.length_cons, List.length_cons]; omega
          · rw [List.length_cons]; omega
      exact hh _ 0
    omega
  have HT : Hid (namesT (plL X) n ↔ ∀ k ∈ funs (plL X), namesAt (plL X) k) := Lib.hid (by rw [hfl]; exact namesT_all _)
  clear b1 hown hF hn HF hfl X0
  go_wp2_with fail
  go_loopw [4, 5, 7, 11, 28] (fun _ _ _ i _ wr => ∃ q : Nat, q ≤ n ∧ i = .int .i64 (q : Int) ∧ Hid (namesT (plL X) q) ∧ Below w.heap.size w wr ∧ Below w1.heap.size w1 wr) (fun _ _ _ i _ _ => n - (RowKit.intOf i).toNat)
  case atStart => exact ⟨0, Nat.zero_le _, rfl, Lib.hid (fun i _ h => by omega), HB1.out, Below.refl _ _⟩
  case round =>
    obtain ⟨q, hq, rfl, HP, hbel, hbel1⟩ := hrel
    have HB := Lib.hid hbel
    have HC := Lib.hid hbel1
    have hB := hbel.size
    have hC := hbel1.size
    by_cases hlt : q < n
    · have hqF : q < F.length := by rw [HNN.out]; exact hlt
      obtain ⟨gv, rfl, hgv, c0⟩ := (HRI.out.below hbel1) q hqF
      obtain ⟨hq', hget⟩ := HFG.out q hqF
      rw [hget] at c0
      have hklt := funs_lt (plL X) q hq'
      have hE0 := HEND.out _ (List.getElem_mem hq')
      have HPN := Lib.hid (fun (h : namesAt (plL X) (funs (plL X))[q]) => show namesT (plL X) (q + 1) from fun i hi hiq => by
        by_cases hiq' : i = q
        · subst hiq'; exact h
        · exact HP.out i hi (by omega))
      have HPX := Lib.hid (fun (h : ∀ k ∈ funs (plL X), namesAt (plL X) k) => h _ (List.getElem_mem hq'))
      obtain ⟨k, hk⟩ : ∃ k, (funs (plL X))[q] = k := ⟨_, rfl⟩
      rw [hk] at c0 hklt HPN HPX hE0
      have hkX : k < X.length := by omega
      obtain ⟨g, ha, hg, _⟩ := HR.out k hkX
      subst ha
      have k0 : (0 : Int) ≤ (q : Int) := by omega
      have k1 : (q : Int) < (n : Int) := by omega
      have hkEl : (k : Int) < beZ (plL X) (k : Int) ∧ beZ (plL X) (k : Int) < ((plL X).length : Int) := by
        obtain ⟨_, h1, _, _, h2, h3⟩ := beZ_is (plL X) (k : Int) hE0
        exact ⟨by omega, h3⟩
      obtain ⟨hkE', hEl⟩ := hkEl
      obtain ⟨E, hE⟩ := Int.eq_ofNat_of_zero_le hE0
      rw [hE] at hEl hkE'
      have X1r := Lib.hid ((hbel1.block _ (by omega)).trans X1.out)
      have e1 : wr.cell? ⟨w.heap.size, 0, none⟩ = some (.slice (some ⟨g, 0, none⟩) X.length cap) := (blk X1r.out).1 0 _ rfl
      have hlen2 := locZ_le X k hkX (HZ.out _ (List.getElem_mem hkX)).2.1 hl
      have HLK := Lib.hid (HLO.out wr hbel k)
      have HEK : Hid (∀ (W : World), Below w.heap.size w W → Calls Tryd.prog 87 #[.slice (some ⟨g, 0, none⟩) X.length cap, .int .i64 (k : Int)] W fun e w' => e = .returned (.int .i64 (E : Int)) ∧ Below W.heap.size W w') := Lib.hid (fun W hb => by have := HE.out W hb k; rw [hE] at this; exact this)
      have HNA : Hid (namesAt (plL X) k ↔ ((locZ (plL X) (k : Int)).length ≤ 8 ∧ lineK (plL X) (locZ (plL X) (k : Int)) (segZ (plL X) k E))) := Lib.hid (by unfold namesAt lineK; rw [hE]; rfl)
      obtain ⟨L, hL⟩ : ∃ L, locZ (plL X) (k : Int) = L := ⟨_, rfl⟩
      rw [hL] at HNA HLK hlen2
      clear hk hE hL hget hqF hq' hbel hbel1 hklt hE0
      go_wp2_with fail
      refine HLK.out.mono ?_
      rintro e w2 ⟨vl, rfl, hownl, b2⟩
      obtain ⟨al, cl, rfl⟩ := owns_shape hownl
      have HB2 : Hid (Below w.heap.size w w2) := Lib.hid (HB.out.trans (b2.mono hB))
      have HC2 : Hid (Below w1.heap.size w1 w2) := Lib.hid (HC.out.trans (b2.mono hC))
      have z2 := b2.size
      have hba := (Below.refl w2.heap.size w2).alloc (Nat.le_refl _) (.cells #[.slice al L.length cl] 45)
      have HB3 : Hid (Below w.heap.size w (w2.alloc (.cells #[.slice al L.length cl] 45))) := Lib.hid (HB2.out.trans (hba.mono (by omega)))
      have HC3 : Hid (Below w1.heap.size w1 (w2.alloc (.cells #[.slice al L.length cl] 45))) := Lib.hid (HC2.out.trans (hba.mono (by omega)))
      have X3 := Lib.hid (heap_alloc_new w2 (.cells #[.slice al L.length cl] 45))
      have RS3 := Lib.hid (reads_of (hownl.alloc (.cells #[.slice al L.length cl] 45)))
      have tz3 : (w2.alloc (.cells #[.slice al L.length cl] 45)).heap.size = w2.heap.size + 1 := by simp
      obtain ⟨W3, hW3⟩ : ∃ W, w2.alloc (.cells #[.slice al L.length cl] 45) = W := ⟨_, rfl⟩
      rw [hW3] at HB3 HC3 X3 RS3 tz3
      have HW3 := Lib.hid hW3
      have X13 := Lib.hid ((HC3.out.block _ (by omega)).trans X1.out)
      clear b2 hownl hba HLK c0 e1 X1r hW3
      have e1 : W3.cell? ⟨w.heap.size, 0, none⟩ = some (.slice (some ⟨g, 0, none⟩) X.length cap) := (blk X13.out).1 0 _ rfl
      have e5 : W3.cell? ⟨w2.heap.size, 0, none⟩ = some (.slice al L.length cl) := (blk X3.out).1 0 _ rfl
      go_upto_region 5 with fail
      rw [HW3.out]
      by_cases h8 : 8 < L.length
      · have HV : Hid (¬ ∀ k ∈ funs (plL X), namesAt (plL X) k) := Lib.hid (fun h => by have := (HNA.out.1 (HPX.out h)).1; omega)
        have hd : decide (8 < (L.length : Int)) = true := decide_eq_true (by omega)
        go_wp2
        go_ret
        exact Ans.of false rfl (by simpa using HV.out) HB3.out
      · have hd : decide (8 < (L.length : Int)) = false := decide_eq_false (by omega)
        have HNL : Hid (namesAt (plL X) k ↔ lineK (plL X) L (segZ (plL X) k E)) := Lib.hid (by rw [HNA.out]; exact ⟨fun h => h.2, fun h => ⟨by omega, h⟩⟩)
        have m1 : w.heap.size < W3.heap.size := by omega
        have k5 : (E : Int) ≤ (cap : Int) := by omega
        have k6 : (k : Int) ≤ (E : Int) := by omega
        have eE : (E : Int) - (k : Int) = ((E - k : Nat) : Int) := by omega
        have HE1 := Lib.hid e1
        go_wp2_with fail
        go_region_held3 (fun w' => w'.cell? ⟨w.heap.size, 0, none⟩ = some (.slice (some ⟨g, 0, none⟩) X.length cap)) (first | go_keep | (exact (b4.cell (p := ⟨w.heap.size, 0, none⟩) m1).trans HE1.out)) (first
          | (go_at_call 87; refine (HEK.out _ ?_).mono ?_; exact HB3.out.drew; rintro e w4 ⟨rfl, b4⟩))
        all_goals
          have HC4 : Hid (Below W3.heap.size W3 w4) := Lib.hid (undrew b4)
          have z4 := HC4.out.size
          clear b4
          go_wp2_with fail
          go_loopw [7, 28] (fun _ i wx => ∃ d : Nat, d ≤ E - k ∧ i = .int .i64 (d : Int) ∧ Hid (lineK (plL X) L (segZ (plL X) (k + d) E) ↔ lineK (plL X) L (segZ (plL X) k E)) ∧ Below W3.heap.size W3 wx) (fun _ i _ => (E - k) - (RowKit.intOf i).toNat)
          case atStart => exact ⟨0, Nat.zero_le _, rfl, Lib.hid (by rw [Nat.add_zero]), HC4.out⟩
          case round =>
            rename World => wx
            obtain ⟨d, hdE, rfl, HQ, hbx⟩ := hrel
            have HBX := Lib.hid hbx
            have hBX := hbx.size
            have HWX : Hid (Below w.heap.size w wx) := Lib.hid (HB3.out.trans (hbx.mono (by omega)))
            by_cases hltd : d < E - k
            · have hqx : k + d < X.length := by omega
              have hqp : k + d < (plL X).length := by omega
              obtain ⟨g', hga, hg', ⟨c0, c1, c2, c3⟩, hm⟩ := (HR.out.below HWX.out) (k + d) hqx
              injection hga with hga
              injection hga with hga
              subst hga
              have hxz := HZ.out _ (List.getElem_mem hqx)
              have HST : Hid (((∀ t ∈ X[k + d].expr, knownP (plL X) L t) ∧ lineK (plL X) L (segZ (plL X) (k + (d + 1)) E)) ↔ lineK (plL X) L (segZ (plL X) k E)) := Lib.hid (by
                rw [← HQ.out, seg_next _ (k + d) E (by omega) hqp, pl_at X (k + d) hqx]
                unfold lineK
                constructor
                · rintro ⟨h1, h2⟩ x hx
                  rcases List.mem_cons.1 hx with rfl | hx
                  · exact h1
                  · exact h2 x hx
                · intro h
                  exact ⟨h _ (List.mem_cons_self ..), fun x hx => h x (List.mem_cons_of_mem _ hx)⟩)
              obtain ⟨xa, xb, xc, xd, ea, ee, _, rt, _, _⟩ := inMem_shape hm
              rw [ea] at c2
              rw [ee] at c3
              rw [show (k + d) * 4 = k * 4 + d * 4 from by omega] at c0 c1 c2 c3
              have hel : X[k + d].expr.length ≤ 1048576 := hxz.2.2.2.1
              have HLA := Lib.hid (lineK_all (plL X) L X[k + d].expr)
              have k3 : (0 : Int) ≤ (d : Int) := by omega
              have k4 : (d : Int) < ((E - k : Nat) : Int) := by omega
              generalize X[k + d].kind = kd at *
              generalize X[k + d].name = nm at *
              generalize X[k + d].args.length = na at *
              generalize X[k + d].expr = ex at *
              have hb5 := (Below.refl wx.heap.size wx).alloc (Nat.le_refl _) (.cells #[.int .i64 kd, .string nm, .slice xa na xc, .slice xb ex.length xd] 48)
              have HB5 : Hid (Below W3.heap.size W3 (wx.alloc (.cells #[.int .i64 kd, .string nm, .slice xa na xc, .slice xb ex.length xd] 48))) := Lib.hid (hbx.trans (hb5.mono hBX))
              have zr : (wx.alloc (.cells #[.int .i64 kd, .string nm, .slice xa na xc, .slice xb ex.length xd] 48)).heap.size = wx.heap.size + 1 := by simp
              have HCT := Lib.hid (x_containsTok (some ⟨g, 0, none⟩) cap X al cl L xb xd ex w.heap.size w2.heap.size _ hl (by omega) ((HR.out.below HWX.out).below hb5) (RS3.out.below HB5.out) ((HB5.out.cell (p := ⟨w.heap.size, 0, none⟩) m1).trans HE1.out) ((HB5.out.cell (p := ⟨w2.heap.size, 0, none⟩) (by show w2.heap.size < W3.heap.size; omega)).trans e5) (by omega) (by omega) (rt.below hb5) hel)
              obtain ⟨b, hb⟩ : ∃ b, ex.all (knownB (plL X) L) = b := ⟨_, rfl⟩
              rw [hb] at HCT HLA
              clear hm ea ee rt hxz hb5 hbx hb HQ
              cases b
              · have HV : Hid (¬ ∀ k ∈ funs (plL X), namesAt (plL X) k) := Lib.hid (fun h => by
                  have h1 := (HST.out.2 (HNL.out.1 (HPX.out h))).1
                  have h2 := HLA.out.2 h1
                  cases h2)
                clear HST HLA
                go_wp2_with fail
                refine HCT.out.mono ?_
                rintro e w6 ⟨rfl, b6⟩
                have HB6 : Hid (Below w.heap.size w w6) := Lib.hid (HB3.out.trans ((HB5.out.trans (b6.mono (by omega))).mono (by omega)))
                clear b6 c0 c1 c2 c3
                go_wp2
                go_ret
                exact Ans.of false rfl (by simpa using HV.out) HB6.out
              · have HN : Hid (lineK (plL X) L (segZ (plL X) (k + (d + 1)) E) ↔ lineK (plL X) L (segZ (plL X) k E)) := Lib.hid (by
                  rw [← HST.out]
                  exact ⟨fun h => ⟨HLA.out.1 rfl, h⟩, fun h => h.2⟩)
                clear HST HLA
                go_wp2_with fail
                refine HCT.out.mono ?_
                rintro e w6 ⟨rfl, b6⟩
                have HB6 : Hid (Below W3.heap.size W3 w6) := Lib.hid (HB5.out.trans (b6.mono (by omega)))
                clear b6 c0 c1 c2 c3
                go_wp2
                go_roundw
                case rel => exact ⟨d + 1, by omega, by go_num, HN, HB6.out⟩
                case measure => simp [RowKit.intOf]; omega
            · have hdd : d = E - k := by omega
              have HNX : Hid (namesT (plL X) (q + 1)) := Lib.hid (HPN.out (HNL.out.2 (HQ.out.1 (by
                rw [hdd, show k + (E - k) = E from by omega, seg_end]
                intro x hx
                cases hx))))
              have HBE : Hid (Below w1.heap.size w1 wx) := Lib.hid (HC3.out.trans (hbx.mono (by omega)))
              clear hbx HQ hdd
              go_wp2
              go_roundw
              case rel => exact ⟨q + 1, by omega, by go_num, HNX, HWX.out, HBE.out⟩
              case measure => simp [RowKit.intOf]; omega
    · have hqq : q = n := by omega
      have HV : Hid (∀ k ∈ funs (plL X), namesAt (plL X) k) := Lib.hid (HT.out.1 (hqq ▸ HP.out))
      subst hqq
      clear hbel hbel1 HP
      go_wp2
      go_ret
      exact Ans.of true rfl (by simpa using HV.out) HB.out
end Go.Proofs.YtcnnfhcpkbjolaaDoor

/-! The program's ProgramOk -/
namespace Go.Proofs.YtcnnfhcpkbjolaaDoor
open Go.RowKit Go.Lib

theorem not_okI {p : List PLine} (h : ¬ ((p.length ≤ 60 ∧ ∀ x ∈ p, lineB x = true) ∧ FunsP p ∧ followF p 0 (funs p) ∧ nestF 0 p ∧ elsesF p 0 p ∧ ∀ k ∈ funs p, namesAt p k)) : ¬ OkI p := h

set_option maxRecDepth 100000 in
set_option maxHeartbeats 4000000 in
theorem i_progOk (a : Option Addr) (cap : Nat) (X : List LnL) (w : World) (hl : X.length ≤ 1048576) (hcap : X.length ≤ cap) (hr : ReadL 9 83 w a X) (hz : SzAl X) (hsh : Shapes w) :
    Calls Tryd.prog 29 #[.slice a X.length cap] w (Ans (OkI (plL X)) w) := by
  have C1 := Lib.hid (i_linesFit a cap X w (by omega) hr hz hsh)
  have C2 := Lib.hid (fun (W : World) (hb : Below w.heap.size w W) => i_funFit a cap X W hl (hr.below hb))
  have C3 := Lib.hid (fun (W : World) (hb : Below w.heap.size w W) => i_funFollow a cap X W hl (hr.below hb))
  have C4 := Lib.hid (fun (W : World) (hb : Below w.heap.size w W) => i_nesting a cap X W hl (hr.below hb))
  have C5 := Lib.hid (fun (W : World) (hb : Below w.heap.size w W) => i_elses a cap X W hl (hr.below hb))
  have C6 := Lib.hid (fun (W : World) (hb : Below w.heap.size w W) (he : ∀ k ∈ funs (plL X), 0 ≤ beZ (plL X) (k : Int)) => i_names a cap X W hl hcap (hr.below hb) hz he)
  have HL := Lib.hid (linesB_iff (plL X))
  generalize linesB (plL X) = b1 at *
  clear hr hz hsh
  go_enter Tryd.func29, Tryd.ntmps29
  go_wp2_with fail
  refine C1.out.mono ?_
  rintro e w1 ⟨rfl, q1⟩
  have HB1 := Lib.hid q1
  have z1 := q1.size
  clear q1
  cases b1
  · have HV : Hid (¬ OkI (plL X)) := Lib.hid (fun h => by have := HL.out.2 h.1; cases this)
    go_wp2
    go_ret
    exact Ans.of false rfl (by simpa using HV.out) HB1.out
  have H1 := Lib.hid (HL.out.1 rfl)
  go_wp2_with fail
  refine (C2.out _ HB1.out).mono ?_
  rintro e w2 ⟨b, rfl, hp, q2⟩
  have HP := Lib.hid hp
  have HB2 : Hid (Below w.heap.size w w2) := Lib.hid (HB1.out.trans (q2.mono z1))
  have z2 := HB2.out.size
  clear q2 hp
  cases b
  · have HV : Hid (¬ OkI (plL X)) := Lib.hid (fun h => by have := HP.out.2 h.2.1; cases this)
    go_wp2
    go_ret
    exact Ans.of false rfl (by simpa using HV.out) HB2.out
  have H2 := Lib.hid (HP.out.1 rfl)
  clear HP
  go_wp2_with fail
  refine (C3.out _ HB2.out).mono ?_
  rintro e w3 ⟨b, rfl, hp, q3⟩
  have HP := Lib.hid hp
  have HB3 : Hid (Below w.heap.size w w3) := Lib.hid (HB2.out.trans (q3.mono z2))
  have z3 := HB3.out.size
  clear q3 hp
  cases b
  · have HV : Hid (¬ OkI (plL X)) := Lib.hid (fun h => by have := HP.out.2 h.2.2.1; cases this)
    go_wp2
    go_ret
    exact Ans.of false rfl (by simpa using HV.out) HB3.out
  have H3 := Lib.hid (HP.out.1 rfl)
  clear HP
  go_wp2_with fail
  refine (C4.out _ HB3.out).mono ?_
  rintro e w4 ⟨b, rfl, hp, q4⟩
  have HP := Lib.hid hp
  have HB4 : Hid (Below w.heap.size w w4) := Lib.hid (HB3.out.trans (q4.mono z3))
  have z4 := HB4.out.size
  clear q4 hp
  cases b
  · have HV : Hid (¬ OkI (plL X)) := Lib.hid (fun h => by have := HP.out.2 h.2.2.2.1; cases this)
    go_wp2
    go_ret
    exact Ans.of false rfl (by simpa using HV.out) HB4.out
  have H4 := Lib.hid (HP.out.1 rfl)
  clear HP
  go_wp2_with fail
  refine (C5.out _ HB4.out).mono ?_
  rintro e w5 ⟨b, rfl, hp, q5⟩
  have HP := Lib.hid hp
  have HB5 : Hid (Below w.heap.size w w5) := Lib.hid (HB4.out.trans (q5.mono z4))
  have z5 := HB5.out.size
  clear q5 hp
  cases b
  · have HV : Hid (¬ OkI (plL X)) := Lib.hid (fun h => by have := HP.out.2 h.2.2.2.2.1; cases this)
    go_wp2
    go_ret
    exact Ans.of false rfl (by simpa using HV.out) HB5.out
  have H5 := Lib.hid (HP.out.1 rfl)
  clear HP
  go_wp2_with fail
  refine (C6.out _ HB5.out (follow_ends _ _ _ H3.out)).mono ?_
  rintro e w6 ⟨b, rfl, hp, q6⟩
  have HP := Lib.hid hp
  have HB6 : Hid (Below w.heap.size w w6) := Lib.hid (HB5.out.trans (q6.mono z5))
  have z6 := HB6.out.size
  clear q6 hp
  cases b
  · have HV : Hid (¬ OkI (plL X)) := Lib.hid (fun h => by have := HP.out.2 h.2.2.2.2.2; cases this)
    go_wp2
    go_ret
    exact Ans.of false rfl (by simpa using HV.out) HB6.out
  have H6 := Lib.hid (HP.out.1 rfl)
  clear HP
  have HV : Hid (OkI (plL X)) := Lib.hid ⟨H1.out, H2.out, H3.out, H4.out, H5.out, H6.out⟩
  go_wp2
  go_ret
  exact Ans.of true rfl (by simpa using HV.out) HB6.out
end Go.Proofs.YtcnnfhcpkbjolaaDoor
