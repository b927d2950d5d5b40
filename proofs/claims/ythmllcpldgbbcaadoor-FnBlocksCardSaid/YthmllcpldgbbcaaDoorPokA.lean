/- The program's ProgramOk, check by check: lines, functions, their order, their blocks. -/
import Derived.Test.YthmllcpldgbbcaaDoorLokImpl
import Derived.Test.YthmllcpldgbbcaaDoorFunLines
import Derived.Test.YthmllcpldgbbcaaDoorOkPlain
import Derived.Test.YthmllcpldgbbcaaDoorElImpl
namespace Go.Proofs.YthmllcpldgbbcaaDoor
open Go.RowKit Go.Lib

/-- The first place where a test holds. -/
def fixI {α : Type} (pb : α → Bool) (l : List α) : Int := match l.findIdx? pb with
  | some j => (j : Int)
  | none => -1
theorem fixI_at {α : Type} (pb : α → Bool) (l : List α) (j : Nat) (h : j < l.length) (hj : pb l[j] = true) (hno : ∀ i, ∀ h : i < j, pb l[i] = false) : fixI pb l = (j : Int) := by
  unfold fixI
  have : l.findIdx? pb = some j := by
    rw [List.findIdx?_eq_some_iff_getElem]
    exact ⟨h, hj, fun i hi => by rw [hno i hi]; decide⟩
  rw [this]
theorem fixI_none {α : Type} (pb : α → Bool) (l : List α) (h : ∀ j, ∀ h : j < l.length, pb l[j] = false) : fixI pb l = -1 := by
  unfold fixI
  have : l.findIdx? pb = none := by
    rw [List.findIdx?_eq_none_iff]
    intro x hx
    obtain ⟨j, hj, rfl⟩ := List.mem_iff_getElem.1 hx
    exact h j hj
  rw [this]
theorem fixI_any {α : Type} (pb : α → Bool) (l : List α) : decide (0 ≤ fixI pb l) = l.any pb := by
  unfold fixI
  cases h : l.findIdx? pb with
  | some j =>
    simp only
    rw [decide_eq_true (by omega)]
    obtain ⟨hj, hx, _⟩ := List.findIdx?_eq_some_iff_getElem.1 h
    exact (List.any_eq_true.2 ⟨_, List.getElem_mem hj, hx⟩).symm
  | none =>
    simp only
    rw [List.findIdx?_eq_none_iff] at h
    cases hc : l.any pb with
    | false => rfl
    | true =>
      obtain ⟨x, hx, hp⟩ := List.any_eq_true.1 hc
      rw [h x hx] at hp; cases hp
/-- What is asked of the lines' sizes. -/
def SzAl (X : List LnL) : Prop := ∀ x ∈ X, SmallL x.p
theorem szOk_of {x : LnL} (h : SmallL x.p) (c : Nat) (h1 : x.args.length ≤ c) (h2 : c ≤ maxLen) : SzOk x.p c :=
  ⟨by have := h.2.1; omega, h1, h2, fun s hs => small_max (h.2.2.1 s hs), small_max h.1, h.2.2.2.1, fun j hj => small_max (h.2.2.2.2 _ (List.getElem_mem hj))⟩

set_option maxRecDepth 100000 in
set_option maxHeartbeats 1000000 in
/-- The closure: is a line not valid? -/
theorem i_badLine (p : PLine) (a b : Option Addr) (c d : Nat) (w : World) (hA : ReadS w a p.args) (hT : ReadT w b p.expr) (hs : SzOk p c) (hsh : Shapes w) :
    Calls Tryd.prog 45 #[.agg #[.int .i64 p.kind, .string p.name, .slice a p.args.length c, .slice b p.expr.length d]] w fun e w' => e = .returned (.bool (!lineB p)) ∧ Below w.heap.size w w' := by
  have hb0 := (Below.refl w.heap.size w).alloc (Nat.le_refl _) (.cells #[.int .i64 p.kind, .string p.name, .slice a p.args.length c, .slice b p.expr.length d] 34)
  have HL := Lib.hid (i_lineok p a b c d _ (hA.below hb0) (hT.below hb0) hs (hsh.on hb0))
  have HB0 := Lib.hid hb0
  have hz : (w.alloc (.cells #[.int .i64 p.kind, .string p.name, .slice a p.args.length c, .slice b p.expr.length d] 34)).heap.size = w.heap.size + 1 := by simp
  obtain ⟨r, hr⟩ : ∃ r, lineB p = r := ⟨_, rfl⟩
  rw [hr] at HL ⊢
  obtain ⟨k, nm, gs, ex⟩ := p
  dsimp only at HL HB0 hz ⊢
  clear hA hT hs hsh hb0 hr
  go_enter Tryd.func45, Tryd.ntmps45
  go_wp2_with fail
  refine HL.out.mono ?_
  rintro e w1 ⟨rfl, b1⟩
  have HB1 : Hid (Below w.heap.size w w1) := Lib.hid (HB0.out.trans (b1.mono (by omega)))
  clear b1
  go_wp2
  go_ret
  exact ⟨rfl, HB1.out⟩

set_option maxRecDepth 100000 in
set_option maxHeartbeats 2000000 in
theorem i_indexBad (a : Option Addr) (cap : Nat) (X : List LnL) (w : World) (hl : X.length ≤ 2000000) (hr : ReadL 9 70 w a X) (hz : SzAl X) (hsh : Shapes w) :
    Calls Tryd.prog 33 #[.slice a X.length cap, .func (.func 45) #[] #[]] w fun e w' => e = .returned (.int .i64 (fixI (fun p => !lineB p) (plL X))) ∧ Below w.heap.size w w' := by
  have HR := Lib.hid hr
  have HZ := Lib.hid hz
  have HSH := Lib.hid hsh
  have hpl := plL_length X
  clear hr hz hsh
  go_enter Tryd.func33, Tryd.ntmps33
  go_wp2_with fail
  go_loopw [5, 8] (fun _ i wr => ∃ q : Nat, q ≤ X.length ∧ i = .int .i64 (q : Int) ∧ Hid (∀ j, ∀ h : j < (plL X).length, j < q → (!lineB (plL X)[j]) = false) ∧ Below w.heap.size w wr) (fun _ i _ => X.length - (RowKit.intOf i).toNat)
  case atStart => exact ⟨0, Nat.zero_le _, rfl, Lib.hid (fun j _ h => by omega), Below.refl _ _⟩
  case round =>
    obtain ⟨q, hq, rfl, HE, hbel⟩ := hrel
    have HB := Lib.hid hbel
    have hB := hbel.size
    by_cases hlt : q < X.length
    · obtain ⟨g, rfl, hg, ⟨c0, c1, c2, c3⟩, hm⟩ := (HR.out.below hbel) q hlt
      have hqp : q < (plL X).length := by omega
      have hsm := HZ.out _ (List.getElem_mem hlt)
      have HAT := Lib.hid (fun h => fixI_at (fun p => !lineB p) (plL X) q hqp h (fun i hi => HE.out i (by omega) hi))
      have HNX := Lib.hid (fun (h : (!lineB (plL X)[q]) = false) => show ∀ j, ∀ h : j < (plL X).length, j < q + 1 → (!lineB (plL X)[j]) = false from fun j hj hjq => by
        by_cases hjj : j = q
        · subst hjj; exact h
        · exact HE.out j hj (by omega))
      rw [pl_at X q hlt] at HAT HNX
      obtain ⟨xa, xb, xc, xd, ea, ee, rs, rt, hcap, _⟩ := inMem_shape hm
      rw [ea] at c2
      rw [ee] at c3
      have HF := Lib.hid (i_badLine X[q].p xa xb xc xd wr rs rt (szOk_of hsm xc hcap.1 hcap.2) (HSH.out.on hbel))
      obtain ⟨r, hr⟩ : ∃ r, lineB X[q].p = r := ⟨_, rfl⟩
      rw [hr] at HF HAT HNX
      obtain ⟨x, hx⟩ : ∃ x, X[q] = x := ⟨_, rfl⟩
      rw [hx] at c0 c1 c2 c3 HF
      obtain ⟨kk, nm, gs, ex, va, ve⟩ := x
      dsimp only [LnL.p] at c0 c1 c2 c3 HF
      have k0 : (0 : Int) ≤ (q : Int) := by omega
      have k1 : (q : Int) < (X.length : Int) := by omega
      clear hbel hm ea ee hr hx rs rt hcap hsm
      cases r
      · have HV := Lib.hid (HAT.out rfl)
        clear HAT HNX
        go_wp2_with fail
        refine HF.out.mono ?_
        rintro e w1 ⟨rfl, b1⟩
        have HB1 : Hid (Below w.heap.size w w1) := Lib.hid (HB.out.trans (b1.mono hB))
        clear b1 c0 c1 c2 c3
        go_wp2
        go_ret
        exact ⟨by rw [HV.out]; rfl, HB1.out⟩
      · have HN := Lib.hid (HNX.out rfl)
        clear HAT HNX
        go_wp2_with fail
        refine HF.out.mono ?_
        rintro e w1 ⟨rfl, b1⟩
        have HB1 : Hid (Below w.heap.size w w1) := Lib.hid (HB.out.trans (b1.mono hB))
        clear b1 c0 c1 c2 c3
        go_wp2
        go_roundw
        case rel => exact ⟨q + 1, by omega, by go_num, HN, HB1.out⟩
        case measure => simp [RowKit.intOf]; omega
    · have HV := Lib.hid (fixI_none (fun p => !lineB p) (plL X) (fun j hj => HE.out j hj (by omega)))
      have hqq : q = X.length := by omega
      subst hqq
      clear hbel
      go_wp2
      go_ret
      exact ⟨by rw [HV.out]; rfl, HB.out⟩

/-- The lines are few, and valid. -/
def linesB (p : List PLine) : Bool := decide (p.length ≤ 60) && p.all lineB
theorem linesB_iff (p : List PLine) : linesB p = true ↔ (p.length ≤ 60 ∧ ∀ x ∈ p, lineB x = true) := by
  unfold linesB
  rw [Bool.and_eq_true, decide_eq_true_eq, List.all_eq_true]
theorem any_not (p : List PLine) : (!p.any fun p => !lineB p) = p.all lineB := by
  rw [List.not_any_eq_all_not]
  congr 1
  funext x
  rw [Bool.not_not]

set_option maxHeartbeats 1000000 in
theorem x_containsBad (a : Option Addr) (cap : Nat) (X : List LnL) (w : World) (hl : X.length ≤ 2000000) (hr : ReadL 9 70 w a X) (hz : SzAl X) (hsh : Shapes w) :
    Calls Tryd.prog 44 #[.slice a X.length cap, .func (.func 45) #[] #[]] w fun e w' => e = .returned (.bool (!(plL X).all lineB)) ∧ Below w.heap.size w w' := by
  have HC := Lib.hid (i_indexBad a cap X w hl hr hz hsh)
  have HM : Hid (decide (0 ≤ fixI (fun p => !lineB p) (plL X)) = !(plL X).all lineB) := Lib.hid (by rw [fixI_any, ← any_not, Bool.not_not])
  clear hr hz hsh
  go_enter Tryd.func44, Tryd.ntmps44
  go_wp2_with fail
  refine HC.out.mono ?_
  rintro e w1 ⟨rfl, b1⟩
  have HB := Lib.hid b1
  clear b1
  generalize fixI (fun p => !lineB p) (plL X) = r at *
  go_wp2
  go_ret
  exact ⟨ret_b HM.out, HB.out⟩
set_option maxHeartbeats 1000000 in
theorem i_linesFit (a : Option Addr) (cap : Nat) (X : List LnL) (w : World) (hl : X.length ≤ 2000000) (hr : ReadL 9 70 w a X) (hz : SzAl X) (hsh : Shapes w) :
    Calls Tryd.prog 20 #[.slice a X.length cap] w fun e w' => e = .returned (.bool (linesB (plL X))) ∧ Below w.heap.size w w' := by
  have HC := Lib.hid (x_containsBad a cap X w hl hr hz hsh)
  have hpl := plL_length X
  clear hr hz hsh
  by_cases h60 : X.length ≤ 60
  · have HV : Hid (linesB (plL X) = (plL X).all lineB) := Lib.hid (by unfold linesB; rw [decide_eq_true (by omega)]; rfl)
    have hd : decide ((X.length : Int) ≤ 60) = true := decide_eq_true (by omega)
    generalize (plL X).all lineB = r at *
    clear hpl
    go_enter Tryd.func20, Tryd.ntmps20
    go_wp2_with fail
    refine HC.out.mono ?_
    rintro e w1 ⟨rfl, b1⟩
    have HB := Lib.hid b1
    clear b1
    go_wp2
    go_ret
    exact ⟨ret_b (by rw [HV.out]), HB.out⟩
  · have HV : Hid (linesB (plL X) = false) := Lib.hid (by unfold linesB; rw [decide_eq_false (by omega)]; rfl)
    have hd : decide ((X.length : Int) ≤ 60) = false := decide_eq_false (by omega)
    clear hpl
    go_enter Tryd.func20, Tryd.ntmps20
    go_wp2
    go_ret
    exact ⟨ret_b HV.out.symm, Below.refl _ _⟩
end Go.Proofs.YthmllcpldgbbcaaDoor
