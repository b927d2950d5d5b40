/- The law FnNumbers holds for every row of bytes; the variables of Go's library that it names are as their own initialisers lay them (the card ties that to the text). -/
import Derived.Test.YthppmncndindiaaDoorCards
import Derived.Test.YthppmncndindiaaDoorTie
import Derived.Test.YthppmncndindiaaDoorDrawNum
import Derived.Test.YthppmncndindiaaDoorBig
import Derived.Test.YthppmncndindiaaDoorPuImpl
import Derived.Test.YthppmncndindiaaDoorErrs
import Derived.ProofKit
import Derived.OpenShut
import Derived.ShutString
import Derived.ChangeOld
import Derived.Deep.DeepHandedRow
import Derived.LaidMore
namespace Go.Proofs.YthppmncndindiaaDoor.fnNumbers
open Go.ChangeShapes Go.WideShapes Go.ChangeAt Go.RowKit
open Go.ChangeMaps (open_string shut_string)

/-- A number was drawn by a call of its own. -/
def One (w : World) (e : Ending) (w' : World) : Prop :=
  ∃ n : Int, e = .returned (.int .i64 n) ∧ (-9223372036854775808 ≤ n ∧ n ≤ 9223372036854775807) ∧ Below w.heap.size w w'
theorem prod_lt (x y : Int) (x0 : 0 ≤ x) (x1 : x ≤ 999999) (y0 : -1000000 ≤ y) (y1 : y ≤ 999999) : -9000000000000 ≤ x * y ∧ x * y ≤ 9000000000000 := by
  have h1 : x * y ≤ 999999 * 1000000 := by
    rcases Int.le_total 0 y with h | h
    · exact Int.le_trans (Int.mul_le_mul x1 (Int.le_refl y) h (by decide)) (by omega)
    · have := Int.mul_nonpos_of_nonneg_of_nonpos x0 h; omega
  have h2 : -(999999 * 1000000) ≤ x * y := by
    have h3 : x * (-y) ≤ 999999 * 1000000 := by
      rcases Int.le_total 0 (-y) with h | h
      · exact Int.le_trans (Int.mul_le_mul x1 (Int.le_refl _) h (by decide)) (by omega)
      · have := Int.mul_nonpos_of_nonneg_of_nonpos x0 h; omega
    rw [Int.mul_neg] at h3
    omega
  omega

set_option maxHeartbeats 400000 in
theorem draw (a : Option Addr) (len cap : Nat) (z : List Int) (w : World) (H : IsRow .u8 w a len cap z) (hl : len ≤ 1048576) :
    Calls Tryd.prog 13 #[.slice a len cap] w (One w) := by
  have HC := Lib.hid H
  clear H
  go_enter Tryd.func13, Tryd.ntmps13
  go_wp2_with fail
  refine (d_new a len cap z _ HC.out hl).mono ?_
  rintro e w1 ⟨c, rfl, hc0, hc1, H1, B1⟩
  have K1 := Lib.hid H1; have L1 := Lib.hid B1
  clear H1 B1
  go_wp2_with fail
  refine (d_once c a len cap z 3 _ K1.out (by omega) (by omega)).mono ?_
  rintro e w2 ⟨t, rfl, H2, G2⟩
  have K2 := Lib.hid H2; have L2 := Lib.hid G2
  clear H2 G2
  have fin : ∀ w', w2.grownBy w' (some c) → Below w.heap.size w w' := fun w' hg =>
    (L1.out.grown L2.out L1.out.size (fun k hk => by injection hk with hk; omega)).grown hg (Nat.le_trans L1.out.size L2.out.size) (fun k hk => by injection hk with hk; omega)
  have FIN := Lib.hid fin
  clear fin
  cases t
  · go_wp2_with fail
    refine (d_number c a len cap z _ K2.out).mono ?_
    rintro e w3 ⟨x, x0, x1, rfl, H3, G3⟩
    have L3 := Lib.hid G3
    clear H3 G3
    go_wp2
    go_ret
    exact ⟨_, rfl, ⟨x0, x1⟩, FIN.out _ L3.out⟩
  · go_wp2_with fail
    refine (d_below c a len cap z 1000000 _ K2.out (by omega) (by omega)).mono ?_
    rintro e w3 ⟨x, x0, x1, rfl, H3, G3⟩
    have K3 := Lib.hid H3; have L3 := Lib.hid G3
    clear H3 G3
    go_wp2_with fail
    refine (d_below c a len cap z 2000000 _ K3.out (by omega) (by omega)).mono ?_
    rintro e w4 ⟨y, y0, y1, rfl, H4, G4⟩
    have L4 := Lib.hid G4
    clear H4 G4
    have hp := prod_lt x (y - 1000000) x0 (by omega) (by omega) (by omega)
    go_wp2
    go_ret
    exact ⟨_, rfl, by first | exact ⟨by omega, by omega⟩ | (unfold wrap64; omega), FIN.out _ (L3.out.trans L4.out)⟩

theorem itoa_size (n : Int) (h0 : -9223372036854775808 ≤ n) (h1 : n ≤ 9223372036854775807) : (Lib.itoa n).length ≤ 21 ∧ Lib.itoa n ≠ [] := by
  unfold Lib.itoa
  have h : ∀ m : Nat, m ≤ 9223372036854775808 → (Lib.decDigits m).length ≤ 20 ∧ Lib.decDigits m ≠ [] := by
    intro m hm
    refine ⟨?_, by obtain ⟨b, r, e⟩ := digits_head m; rw [e]; simp⟩
    by_cases h0 : 0 < m
    · rw [← restD_pos m h0]; exact restD_len 20 m (by omega)
    · have : m = 0 := by omega
      subst this; decide +kernel
  split
  · have := h n.natAbs (by omega)
    exact ⟨by simp; omega, by simp⟩
  · have := h n.toNat (by omega)
    exact ⟨by omega, this.2⟩
theorem pu_out (n : Int) (h : n < 0 ∨ 1000000000 < n) : puR (Lib.itoa n) = (0, false) := by
  rcases h with h | h
  · have e : Lib.itoa n = 45 :: Lib.decDigits n.natAbs := by unfold Lib.itoa; rw [if_pos h]
    rw [e]
    exact puR_none _ rfl
  · obtain ⟨m, rfl⟩ := Int.eq_ofNat_of_zero_le (by omega : 0 ≤ n)
    rw [itoa_nat, puR_some _ m (dec_digits m), if_neg (by omega)]

theorem walk (a0 : Option Addr) (len0 cap0 : Nat) (z0 : List Int) (w : World) (w0 : IsRow .u8 w a0 len0 cap0 z0) (hL : laidMet Tryd.prog Rows.fnNumbersRow.laid w) :
    Calls Tryd.prog 4 #[.slice a0 len0 cap0] w fun e w' => e = .returned (.bool true) ∧ Below w.heap.size w w' := by
  have HC := Lib.hid w0
  obtain ⟨p, q, hS, hR⟩ := errs hL
  have HT := Lib.hid (pow_of hL)
  have HS := Lib.hid hS
  have HR := Lib.hid hR
  clear hS hR hL
  have hlen : len0 ≤ 9223372036854775807 := by
    rcases w0 with ⟨_, rfl, _, _⟩ | ⟨x, _, h1, h2, _⟩
    · omega
    · unfold maxLen at h2; omega
  clear w0
  by_cases hb : 1048576 < len0
  · go_enter Tryd.func4, Tryd.ntmps4
    go_wp2_with fail
    refine (big_yes a0 len0 cap0 _ hb hlen).mono ?_
    rintro e w' ⟨rfl, rfl⟩
    go_wp2
    go_ret
    exact ⟨rfl, Below.refl _ _⟩
  · go_enter Tryd.func4, Tryd.ntmps4
    go_wp2_with fail
    refine (big_no a0 len0 cap0 _ (by omega)).mono ?_
    rintro e w' ⟨rfl, rfl⟩
    go_wp2_with fail
    refine (draw a0 len0 cap0 z0 _ HC.out (by omega)).mono ?_
    rintro e w1 ⟨n, rfl, hn, B1⟩
    have L1 := Lib.hid B1
    clear B1
    have hsz := itoa_size n hn.1 hn.2
    go_wp2_with fail
    refine (i_itoa n _ hn.1 hn.2 (pow_on HT.out L1.out)).mono ?_
    rintro e w2 ⟨rfl, B2⟩
    have L2 := Lib.hid (L1.out.trans (B2.mono L1.out.size))
    clear B2
    obtain ⟨t, ht⟩ : ∃ t : ByteArray, ⟨(Lib.itoa n).toArray⟩ = t := ⟨_, rfl⟩
    have htl : t.data.toList = Lib.itoa n := by rw [← ht]
    have hts : t.size ≤ 21 := by rw [← list_len, htl]; exact hsz.1
    have hte : t.toList.isEmpty = false := by rw [ByteArray.toList_eq, htl]; simpa using hsz.2
    rw [ht]
    clear ht hsz
    have HTL := Lib.hid htl
    clear htl
    go_wp2_with fail
    refine (i_pu t _ (by omega) _ _ p q (var_on gS HS.out L2.out) (var_on gR HR.out L2.out) (pow_on HT.out L2.out)).mono ?_
    rintro e w3 ⟨rfl, B3⟩
    have L3 := Lib.hid (L2.out.trans (B3.mono L2.out.size))
    clear B3
    unfold puE'
    by_cases hin : 0 ≤ n ∧ n ≤ 1000000000
    · obtain ⟨m, rfl⟩ := Int.eq_ofNat_of_zero_le hin.1
      have hp : puR t.data.toList = (m, true) := by rw [HTL.out, itoa_nat]; exact puR_is m (by omega)
      rw [hp]
      have g2 : (m : Int) ≤ 1000000000 := hin.2
      clear hp hin
      go_wp2
      go_ret
      exact ⟨rfl, L3.out⟩
    · have hp : puR t.data.toList = (0, false) := by rw [HTL.out]; exact pu_out n (by omega)
      rw [hp]
      clear hp
      by_cases h0 : 0 ≤ n
      · have h1 : ¬ n ≤ 1000000000 := by omega
        clear hin
        go_wp2
        go_ret
        exact ⟨rfl, L3.out⟩
      · clear hin
        have h00 : decide (0 ≤ n) = false := by simp; omega
        go_wp2
        go_ret
        exact ⟨rfl, L3.out⟩

theorem own : ownKnob Tryd.prog.godebug = none := by kernel_rfl
theorem laidOut : laidOutB Tryd.prog = true := by kernel_rfl

theorem door_met (os : Os) (args : Array Value) : laidMetH Tryd.prog Rows.fnNumbersRow.laid ((World.doorLaid Tryd.prog 400 os).forCall (fun _ _ => 0) ⟨#[], args, []⟩).memory :=
  laidMetH_of_parts3 (fuel := 8) (laidMet_of_run' 8 (by kernel_rfl) (by kernel_rfl)) (by kernel_rfl) (by kernel_rfl)

set_option maxRecDepth 100000 in
theorem lifted (os : Os) (started : os.Started) (H : Type) (enc : TypeId × Value → H) :
    ReturnsInHanded {} Tryd.checked os 4 .any (fun w args => (Rows.fnNumbersSpec.pre enc Tryd.prog Tryd.f4 [] false w args ∧ laidMetH Tryd.prog Rows.fnNumbersRow.laid w) ∧ sizedMet enc Tryd.prog Tryd.f4 (OpenSpec.ofChange Rows.fnNumbersSpec) false w args) (Rows.fnNumbersSpec.post enc Tryd.prog Tryd.f4 false true false false) := by
  refine returnsInHanded_of_change_and (C := Tryd.checked) (X := fun w _ => laidMetH Tryd.prog Rows.fnNumbersRow.laid w) (fun _ _ _ hh h => h.of_heap hh) own started (by kernel_rfl) Tryd.func4
    (ChangeSpec.witness_shaped (enc := enc) (C := Tryd.checked) (os := os) (X := fun w _ => laidMetH Tryd.prog Rows.fnNumbersRow.laid w) false (World.doorLaid Tryd.prog 400 os) #[.slice none 0 0] 8 rfl (World.shaped_of_RefB (by kernel_rfl) (by kernel_rfl)) (by kernel_rfl) (by kernel_rfl) (by kernel_rfl) (door_met os _)) ?_
  intro W base args ds gs before hval0 hW _ _ hLH _
  have hL : laidMet Tryd.prog Rows.fnNumbersRow.laid W := by rw [MakeChecks.laidMetH_plain _ _ _ (by kernel_rfl)] at hLH; exact hLH
  have hval : ∀ (j : Nat) t v, Tryd.f4.params[j]? = some t → args[j]? = some v → Value.okWide Tryd.prog W .any base t v := hval0
  have hW' := hW
  obtain ⟨p, q, hA0, hV, rfl, hfz, hnd⟩ := hW
  have hA : DataW.TrodAll enc Tryd.prog W 0 (fun _ => true) true Tryd.f4.params.toList args.toList ds p := hA0
  rw [Tryd.params4] at hA hval
  obtain ⟨v0, vs0, d0, ds0, p0, q0, hargs, rfl, rfl, h0, r0⟩ := trodAll_cons hA
  obtain ⟨rfl, rfl, rfl⟩ := trodAll_nil r0
  obtain rfl : args = #[v0] := by cases args; simp_all
  obtain ⟨rfl, rfl⟩ := trodVars_none hV
  obtain ⟨a0, len0, cap0, rfl⟩ := okWide_slice Tryd.underlying22 (hval 0 22 v0 rfl rfl)
  have k0 := h0
  have lt0 : ∀ x ∈ p0, x.block < W.heap.size := by obtain ⟨m, hm⟩ := k0; exact DataW.trod_lt m _ _ _ hm
  obtain ⟨z0, w0⟩ : ∃ zs, IsRow .u8 W a0 len0 cap0 zs := by
    obtain ⟨fuel, hf⟩ := h0
    rcases open_ints Tryd.underlying22 Tryd.underlying5 (by kernel_rfl) hf with ⟨hcs, _⟩ | ⟨x, l, c, zs, hcs, _, hl, hm, hz, _, hcell, hwz⟩
    · simp [Value.cells] at hcs
      obtain ⟨rfl, rfl, rfl⟩ := hcs
      exact ⟨[], .inl ⟨rfl, rfl, rfl, rfl⟩⟩
    · simp [Value.cells] at hcs
      obtain ⟨rfl, rfl, rfl⟩ := hcs
      exact ⟨zs, .inr ⟨_, rfl, hl, hm, by simpa using hz, hcell, hwz⟩⟩
  clear hA0 hval0
  refine (walk a0 len0 cap0 z0 W w0 hL).mono fun e W' ⟨he, bel⟩ => ?_
  subst he
  exact ⟨_, rfl, _, _, _, [], _, [], hW', trodAll_mk1 (shut_bool Tryd.underlying4 _), (trodAll_cons_mk (Below.trod laidOut (by kernel_rfl) (of_decide_eq_true (by kernel_rfl)) k0 bel lt0) trodAll_mk0), rfl, bel.frame _, fun h => by cases h⟩

theorem over : Rows.fnNumbersRow.holds Tryd.pinned (OpenSpec.ofChange Rows.fnNumbersSpec) :=
  OpenClaim.holds_of_wide 4 Tryd.f4 rfl rfl rfl rfl rfl rfl rfl ⟨rfl, rfl, rfl, rfl, rfl⟩ rfl rfl rfl rfl rfl (by kernel_rfl) Tryd.func4 (by kernel_rfl)
    (of_decide_eq_true (by kernel_rfl)) (by unfold Func.isWrapper; first | (rw [if_pos (by decide +kernel)]; kernel_rfl) | (rw [if_neg (by decide +kernel)]; exact ⟨rfl, rfl⟩))
    (fun os started H enc _ => lifted os started H enc)

theorem said : Rows.FnNumbersSaid := over
theorem plain (f : FuncId) (fn : Func) (hf : Tryd.pinned.checked.prog.funcNamed "loop.example/g03314/laws.FnNumbers" = some f) (hfn : Tryd.pinned.checked.prog.funcs[f]? = some fn) :
    Rows.fnNumbersCard.stood.looks = Tryd.pinned.checked.prog.looks [] ∧ ∀ (j : Nat) t, fn.params[j]? = some t → Tryd.pinned.checked.prog.wantsStandIn t = false := by
  obtain rfl : f = 4 := Option.some.inj ((show Tryd.prog.funcNamed "loop.example/g03314/laws.FnNumbers" = some 4 by kernel_rfl).symm.trans hf) |>.symm
  obtain rfl : fn = Tryd.f4 := (Option.some.inj (Tryd.func4.symm.trans hfn)).symm
  refine ⟨by kernel_rfl, fun j t ht => ?_⟩
  rw [Tryd.params4] at ht
  have hm : t ∈ [22] := by simpa using Array.mem_of_getElem? ht
  have hall : ([22].all fun u => !Tryd.prog.wantsStandIn u) = true := by kernel_rfl
  exact (show Tryd.prog.wantsStandIn t = false by simpa using List.all_eq_true.1 hall t hm)
theorem proved : Rows.FnNumbersCardSaid :=
  Claim7.holds_tied_plain_at .later [] _ _ _ _ said (fun _ h => by cases h) (by kernel_rfl) (fun _ h => by cases h) fnNumbers_row_tie rfl ⟨rfl, rfl⟩ (by kernel_rfl) rfl plain (by kernel_rfl)
end Go.Proofs.YthppmncndindiaaDoor.fnNumbers
