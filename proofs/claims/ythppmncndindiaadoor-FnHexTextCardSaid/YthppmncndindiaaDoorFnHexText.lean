/- The law FnHexText holds for every row of bytes; the tables of Go's library that it names are as their own initialisers lay them (the card ties that to the text). -/
import Derived.Test.YthppmncndindiaaDoorCards
import Derived.Test.YthppmncndindiaaDoorTie
import Derived.Test.YthppmncndindiaaDoorDrawText
import Derived.Test.YthppmncndindiaaDoorBig
import Derived.Test.YthppmncndindiaaDoorHexAgain
import Derived.Test.YthppmncndindiaaDoorHexImpl
import Derived.Test.YthppmncndindiaaDoorDecImpl
import Derived.Test.YthppmncndindiaaDoorItoaImpl
import Derived.ProofKit
import Derived.OpenShut
import Derived.ShutString
import Derived.ChangeOld
import Derived.Deep.DeepHandedRow
import Derived.LaidMore
namespace Go.Proofs.YthppmncndindiaaDoor.fnHexText
open Go.ChangeShapes Go.WideShapes Go.ChangeAt Go.RowKit
open Go.ChangeMaps (open_string shut_string)

/-- A text was drawn by a call of its own. -/
def OneText (m : Nat) (w : World) (e : Ending) (w' : World) : Prop :=
  ∃ t : ByteArray, e = .returned (.string t) ∧ t.size ≤ m ∧ Below w.heap.size w w'

set_option maxHeartbeats 400000 in
theorem draw (a : Option Addr) (len cap : Nat) (z : List Int) (w : World) (H : IsRow .u8 w a len cap z) (hl : len ≤ 1048576) :
    Calls Tryd.prog 9 #[.slice a len cap] w (OneText 20001 w) := by
  have HC := Lib.hid H
  clear H
  go_enter Tryd.func9, Tryd.ntmps9
  go_wp2_with fail
  refine (d_new a len cap z _ HC.out hl).mono ?_
  rintro e w1 ⟨c, rfl, hc0, hc1, H1, B1⟩
  have K1 := Lib.hid H1; have L1 := Lib.hid B1
  clear H1 B1
  go_wp2_with fail
  refine (d_once c a len cap z 60 _ K1.out (by omega) (by omega)).mono ?_
  rintro e w2 ⟨t, rfl, H2, G2⟩
  have K2 := Lib.hid H2; have L2 := Lib.hid G2
  clear H2 G2
  have fin : ∀ w', w2.grownBy w' (some c) → Below w.heap.size w w' := fun w' hg =>
    (L1.out.grown L2.out L1.out.size (fun k hk => by injection hk with hk; omega)).grown hg (Nat.le_trans L1.out.size L2.out.size) (fun k hk => by injection hk with hk; omega)
  have FIN := Lib.hid fin
  clear fin
  cases t
  · go_wp2_with fail
    refine (d_below c a len cap z 30 _ K2.out (by omega) (by omega)).mono ?_
    rintro e w3 ⟨x, x0, x1, rfl, H3, G3⟩
    have K3 := Lib.hid H3; have L3 := Lib.hid G3
    clear H3 G3
    obtain ⟨m, rfl⟩ := Int.eq_ofNat_of_zero_le x0
    go_wp2_with fail
    refine (d_text c a len cap z m _ K3.out (by omega)).mono ?_
    rintro e w4 ⟨t, rfl, ht, H4, G4⟩
    have L4 := Lib.hid G4
    clear H4 G4
    go_wp2
    go_ret
    exact ⟨_, rfl, by omega, FIN.out _ (L3.out.trans L4.out)⟩
  · go_wp2_with fail
    refine (d_below c a len cap z 2 _ K2.out (by omega) (by omega)).mono ?_
    rintro e w3 ⟨x, x0, x1, rfl, H3, G3⟩
    have K3 := Lib.hid H3; have L3 := Lib.hid G3
    clear H3 G3
    obtain ⟨m, rfl⟩ := Int.eq_ofNat_of_zero_le x0
    go_wp2_with fail
    refine (d_long _ _ (20000 + m) 200 _ (by omega) rfl (by omega)).mono ?_
    rintro e w4 ⟨t, rfl, ht, B4⟩
    have L4 := Lib.hid B4
    clear B4
    go_wp2
    go_ret
    exact ⟨_, rfl, by omega, (FIN.out _ L3.out).trans (L4.out.mono (FIN.out _ L3.out).size)⟩

theorem ten : (Lib.itoa 10).toArray = #[49, 48] := by decide +kernel

theorem walk (a0 : Option Addr) (len0 cap0 : Nat) (z0 : List Int) (w : World) (w0 : IsRow .u8 w a0 len0 cap0 z0) (hL : laidMet Tryd.prog Rows.fnHexTextRow.laid w) :
    Calls Tryd.prog 3 #[.slice a0 len0 cap0] w fun e w' => e = .returned (.bool true) ∧ Below w.heap.size w w' := by
  have HC := Lib.hid w0
  have HT := Lib.hid (pow_of hL)
  clear hL
  have hlen : len0 ≤ 9223372036854775807 := by
    rcases w0 with ⟨_, rfl, _, _⟩ | ⟨x, _, h1, h2, _⟩
    · omega
    · unfold maxLen at h2; omega
  clear w0
  by_cases hb : 1048576 < len0
  · go_enter Tryd.func3, Tryd.ntmps3
    go_wp2_with fail
    refine (big_yes a0 len0 cap0 _ hb hlen).mono ?_
    rintro e w' ⟨rfl, rfl⟩
    go_wp2
    go_ret
    exact ⟨rfl, Below.refl _ _⟩
  · go_enter Tryd.func3, Tryd.ntmps3
    go_wp2_with fail
    refine (big_no a0 len0 cap0 _ (by omega)).mono ?_
    rintro e w' ⟨rfl, rfl⟩
    go_wp2_with fail
    refine (draw a0 len0 cap0 z0 _ HC.out (by omega)).mono ?_
    rintro e w1 ⟨s, rfl, hs, B1⟩
    have L1 := Lib.hid B1
    clear B1
    by_cases hl : 20000 < s.size
    · go_wp2_with fail
      refine (i_enc_long s _ hl (by unfold maxLen; omega)).mono ?_
      rintro e w2 ⟨rfl, hw⟩
      subst hw
      go_wp2_with fail
      refine (i_itoa 10 _ (by omega) (by omega) (pow_on HT.out L1.out)).mono ?_
      rintro e w3 ⟨rfl, B3⟩
      have L3 := Lib.hid (L1.out.trans (B3.mono L1.out.size))
      clear B3
      rw [ten]
      go_wp2
      go_ret
      exact ⟨rfl, L3.out⟩
    · have hl' : s.size ≤ 20000 := by omega
      go_wp2_with fail
      refine (i_enc s _ hl').mono ?_
      rintro e w2 ⟨rfl, B2⟩
      have L2 := Lib.hid (L1.out.trans (B2.mono L1.out.size))
      clear B2
      obtain ⟨h, hh⟩ : ∃ h : ByteArray, ⟨(hexL s.data.toList).toArray⟩ = h := ⟨_, rfl⟩
      have hhl : h.data.toList = hexL s.data.toList := by rw [← hh]
      have hsz : h.size = 2 * s.size := by rw [← list_len, hhl, hexL_length, list_len]
      have hag := hex_again s.data.toList (by rw [list_len]; exact hl')
      rw [← hhl] at hag
      have HAG := Lib.hid hag
      have HSZ := Lib.hid hsz
      have hle : h.size ≤ 40000 := by omega
      have hev : h.size % 2 = 0 := by omega
      have HEV := Lib.hid hev
      rw [hh]
      clear hh hhl hag hsz hev
      go_wp2_with fail
      refine (i_dec h _ HEV.out hle).mono ?_
      rintro e w3 ⟨rfl, B3⟩
      have L3 := Lib.hid (L2.out.trans (B3.mono L2.out.size))
      clear B3
      rw [HAG.out]
      dsimp only
      rw [show (⟨s.data.toList.toArray⟩ : ByteArray) = s from bl_eq rfl]
      have hsz2 : ((h.size : Int) == 2 * (s.size : Int)) = true := by rw [HSZ.out]; simp
      go_wp2
      go_ret
      exact ⟨rfl, L3.out⟩

theorem own : ownKnob Tryd.prog.godebug = none := by kernel_rfl
theorem laidOut : laidOutB Tryd.prog = true := by kernel_rfl

theorem door_met (os : Os) (args : Array Value) : laidMetH Tryd.prog Rows.fnHexTextRow.laid ((World.doorLaid Tryd.prog 400 os).forCall (fun _ _ => 0) ⟨#[], args, []⟩).memory :=
  laidMetH_of_parts3 (fuel := 8) (laidMet_of_run' 8 (by kernel_rfl) (by kernel_rfl)) (by kernel_rfl) (by kernel_rfl)

set_option maxRecDepth 100000 in
theorem lifted (os : Os) (started : os.Started) (H : Type) (enc : TypeId × Value → H) :
    ReturnsInHanded {} Tryd.checked os 3 .any (fun w args => (Rows.fnHexTextSpec.pre enc Tryd.prog Tryd.f3 [] false w args ∧ laidMetH Tryd.prog Rows.fnHexTextRow.laid w) ∧ sizedMet enc Tryd.prog Tryd.f3 (OpenSpec.ofChange Rows.fnHexTextSpec) false w args) (Rows.fnHexTextSpec.post enc Tryd.prog Tryd.f3 false true false false) := by
  refine returnsInHanded_of_change_and (C := Tryd.checked) (X := fun w _ => laidMetH Tryd.prog Rows.fnHexTextRow.laid w) (fun _ _ _ hh h => h.of_heap hh) own started (by kernel_rfl) Tryd.func3
    (ChangeSpec.witness_shaped (enc := enc) (C := Tryd.checked) (os := os) (X := fun w _ => laidMetH Tryd.prog Rows.fnHexTextRow.laid w) false (World.doorLaid Tryd.prog 400 os) #[.slice none 0 0] 8 rfl (World.shaped_of_RefB (by kernel_rfl) (by kernel_rfl)) (by kernel_rfl) (by kernel_rfl) (by kernel_rfl) (door_met os _)) ?_
  intro W base args ds gs before hval0 hW _ _ hLH _
  have hL : laidMet Tryd.prog Rows.fnHexTextRow.laid W := by rw [MakeChecks.laidMetH_plain _ _ _ (by kernel_rfl)] at hLH; exact hLH
  have hval : ∀ (j : Nat) t v, Tryd.f3.params[j]? = some t → args[j]? = some v → Value.okWide Tryd.prog W .any base t v := hval0
  have hW' := hW
  obtain ⟨p, q, hA0, hV, rfl, hfz, hnd⟩ := hW
  have hA : DataW.TrodAll enc Tryd.prog W 0 (fun _ => true) true Tryd.f3.params.toList args.toList ds p := hA0
  rw [Tryd.params3] at hA hval
  obtain ⟨v0, vs0, d0, ds0, p0, q0, hargs, rfl, rfl, h0, r0⟩ := trodAll_cons hA
  obtain ⟨rfl, rfl, rfl⟩ := trodAll_nil r0
  obtain rfl : args = #[v0] := by cases args; simp_all
  obtain ⟨rfl, rfl⟩ := trodVars_none hV
  obtain ⟨a0, len0, cap0, rfl⟩ := okWide_slice Tryd.underlying22 (hval 0 22 v0 rfl rfl)
  have k0 := h0
  have lt0 : ∀ x ∈ p0, x.block < W.heap.size := by obtain ⟨m, hm⟩ := k0; exact DataW.trod_lt m _ _ _ hm
  obtain ⟨z0, w0⟩ : ∃ zs, IsRow .u8 W a0 len0 cap0 zs := by
    obtain ⟨fuel, hf⟩ := h0
    rcases open_ints Tryd.underlying22 Tryd.underlying5 (by kernel_rfl) hf with ⟨hcs, _⟩ | ⟨x, l, c, zs, hcs, _, hl, hm, hz, _, hcell, hwz⟩
    · simp [Value.cells] at hcs
      obtain ⟨rfl, rfl, rfl⟩ := hcs
      exact ⟨[], .inl ⟨rfl, rfl, rfl, rfl⟩⟩
    · simp [Value.cells] at hcs
      obtain ⟨rfl, rfl, rfl⟩ := hcs
      exact ⟨zs, .inr ⟨_, rfl, hl, hm, by simpa using hz, hcell, hwz⟩⟩
  clear hA0 hval0
  refine (walk a0 len0 cap0 z0 W w0 hL).mono fun e W' ⟨he, bel⟩ => ?_
  subst he
  exact ⟨_, rfl, _, _, _, [], _, [], hW', trodAll_mk1 (shut_bool Tryd.underlying4 _), (trodAll_cons_mk (Below.trod laidOut (by kernel_rfl) (of_decide_eq_true (by kernel_rfl)) k0 bel lt0) trodAll_mk0), rfl, bel.frame _, fun h => by cases h⟩

theorem over : Rows.fnHexTextRow.holds Tryd.pinned (OpenSpec.ofChange Rows.fnHexTextSpec) :=
  OpenClaim.holds_of_wide 3 Tryd.f3 rfl rfl rfl rfl rfl rfl rfl ⟨rfl, rfl, rfl, rfl, rfl⟩ rfl rfl rfl rfl rfl (by kernel_rfl) Tryd.func3 (by kernel_rfl)
    (of_decide_eq_true (by kernel_rfl)) (by unfold Func.isWrapper; first | (rw [if_pos (by decide +kernel)]; kernel_rfl) | (rw [if_neg (by decide +kernel)]; exact ⟨rfl, rfl⟩))
    (fun os started H enc _ => lifted os started H enc)

theorem said : Rows.FnHexTextSaid := over
theorem plain (f : FuncId) (fn : Func) (hf : Tryd.pinned.checked.prog.funcNamed "loop.example/g03314/laws.FnHexText" = some f) (hfn : Tryd.pinned.checked.prog.funcs[f]? = some fn) :
    Rows.fnHexTextCard.stood.looks = Tryd.pinned.checked.prog.looks [] ∧ ∀ (j : Nat) t, fn.params[j]? = some t → Tryd.pinned.checked.prog.wantsStandIn t = false := by
  obtain rfl : f = 3 := Option.some.inj ((show Tryd.prog.funcNamed "loop.example/g03314/laws.FnHexText" = some 3 by kernel_rfl).symm.trans hf) |>.symm
  obtain rfl : fn = Tryd.f3 := (Option.some.inj (Tryd.func3.symm.trans hfn)).symm
  refine ⟨by kernel_rfl, fun j t ht => ?_⟩
  rw [Tryd.params3] at ht
  have hm : t ∈ [22] := by simpa using Array.mem_of_getElem? ht
  have hall : ([22].all fun u => !Tryd.prog.wantsStandIn u) = true := by kernel_rfl
  exact (show Tryd.prog.wantsStandIn t = false by simpa using List.all_eq_true.1 hall t hm)
theorem proved : Rows.FnHexTextCardSaid :=
  Claim7.holds_tied_plain_at .later [] _ _ _ _ said (fun _ h => by cases h) (by kernel_rfl) (fun _ h => by cases h) fnHexText_row_tie rfl ⟨rfl, rfl⟩ (by kernel_rfl) rfl plain (by kernel_rfl)
end Go.Proofs.YthppmncndindiaaDoor.fnHexText
