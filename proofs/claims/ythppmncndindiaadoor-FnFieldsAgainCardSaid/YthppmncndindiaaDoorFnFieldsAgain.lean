/- The law FnFieldsAgain holds for every row of bytes; the tables of Go's library that it names are as their own initialisers lay them (the card ties that to the text). -/
import Derived.Test.YthppmncndindiaaDoorCards
import Derived.Test.YthppmncndindiaaDoorTie
import Derived.Test.YthppmncndindiaaDoorDrawLine
import Derived.Test.YthppmncndindiaaDoorBig
import Derived.Test.YthppmncndindiaaDoorFieldsAgainPlain
import Derived.Test.YthppmncndindiaaDoorFieldsSpec
import Derived.Test.YthppmncndindiaaDoorFieldsImpl
import Derived.Test.YthppmncndindiaaDoorSameTexts
import Derived.Test.YthppmncndindiaaDoorItoaImpl
import Derived.ProofKit
import Derived.OpenShut
import Derived.ShutString
import Derived.ChangeOld
import Derived.Deep.DeepHandedRow
import Derived.LaidMore
namespace Go.Proofs.YthppmncndindiaaDoor.fnFieldsAgain
open Go.ChangeShapes Go.WideShapes Go.ChangeAt Go.RowKit
open Go.ChangeMaps (open_string shut_string)

theorem spec_is (s : ByteArray) (w : World) (hm : s.size ≤ maxLen) : Calls Tryd.prog 17 #[.string s] w (Strs 9 w.heap.size (spR s).1 (spR s).2 w) := by
  by_cases h : s.size ≤ 600
  · exact s_split s w h
  · exact s_split_long s w (by omega) hm
theorem impl_is (s : ByteArray) (w : World) (hm : s.size ≤ maxLen) : Calls Tryd.prog 16 #[.string s] w (Strs 9 w.heap.size (spR s).1 (spR s).2 w) := by
  by_cases h : s.size ≤ 600
  · exact i_split s w h
  · exact i_split_long s w (by omega) hm
theorem minus3 : (Lib.itoa (-3)).toArray = #[45, 51] := by decide +kernel
theorem spR_no (s : ByteArray) (l : List ByteArray) (h : spR s = (l, false)) : l = [] := by
  unfold spR at h
  split at h
  · injection h with _ h; cases h
  · injection h with h _; exact h.symm

set_option maxHeartbeats 1000000 in
theorem walk (a0 : Option Addr) (len0 cap0 : Nat) (z0 : List Int) (w : World) (w0 : IsRow .u8 w a0 len0 cap0 z0) (hL : laidMet Tryd.prog Rows.fnFieldsAgainRow.laid w) :
    Calls Tryd.prog 5 #[.slice a0 len0 cap0] w fun e w' => e = .returned (.bool true) ∧ Below w.heap.size w w' := by
  have HC := Lib.hid w0
  have HT := Lib.hid (pow_of hL)
  clear hL
  have hlen : len0 ≤ 9223372036854775807 := by
    rcases w0 with ⟨_, rfl, _, _⟩ | ⟨x, _, h1, h2, _⟩
    · omega
    · unfold maxLen at h2; omega
  clear w0
  by_cases hb : 1048576 < len0
  · go_enter Tryd.func5, Tryd.ntmps5
    go_wp2_with fail
    refine (big_yes a0 len0 cap0 _ hb hlen).mono ?_
    rintro e w' ⟨rfl, rfl⟩
    go_wp2
    go_ret
    exact ⟨rfl, Below.refl _ _⟩
  · go_enter Tryd.func5, Tryd.ntmps5
    go_wp2_with fail
    refine (big_no a0 len0 cap0 _ (by omega)).mono ?_
    rintro e w' ⟨rfl, rfl⟩
    go_wp2_with fail
    refine (d_line a0 len0 cap0 z0 _ HC.out (by omega)).mono ?_
    rintro e w1 ⟨s, rfl, hs, B1⟩
    have L1 := Lib.hid B1
    clear B1
    obtain ⟨l, ok, hlok⟩ : ∃ l ok, spR s = (l, ok) := ⟨_, _, rfl⟩
    have HS := Lib.hid hlok
    clear hlok
    go_wp2_with fail
    refine (impl_is s _ (by unfold maxLen; omega)).mono ?_
    rintro e w2 ⟨v1, rfl, O1, B2⟩
    rw [HS.out] at O1
    rw [HS.out]
    dsimp only at O1 ⊢
    obtain ⟨a1, c1, rfl⟩ := owns_shape O1
    have O1 := Lib.hid O1
    have L2 := Lib.hid (L1.out.trans (B2.mono L1.out.size))
    have hs1 := L1.out.size
    have hs2 := B2.size
    clear B2
    go_wp2_with fail
    refine (spec_is s _ (by unfold maxLen; omega)).mono ?_
    rintro e w3 ⟨v2, rfl, O2, B3⟩
    rw [HS.out] at O2
    rw [HS.out]
    dsimp only at O2 ⊢
    have O12 := Lib.hid (owns_below O1.out B3)
    have L3 := Lib.hid (L2.out.trans (B3.mono L2.out.size))
    clear B3 O2
    cases ok
    · have hl0 := spR_no s l HS.out
      subst hl0
      go_wp2_with fail
      refine (i_itoa (-3) _ (by omega) (by omega) (pow_on HT.out L3.out)).mono ?_
      rintro e w4 ⟨rfl, B4⟩
      have L4 := Lib.hid (L3.out.trans (B4.mono L3.out.size))
      clear B4
      rw [minus3]
      go_wp2
      go_ret
      exact ⟨rfl, L4.out⟩
    · have hsm := Lib.hid (field_small s l HS.out)
      have hl24 := (fields_of s l HS.out).2.2.2
      have hrd := Lib.hid (reads_of O12.out)
      go_wp2_with fail
      go_loopw [8, 9] (fun sv i wr => ∃ (k : Nat) (t : ByteArray), k ≤ l.length ∧ i = .int .i64 (k : Int) ∧ sv = .string t ∧ t.data.toList = joinS (l.take k) ∧ t.size ≤ 601 * k ∧ wr = w3)
        (fun _ i _ => l.length - (intOf i).toNat)
      case atStart => exact ⟨0, ⟨#[]⟩, Nat.zero_le _, rfl, rfl, rfl, by decide, rfl⟩
      case round =>
        obtain ⟨k, t, hk, rfl, rfl, htl, hts, rfl⟩ := hrel
        have HTL := Lib.hid htl
        clear htl
        by_cases hlt : k < l.length
        · obtain ⟨g, rfl, hc⟩ := hrd.out k hlt
          have hfs := hsm.out l[k] (List.getElem_mem hlt)
          have hnx : l.take (k + 1) = l.take k ++ [l[k]] := List.take_succ_eq_append_getElem hlt
          have HN : Hid (((t ++ l[k]) ++ (⟨#[32]⟩ : ByteArray)).data.toList = joinS (l.take (k + 1))) := Lib.hid (by
            rw [hnx, joinS_snoc, ← HTL.out]; simp [ByteArray.data_append])
          have k0 : (0 : Int) ≤ (k : Int) := by omega
          have k1 : (k : Int) < (l.length : Int) := by omega
          have h1s : (⟨#[32]⟩ : ByteArray).size = 1 := rfl
          have HZ : Hid (((t ++ l[k]) ++ (⟨#[32]⟩ : ByteArray)).size ≤ 601 * (k + 1)) := Lib.hid (by
            rw [ByteArray.size_append, ByteArray.size_append, h1s]; omega)
          clear hnx h1s
          generalize l[k] = f at hc hfs HN HZ
          go_wp2
          go_roundw
          case rel => exact ⟨k + 1, _, by omega, by go_num, rfl, HN.out, HZ.out, by first | rfl | trivial⟩
          case measure => simp [intOf]; omega
        · have hkk : k = l.length := by omega
          have HJ : Hid (t.data.toList = joinS l) := Lib.hid (by rw [HTL.out, hkk, List.take_length])
          clear hkk
          go_wp2_with fail
          refine (impl_is t _ (by unfold maxLen; omega)).mono ?_
          rintro e w4 ⟨v3, rfl, O3, B4⟩
          have L4 := Lib.hid (L3.out.trans (B4.mono L3.out.size))
          by_cases h600 : 600 < t.size
          · obtain ⟨p, hp⟩ : ∃ p, (spR t).2 = p := ⟨_, rfl⟩
            rw [hp]
            clear hp O3 B4
            go_wp2
            go_ret
            exact ⟨rfl, L4.out⟩
          · have hag := again s t l HS.out HJ.out (by omega)
            rw [hag] at O3
            rw [hag]
            dsimp only at O3 ⊢
            obtain ⟨a3, c3, rfl⟩ := owns_shape O3
            have O3 := Lib.hid O3
            have O13 := Lib.hid (owns_below O12.out B4)
            clear hag B4
            go_wp2_with fail
            refine (l_same a1 a3 c1 c3 l _ (reads_of O13.out) (reads_of O3.out) (by omega)).mono ?_
            rintro e w5 ⟨rfl, B5⟩
            have L5 := Lib.hid (L4.out.trans (B5.mono L4.out.size))
            clear B5
            go_wp2
            go_ret
            exact ⟨rfl, L5.out⟩

theorem own : ownKnob Tryd.prog.godebug = none := by kernel_rfl
theorem laidOut : laidOutB Tryd.prog = true := by kernel_rfl

theorem door_met (os : Os) (args : Array Value) : laidMetH Tryd.prog Rows.fnFieldsAgainRow.laid ((World.doorLaid Tryd.prog 400 os).forCall (fun _ _ => 0) ⟨#[], args, []⟩).memory :=
  laidMetH_of_parts3 (fuel := 8) (laidMet_of_run' 8 (by kernel_rfl) (by kernel_rfl)) (by kernel_rfl) (by kernel_rfl)

set_option maxRecDepth 100000 in
theorem lifted (os : Os) (started : os.Started) (H : Type) (enc : TypeId × Value → H) :
    ReturnsInHanded {} Tryd.checked os 5 .any (fun w args => (Rows.fnFieldsAgainSpec.pre enc Tryd.prog Tryd.f5 [] false w args ∧ laidMetH Tryd.prog Rows.fnFieldsAgainRow.laid w) ∧ sizedMet enc Tryd.prog Tryd.f5 (OpenSpec.ofChange Rows.fnFieldsAgainSpec) false w args) (Rows.fnFieldsAgainSpec.post enc Tryd.prog Tryd.f5 false true false false) := by
  refine returnsInHanded_of_change_and (C := Tryd.checked) (X := fun w _ => laidMetH Tryd.prog Rows.fnFieldsAgainRow.laid w) (fun _ _ _ hh h => h.of_heap hh) own started (by kernel_rfl) Tryd.func5
    (ChangeSpec.witness_shaped (enc := enc) (C := Tryd.checked) (os := os) (X := fun w _ => laidMetH Tryd.prog Rows.fnFieldsAgainRow.laid w) false (World.doorLaid Tryd.prog 400 os) #[.slice none 0 0] 8 rfl (World.shaped_of_RefB (by kernel_rfl) (by kernel_rfl)) (by kernel_rfl) (by kernel_rfl) (by kernel_rfl) (door_met os _)) ?_
  intro W base args ds gs before hval0 hW _ _ hLH _
  have hL : laidMet Tryd.prog Rows.fnFieldsAgainRow.laid W := by rw [MakeChecks.laidMetH_plain _ _ _ (by kernel_rfl)] at hLH; exact hLH
  have hval : ∀ (j : Nat) t v, Tryd.f5.params[j]? = some t → args[j]? = some v → Value.okWide Tryd.prog W .any base t v := hval0
  have hW' := hW
  obtain ⟨p, q, hA0, hV, rfl, hfz, hnd⟩ := hW
  have hA : DataW.TrodAll enc Tryd.prog W 0 (fun _ => true) true Tryd.f5.params.toList args.toList ds p := hA0
  rw [Tryd.params5] at hA hval
  obtain ⟨v0, vs0, d0, ds0, p0, q0, hargs, rfl, rfl, h0, r0⟩ := trodAll_cons hA
  obtain ⟨rfl, rfl, rfl⟩ := trodAll_nil r0
  obtain rfl : args = #[v0] := by cases args; simp_all
  obtain ⟨rfl, rfl⟩ := trodVars_none hV
  obtain ⟨a0, len0, cap0, rfl⟩ := okWide_slice Tryd.underlying22 (hval 0 22 v0 rfl rfl)
  have k0 := h0
  have lt0 : ∀ x ∈ p0, x.block < W.heap.size := by obtain ⟨m, hm⟩ := k0; exact DataW.trod_lt m _ _ _ hm
  obtain ⟨z0, w0⟩ : ∃ zs, IsRow .u8 W a0 len0 cap0 zs := by
    obtain ⟨fuel, hf⟩ := h0
    rcases open_ints Tryd.underlying22 Tryd.underlying5 (by kernel_rfl) hf with ⟨hcs, _⟩ | ⟨x, l, c, zs, hcs, _, hl, hm, hz, _, hcell, hwz⟩
    · simp [Value.cells] at hcs
      obtain ⟨rfl, rfl, rfl⟩ := hcs
      exact ⟨[], .inl ⟨rfl, rfl, rfl, rfl⟩⟩
    · simp [Value.cells] at hcs
      obtain ⟨rfl, rfl, rfl⟩ := hcs
      exact ⟨zs, .inr ⟨_, rfl, hl, hm, by simpa using hz, hcell, hwz⟩⟩
  clear hA0 hval0
  refine (walk a0 len0 cap0 z0 W w0 hL).mono fun e W' ⟨he, bel⟩ => ?_
  subst he
  exact ⟨_, rfl, _, _, _, [], _, [], hW', trodAll_mk1 (shut_bool Tryd.underlying4 _), (trodAll_cons_mk (Below.trod laidOut (by kernel_rfl) (of_decide_eq_true (by kernel_rfl)) k0 bel lt0) trodAll_mk0), rfl, bel.frame _, fun h => by cases h⟩

theorem over : Rows.fnFieldsAgainRow.holds Tryd.pinned (OpenSpec.ofChange Rows.fnFieldsAgainSpec) :=
  OpenClaim.holds_of_wide 5 Tryd.f5 rfl rfl rfl rfl rfl rfl rfl ⟨rfl, rfl, rfl, rfl, rfl⟩ rfl rfl rfl rfl rfl (by kernel_rfl) Tryd.func5 (by kernel_rfl)
    (of_decide_eq_true (by kernel_rfl)) (by unfold Func.isWrapper; first | (rw [if_pos (by decide +kernel)]; kernel_rfl) | (rw [if_neg (by decide +kernel)]; exact ⟨rfl, rfl⟩))
    (fun os started H enc _ => lifted os started H enc)

theorem said : Rows.FnFieldsAgainSaid := over
theorem plain (f : FuncId) (fn : Func) (hf : Tryd.pinned.checked.prog.funcNamed "loop.example/g03314/laws.FnFieldsAgain" = some f) (hfn : Tryd.pinned.checked.prog.funcs[f]? = some fn) :
    Rows.fnFieldsAgainCard.stood.looks = Tryd.pinned.checked.prog.looks [] ∧ ∀ (j : Nat) t, fn.params[j]? = some t → Tryd.pinned.checked.prog.wantsStandIn t = false := by
  obtain rfl : f = 5 := Option.some.inj ((show Tryd.prog.funcNamed "loop.example/g03314/laws.FnFieldsAgain" = some 5 by kernel_rfl).symm.trans hf) |>.symm
  obtain rfl : fn = Tryd.f5 := (Option.some.inj (Tryd.func5.symm.trans hfn)).symm
  refine ⟨by kernel_rfl, fun j t ht => ?_⟩
  rw [Tryd.params5] at ht
  have hm : t ∈ [22] := by simpa using Array.mem_of_getElem? ht
  have hall : ([22].all fun u => !Tryd.prog.wantsStandIn u) = true := by kernel_rfl
  exact (show Tryd.prog.wantsStandIn t = false by simpa using List.all_eq_true.1 hall t hm)
theorem proved : Rows.FnFieldsAgainCardSaid :=
  Claim7.holds_tied_plain_at .later [] _ _ _ _ said (fun _ h => by cases h) (by kernel_rfl) (fun _ h => by cases h) fnFieldsAgain_row_tie rfl ⟨rfl, rfl⟩ (by kernel_rfl) rfl plain (by kernel_rfl)
end Go.Proofs.YthppmncndindiaaDoor.fnFieldsAgain
