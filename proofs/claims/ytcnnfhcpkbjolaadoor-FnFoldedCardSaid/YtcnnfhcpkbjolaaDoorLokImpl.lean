/- The program's LineOk. -/
import Derived.Test.YtcnnfhcpkbjolaaDoorShapes
import Derived.Test.YtcnnfhcpkbjolaaDoorDiffImpl
import Derived.Test.YtcnnfhcpkbjolaaDoorEokImpl
import Derived.Test.YtcnnfhcpkbjolaaDoorPlainB
import Derived.Outline
import Derived.Lib.Hide
import Derived.WalkSmall
import Derived.Deep.QuietTactic
import Derived.BigQuiet
namespace Go.Proofs.YtcnnfhcpkbjolaaDoor
open Go.RowKit Go.Lib

set_option maxHeartbeats 400000 in
theorem i_nf (s : ByteArray) (b : Bool) (w : World) (hm : s.size ≤ maxLen) : Calls Tryd.prog 109 #[.string s, .bool b] w fun e w' => e = .returned (.bool (nfB b s)) ∧ w = w' := by
  cases b
  · by_cases h0 : s.size = 0
    · obtain rfl := empty_of s h0
      go_enter Tryd.func109, Tryd.ntmps109
      go_wp2
      go_ret
      exact ⟨ret_b rfl, rfl⟩
    · have h := empty_no s h0
      have HV : Hid (nfB false s = false) := Lib.hid (by unfold nfB; rw [if_neg (by decide), decide_eq_false h0])
      clear h0
      go_enter Tryd.func109, Tryd.ntmps109
      go_wp2
      go_ret
      exact ⟨ret_b HV.out.symm, rfl⟩
  · go_enter Tryd.func109, Tryd.ntmps109
    go_wp2_with fail
    refine (i_name s _ hm).mono ?_
    rintro e w' ⟨rfl, rfl⟩
    go_wp2
    go_ret
    exact ⟨ret_b rfl, rfl⟩
set_option maxHeartbeats 400000 in
theorem i_af (a : Option Addr) (c : Nat) (l : List ByteArray) (b : Bool) (w : World) (hr : ReadS w a l) (hl : l.length ≤ 2000000) (hc : l.length ≤ c) (hc2 : c ≤ maxLen) (hz : ∀ s ∈ l, s.size ≤ maxLen) :
    Calls Tryd.prog 110 #[.slice a l.length c, .bool b] w fun e w' => e = .returned (.bool (afB b l)) ∧ w = w' := by
  have S := Lib.hid (i_diff a c l w hr hl hc hc2 hz)
  clear hr hz
  cases b
  · have HV : Hid (afB false l = decide (l.length = 0)) := Lib.hid rfl
    by_cases h0 : l.length = 0
    · have HW : Hid (afB false l = true) := Lib.hid (by rw [HV.out, decide_eq_true h0])
      rw [h0]
      clear h0 S
      go_enter Tryd.func110, Tryd.ntmps110
      go_wp2
      go_ret
      exact ⟨ret_b HW.out.symm, rfl⟩
    · have HW : Hid (afB false l = false) := Lib.hid (by rw [HV.out, decide_eq_false h0])
      have h1 : ((l.length : Int) == 0) = false := beq_eq_false_iff_ne.2 (by omega)
      clear h0 S
      go_enter Tryd.func110, Tryd.ntmps110
      go_wp2
      go_ret
      exact ⟨ret_b HW.out.symm, rfl⟩
  · have HV : Hid (afB true l = (decide (l.length ≤ 4) && diffB l)) := Lib.hid rfl
    by_cases h4 : l.length ≤ 4
    · have HW : Hid (afB true l = diffB l) := Lib.hid (by rw [HV.out, decide_eq_true h4]; rfl)
      have h1 : decide ((l.length : Int) ≤ 4) = true := decide_eq_true (by omega)
      obtain ⟨r, hr⟩ : ∃ r, diffB l = r := ⟨_, rfl⟩
      rw [hr] at S HW
      clear hr
      go_enter Tryd.func110, Tryd.ntmps110
      go_wp2_with fail
      refine S.out.mono ?_
      rintro e w' ⟨rfl, rfl⟩
      go_wp2
      go_ret
      exact ⟨ret_b HW.out.symm, rfl⟩
    · have HW : Hid (afB true l = false) := Lib.hid (by rw [HV.out, decide_eq_false h4]; rfl)
      have h1 : decide ((l.length : Int) ≤ 4) = false := decide_eq_false (by omega)
      clear S
      go_enter Tryd.func110, Tryd.ntmps110
      go_wp2
      go_ret
      exact ⟨ret_b HW.out.symm, rfl⟩
set_option maxHeartbeats 400000 in
theorem i_ef (a : Option Addr) (c : Nat) (l : List TokL) (b : Bool) (w : World) (hr : ReadT w a l) (hl : l.length ≤ 1048576) (hn : NamesI l) :
    Calls Tryd.prog 111 #[.slice a l.length c, .bool b] w fun e w' => e = .returned (.bool (efB b l)) ∧ Below w.heap.size w w' := by
  have S := Lib.hid (i_exprok a c l w hl hr hn)
  clear hr hn
  cases b
  · have HV : Hid (efB false l = decide (l.length = 0)) := Lib.hid rfl
    by_cases h0 : l.length = 0
    · have HW : Hid (efB false l = true) := Lib.hid (by rw [HV.out, decide_eq_true h0])
      rw [h0]
      clear h0 S
      go_enter Tryd.func111, Tryd.ntmps111
      go_wp2
      go_ret
      exact ⟨ret_b HW.out.symm, Below.refl _ _⟩
    · have HW : Hid (efB false l = false) := Lib.hid (by rw [HV.out, decide_eq_false h0])
      have h1 : ((l.length : Int) == 0) = false := beq_eq_false_iff_ne.2 (by omega)
      clear h0 S
      go_enter Tryd.func111, Tryd.ntmps111
      go_wp2
      go_ret
      exact ⟨ret_b HW.out.symm, Below.refl _ _⟩
  · have HV : Hid (efB true l = exprB l) := Lib.hid rfl
    go_enter Tryd.func111, Tryd.ntmps111
    go_wp2_with fail
    refine S.out.mono ?_
    rintro e w' ⟨rfl, hb⟩
    go_wp2
    go_ret
    exact ⟨ret_b HV.out.symm, hb⟩

/-- What LineOk asks of a line's size. -/
def SzOk (p : PLine) (c : Nat) : Prop := p.args.length ≤ 2000000 ∧ p.args.length ≤ c ∧ c ≤ maxLen ∧ (∀ s ∈ p.args, s.size ≤ maxLen) ∧ p.name.size ≤ maxLen ∧ p.expr.length ≤ 1048576 ∧ NamesI p.expr
set_option maxRecDepth 100000 in
set_option maxHeartbeats 2000000 in
theorem i_lineok (p : PLine) (a b : Option Addr) (c d : Nat) (w : World) (hA : ReadS w a p.args) (hT : ReadT w b p.expr) (hs : SzOk p c) (hsh : Shapes w) :
    Calls Tryd.prog 84 #[.agg #[.int .i64 p.kind, .string p.name, .slice a p.args.length c, .slice b p.expr.length d]] w fun e w' => e = .returned (.bool (lineB p)) ∧ Below w.heap.size w w' := by
  by_cases hk0 : p.kind < 0
  · have HV := Lib.hid (lineB_out p (.inl hk0))
    obtain ⟨k, nm, gs, ex⟩ := p
    dsimp only at hk0 HV ⊢
    clear hA hT hs hsh
    go_enter Tryd.func84, Tryd.ntmps84
    go_wp2
    go_ret
    exact ⟨ret_b HV.out.symm, (Below.refl _ _).alloc (Nat.le_refl _) _⟩
  by_cases hk7 : 7 < p.kind
  · have HV := Lib.hid (lineB_out p (.inr hk7))
    obtain ⟨k, nm, gs, ex⟩ := p
    dsimp only at hk0 hk7 HV ⊢
    clear hA hT hs hsh
    go_enter Tryd.func84, Tryd.ntmps84
    go_wp2
    go_ret
    exact ⟨ret_b HV.out.symm, (Below.refl _ _).alloc (Nat.le_refl _) _⟩
  obtain ⟨k, nm, gs, ex⟩ := p
  obtain ⟨s1, s2, s3, s4, s5, s6, s7⟩ := hs
  dsimp only at hA hT hk0 hk7 s1 s2 s4 s5 s6 s7 ⊢
  obtain ⟨n, rfl⟩ := Int.eq_ofNat_of_zero_le (by omega : 0 ≤ k)
  have hn8 : n < 8 := by omega
  have HV : Hid (lineB ⟨(n : Int), nm, gs, ex⟩ = (nfB (namedB (n : Int)) nm && (afB (decide ((n : Int) = 0)) gs && efB (exprK (n : Int)) ex))) := Lib.hid (by
    unfold lineB
    dsimp only
    rw [decide_eq_true (by omega : (0 : Int) ≤ (n : Int)), decide_eq_true (by omega : (n : Int) ≤ 7)]
    rfl)
  obtain ⟨e0, e1, e2, e3⟩ := hsh.at n hn8
  obtain ⟨wd, hwd⟩ : ∃ x, wordZ (n : Int) = x := ⟨_, rfl⟩
  obtain ⟨nb, hnb⟩ : ∃ x, namedB (n : Int) = x := ⟨_, rfl⟩
  obtain ⟨ab, hab⟩ : ∃ x, decide ((n : Int) = 0) = x := ⟨_, rfl⟩
  obtain ⟨eb, heb⟩ : ∃ x, exprK (n : Int) = x := ⟨_, rfl⟩
  rw [hwd] at e0
  rw [hnb] at e1 HV
  rw [hab] at e2 HV
  rw [heb] at e3 HV
  have S1 := Lib.hid (fun W => i_nf nm nb W s5)
  have S2 := Lib.hid (fun W h => i_af a c gs ab W h s1 s2 s3 s4)
  have S3 := Lib.hid (fun W h => i_ef b d ex eb W h s6 s7)
  obtain ⟨r1, hr1⟩ : ∃ x, nfB nb nm = x := ⟨_, rfl⟩
  obtain ⟨r2, hr2⟩ : ∃ x, afB ab gs = x := ⟨_, rfl⟩
  obtain ⟨r3, hr3⟩ : ∃ x, efB eb ex = x := ⟨_, rfl⟩
  rw [hr1] at S1 HV
  rw [hr2] at S2 HV
  rw [hr3] at S3 HV
  have HA := Lib.hid hA
  have HT := Lib.hid hT
  have k0 : (0 : Int) ≤ (n : Int) := by omega
  have k1 : (n : Int) < 8 := by omega
  have hd1 : decide ((n : Int) < 0) = false := decide_eq_false (by omega)
  have hd2 : decide (7 < (n : Int)) = false := decide_eq_false (by omega)
  have gl : 0 < w.heap.size := World.block_lt_of_cell? w _ e0
  have T := Lib.hid (two_new w (.cells #[.int .i64 (n : Int), .string nm, .slice a gs.length c, .slice b ex.length d] 48) (.cells #[.string wd, .bool nb, .bool ab, .bool eb] 111))
  clear hA hT hsh hwd hnb hab heb hr1 hr2 hr3 s1 s2 s3 s4 s5 s6 s7 hk0 hk7
  go_enter Tryd.func84, Tryd.ntmps84
  go_wp2_with fail
  refine (S1.out _).mono ?_
  rintro e w' ⟨rfl, rfl⟩
  cases r1
  · go_wp2
    go_ret
    exact ⟨ret_b HV.out.symm, T.out.2.2.2⟩
  go_wp2_with fail
  refine (S2.out _ (HA.out.below T.out.2.2.2)).mono ?_
  rintro e w' ⟨rfl, rfl⟩
  cases r2
  · go_wp2
    go_ret
    exact ⟨ret_b HV.out.symm, T.out.2.2.2⟩
  go_wp2_with fail
  refine (S3.out _ (HT.out.below T.out.2.2.2)).mono ?_
  rintro e w1 ⟨rfl, b1⟩
  have HB : Hid (Below w.heap.size w w1) := Lib.hid (T.out.2.2.2.trans (b1.mono (by rw [T.out.2.2.1]; omega)))
  clear b1
  go_wp2
  go_ret
  exact ⟨ret_b (by rw [HV.out]; rfl), HB.out⟩
end Go.Proofs.YtcnnfhcpkbjolaaDoor
