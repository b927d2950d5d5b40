/- The model's FormatExpr. -/
import Derived.Test.YthmllcpldgbbcaaGreatDoorEokSpec
import Derived.Test.YthmllcpldgbbcaaGreatDoorFmtSpec
import Derived.Test.YthmllcpldgbbcaaGreatDoorPlainA
namespace Go.Proofs.YthmllcpldgbbcaaGreatDoor
open Go.RowKit Go.Lib

set_option maxHeartbeats 1000000 in
theorem s_fexpr_no (a : Option Addr) (cap : Nat) (l : List TokL) (w : World) (hl : l.length ≤ 1048576) (hr : ReadT w a l) (hn : NamesT l) (hb : exprB l = false) :
    Calls Tryz.prog 82 #[.slice a l.length cap] w fun e w' => e = .returned (.string (fexZ l)) ∧ Below w.heap.size w w' := by
  have HV := Lib.hid (fexZ_no l hb)
  have S := Lib.hid (fun W h => hb ▸ s_exprok a cap l W hl h hn)
  have HR := Lib.hid hr
  clear hr hn hb
  go_enter Tryz.func82, Tryz.ntmps82
  go_wp2_with fail
  go_loopw [3, 4] (fun s i wr => s = .string ⟨#[]⟩ ∧ i = .int .i64 0 ∧ Below w.heap.size w wr) (fun _ _ _ => 0)
  case atStart => exact ⟨rfl, rfl, Below.refl _ _⟩
  case round =>
    obtain ⟨rfl, rfl, hbel⟩ := hrel
    have HB := Lib.hid hbel
    have hB := hbel.size
    have HR1 := Lib.hid (HR.out.below hbel)
    clear hbel
    by_cases h0 : 0 < l.length
    · go_wp2_with fail
      refine (S.out _ HR1.out).mono ?_
      rintro e w1 ⟨rfl, b1⟩
      have HB1 := Lib.hid (HB.out.trans (b1.mono hB))
      clear b1
      go_wp2
      go_ret
      exact ⟨ret_s HV.out.symm, HB1.out⟩
    · obtain rfl : l = [] := List.length_eq_zero_iff.1 (by omega)
      clear h0
      go_wp2
      go_ret
      exact ⟨ret_s HV.out.symm, HB.out⟩

set_option maxHeartbeats 2000000 in
theorem s_fexpr_yes (a : Option Addr) (cap : Nat) (l : List TokL) (w : World) (hr : ReadT w a l) (hn : NamesT l) (hb : exprB l = true) :
    Calls Tryz.prog 82 #[.slice a l.length cap] w fun e w' => e = .returned (.string (fexZ l)) ∧ Below w.heap.size w w' := by
  have HV := Lib.hid (fexZ_yes l hb)
  obtain ⟨l0, l20⟩ := expr_len l hb
  have S := Lib.hid (fun W h => hb ▸ s_exprok a cap l W (by omega) h hn)
  have HR := Lib.hid hr
  have HN := Lib.hid hn
  clear hr hn hb
  go_enter Tryz.func82, Tryz.ntmps82
  go_wp2_with fail
  go_loopw [3, 4] (fun s i wr => ∃ (k : Nat) (t : ByteArray), k ≤ l.length ∧ i = .int .i64 (k : Int) ∧ s = .string t ∧ t.data.toList = jn (l.take k) ∧ Below w.heap.size w wr) (fun _ i _ => l.length - (intOf i).toNat)
  case atStart => exact ⟨0, ⟨#[]⟩, Nat.zero_le _, rfl, rfl, rfl, Below.refl _ _⟩
  case round =>
    obtain ⟨k, t, hk, rfl, rfl, ht, hbel⟩ := hrel
    have HT := Lib.hid ht
    have HB := Lib.hid hbel
    have hB := hbel.size
    have HR1 := Lib.hid (HR.out.below hbel)
    have htz : t.size ≤ 400 := by have := jn_len l k hk; rw [← ht, list_len] at this; omega
    clear hbel ht
    by_cases hlt : k < l.length
    · obtain ⟨g, rfl, hg, c0, c1, c2⟩ := HR1.out k hlt
      have hsz := HN.out k hlt
      have HS0 := Lib.hid (jn_take0 l l0)
      have HS1 := Lib.hid (fun h0 => jn_take l k hlt h0)
      have HK0 : Hid (k = 0 → jn (l.take (k + 1)) = (fmtT l[k]).data.toList) := Lib.hid (fun e => by subst e; exact HS0.out)
      obtain ⟨tk, htk⟩ : ∃ tk, l[k] = tk := ⟨_, rfl⟩
      rw [htk] at c0 c1 c2 hsz HS1 HK0
      have hrz := fmtT_size tk
      have HF := Lib.hid (fun W => s_fmt tk.kind tk.num tk.name W hsz)
      obtain ⟨r, hr⟩ : ∃ r, fmtT tk = r := ⟨_, rfl⟩
      rw [show fmtT ⟨tk.kind, tk.num, tk.name⟩ = r from hr] at HF
      rw [hr] at HS1 HK0 hrz
      have k0 : (0 : Int) ≤ (k : Int) := by omega
      have k1 : (k : Int) < (l.length : Int) := by omega
      clear htk hr HS0
      go_wp2_with fail
      refine (S.out _ HR1.out).mono ?_
      rintro e w1 ⟨rfl, b1⟩
      have HB1 := Lib.hid (HB.out.trans (b1.mono hB))
      have z1 : w.heap.size ≤ w1.heap.size := HB1.out.size
      have d0 := (b1.cell (p := ⟨g, k * 3, none⟩) hg).trans c0
      have d1 := (b1.cell (p := ⟨g, k * 3 + 1, none⟩) hg).trans c1
      have d2 := (b1.cell (p := ⟨g, k * 3 + 2, none⟩) hg).trans c2
      clear b1 c0 c1 c2
      have e32 : (⟨#[32]⟩ : ByteArray).size = 1 := rfl
      have p1 : ∀ W : World, (Op.stringOp .add t ⟨#[32]⟩).run Tryz.prog W = .ok (.string (t ++ ⟨#[32]⟩)) W := fun W => run_string_add_sum (w := W) t ⟨#[32]⟩ (by omega)
      have p2 : ∀ W : World, (Op.stringOp .add (t ++ ⟨#[32]⟩) r).run Tryz.prog W = .ok (.string (t ++ ⟨#[32]⟩ ++ r)) W := fun W => run_string_add_sum (w := W) (t ++ ⟨#[32]⟩) r (by rw [ByteArray.size_append]; omega)
      have p3 : ∀ W : World, (Op.stringOp .add t r).run Tryz.prog W = .ok (.string (t ++ r)) W := fun W => run_string_add_sum (w := W) t r (by omega)
      clear e32
      by_cases hk0 : 0 < k
      · have HX : Hid ((t ++ ⟨#[32]⟩ ++ r).data.toList = jn (l.take (k + 1))) := Lib.hid (by rw [HS1.out hk0, ByteArray.data_append, ByteArray.data_append, Array.toList_append, Array.toList_append, HT.out])
        go_wp2_with fail
        refine (HF.out _).mono ?_
        rintro e w2 ⟨rfl, b2⟩
        have HB2 := Lib.hid (HB1.out.trans (b2.mono z1))
        clear b2 d0 d1 d2
        go_wp2
        go_roundw
        case rel => exact ⟨k + 1, _, by omega, by go_num, rfl, HX.out, HB2.out⟩
        case measure => simp [intOf]; omega
      · have hkz : k = 0 := by omega
        have HX : Hid ((t ++ r).data.toList = jn (l.take (k + 1))) := Lib.hid (by rw [HK0.out hkz, ByteArray.data_append, Array.toList_append, HT.out, hkz]; simp [jn_nil])
        clear hkz
        go_wp2_with fail
        refine (HF.out _).mono ?_
        rintro e w2 ⟨rfl, b2⟩
        have HB2 := Lib.hid (HB1.out.trans (b2.mono z1))
        clear b2 d0 d1 d2
        go_wp2
        go_roundw
        case rel => exact ⟨k + 1, _, by omega, by go_num, rfl, HX.out, HB2.out⟩
        case measure => simp [intOf]; omega
    · have hkk : k = l.length := by omega
      have HX : Hid (t = ⟨(jn l).toArray⟩) := Lib.hid (bl_eq (by rw [HT.out, hkk, List.take_of_length_le (Nat.le_refl _)]))
      clear hkk
      go_wp2
      go_ret
      exact ⟨ret_s (by rw [HV.out, HX.out]), HB.out⟩
theorem s_fexpr (a : Option Addr) (cap : Nat) (l : List TokL) (w : World) (hl : l.length ≤ 1048576) (hr : ReadT w a l) (hn : NamesT l) :
    Calls Tryz.prog 82 #[.slice a l.length cap] w fun e w' => e = .returned (.string (fexZ l)) ∧ Below w.heap.size w w' := by
  cases hb : exprB l
  · exact s_fexpr_no a cap l w hl hr hn hb
  · exact s_fexpr_yes a cap l w hr hn hb
end Go.Proofs.YthmllcpldgbbcaaGreatDoor
