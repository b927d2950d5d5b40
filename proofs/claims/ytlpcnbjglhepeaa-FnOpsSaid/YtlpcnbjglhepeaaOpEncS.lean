/- The model's EncodeOp. -/
import Derived.Test.YtlpcnbjglhepeaaOpSpec
import Derived.Test.YtlpcnbjglhepeaaPlainB
import Derived.Deep.RegionHeld3
import Derived.Deep.AppendLies
namespace Go.Proofs.Ytlpcnbjglhepeaa
open Go.RowKit Go.Lib

theorem info7 : (Try.prog.info? 5).map (fun i => (i.zero, i.size, i.bytes)) = some (some (.int .u8 0), 1, 1) := by kernel_rfl
theorem shr_byte7 (a : Int) (k : Nat) : a / 2 ^ (8 * k) % 256 = ((bytA a k).toNat : Int) := by
  have e : (2 : Int) ^ (8 * k) = ((256 ^ k : Nat) : Int) := by rw [Int.pow_mul, Int.natCast_pow]; rfl
  rw [e]
  unfold bytA
  have h1 := Int.emod_nonneg (a / ((256 ^ k : Nat) : Int)) (show (256 : Int) ≠ 0 by decide)
  have h2 := Int.emod_lt_of_pos (a / ((256 ^ k : Nat) : Int)) (show (0 : Int) < 256 by decide)
  rw [byte_of _ h1 h2]
theorem encL_no (c a : Int) (h : insB ⟨c, a⟩ = false) : encL ⟨c, a⟩ = [] := by unfold encL; rw [h]; rfl
theorem encL_yes (c a : Int) (h : insB ⟨c, a⟩ = true) : encL ⟨c, a⟩ = UInt8.ofNat c.toNat :: argB a (widN c) := by unfold encL; rw [h]; rfl

set_option maxHeartbeats 2000000 in
theorem s_enc7 (c a : Int) (w : World) : Calls Try.prog 19 #[.agg #[.int .i64 c, .int .i64 a]] w fun e w' => e = .returned (.string ⟨(encL ⟨c, a⟩).toArray⟩) ∧ Below w.heap.size w w' := by
  have OK := Lib.hid (fun W => s_ok7 c a W)
  cases hi : insB ⟨c, a⟩ with
  | false =>
    rw [hi] at OK
    have HE := Lib.hid (encL_no c a hi)
    clear hi
    go_enter Try.func19, Try.ntmps19
    go_wp2_with fail
    refine (OK.out _).mono ?_
    rintro e w1 ⟨rfl, b1⟩
    go_wp2_with fail
    go_ret
    rw [HE.out]
    exact ⟨rfl, ((Below.refl w.heap.size w).alloc (Nat.le_refl _) _).trans (b1.mono (by simp))⟩
  | true =>
    rw [hi] at OK
    have HE := Lib.hid (encL_yes c a hi)
    have hcc := (insB_parts _ hi).1
    have WD := Lib.hid (fun W => s_wid c W)
    have hm := widN_le c
    obtain ⟨m, hme⟩ : ∃ m : Nat, widN c = m := ⟨_, rfl⟩
    rw [hme] at HE WD hm
    obtain ⟨i0, hi0, hz0, hz1, hz2⟩ := info_parts info7
    have h0 : 0 ≤ c := hcc.1
    have h1 : c ≤ 17 := hcc.2
    have hcb : Hid (c % 256 = ((UInt8.ofNat c.toNat).toNat : Int)) := Lib.hid (by rw [byte_of c h0 (by omega)]; omega)
    clear hi hcc hme
    go_enter Try.func19, Try.ntmps19
    go_wp2_with fail
    refine (OK.out _).mono ?_
    rintro e w1 ⟨rfl, b1⟩
    have c0 : w1.cell? ⟨w.heap.size, 0, none⟩ = some (.int .i64 c) := (b1.cell (p := ⟨w.heap.size, 0, none⟩) (by simp)).trans ((blk (heap_alloc_new w _)).1 0 _ rfl)
    have c1 : w1.cell? ⟨w.heap.size, 1, none⟩ = some (.int .i64 a) := (b1.cell (p := ⟨w.heap.size, 1, none⟩) (by simp)).trans ((blk (heap_alloc_new w _)).1 1 _ rfl)
    have z1 : w.heap.size < w1.heap.size := by have := b1.size; simp at this; omega
    have HB1 : Hid (Below w.heap.size w w1) := Lib.hid (((Below.refl w.heap.size w).alloc (Nat.le_refl _) _).trans (b1.mono (by simp)))
    clear b1
    go_wp2_with fail
    refine (WD.out _).mono ?_
    rintro e w2 ⟨rfl, rfl⟩
    go_wp2_with fail
    obtain ⟨b, hb⟩ : ∃ b, UInt8.ofNat c.toNat = b := ⟨_, rfl⟩
    rw [hb] at HE hcb
    have HO1 : Hid ((w1.alloc (.cells #[.int .u8 c] 5)).ownsRow w1.heap.size 5 1 (.slice (some ⟨w1.heap.size, 0, none⟩) 1 1) 1 (byteCells (b :: argB a 0))) := Lib.hid (by
      have h := World.ownsRow_lit (base := w1.heap.size) (e := 5) (size := 1) w1 #[.int .u8 c] 1 (Nat.le_refl _) (by decide) rfl
      have e : byteCells (b :: argB a 0) = (#[.int .u8 c] : Array Value).toList := by
        have : c = (b.toNat : Int) := by have := hcb.out; omega
        rw [this]; rfl
      rw [e]; exact h)
    clear hb
    go_loopw [5, 6] (fun v x wr => ∃ k : Nat, k ≤ m ∧ x = .int .i64 (k : Int) ∧ wr.ownsRow w1.heap.size 5 1 v (k + 1) (byteCells (b :: argB a k)) ∧ Below w1.heap.size w1 wr)
      (fun _ x _ => m - (intOf x).toNat)
    case atStart => exact ⟨0, by omega, rfl, HO1.out, (Below.refl _ _).alloc (Nat.le_refl _) _⟩
    case round =>
      obtain ⟨k, hk, rfl, hown, hbel⟩ := hrel
      have HB := Lib.hid hbel
      have hB := hbel.size
      by_cases hlt : k < m
      · have d1 : wr.cell? ⟨w.heap.size, 1, none⟩ = some (.int .i64 a) := (hbel.cell (p := ⟨w.heap.size, 1, none⟩) z1).trans c1
        have k0 : (0 : Int) ≤ (k : Int) := by omega
        have k1 : (k : Int) < (m : Int) := by omega
        have k2 : (k : Int) < 4 := by omega
        have h63 : (k + 1) + 1 ≤ maxLen := by unfold maxLen; omega
        have hby : ((k + 1) + 1) * 1 ≤ 140737488355328 := by omega
        have hc0 := Lib.hid c0
        have hc1 := Lib.hid c1
        have hsb := Lib.hid (shr_byte7 a k)
        clear hbel c0 c1
        go_wp2_with (at_builtin; refine wpList_append_own _ rfl _ _ 22 rfl w1.heap.size 5 i0 (.int .u8 0) 1 1 Try.underlying22 hi0 hz0 hz1 hz2 rfl (by decide) _ _ _ rfl (hown.alloc _) ⟨wr.heap.size, 0, none⟩ 1 1 [.int .u8 (a / 2 ^ (8 * k) % 256)] rfl rfl ?c1 ?c2 h63 hby ?c5 ?_)
        case c1 => exact cell_one_new _ _ _
        case c2 => intro u hu; simp at hu; subst hu; rfl
        case c5 => simp; omega
        intro v' w3 hown1 hgrow _
        have HO4 : Hid (w3.ownsRow w1.heap.size 5 1 v' (k + 1 + 1) (byteCells (b :: argB a (k + 1)))) := Lib.hid (by
          have e : byteCells (b :: argB a (k + 1)) = byteCells (b :: argB a k) ++ [.int .u8 (a / 2 ^ (8 * k) % 256)] := by
            rw [argB_snoc, ← List.cons_append, byteCells_append, hsb.out]; rfl
          rw [e]; exact hown1)
        have HB3 := Lib.hid (below_app' hown HB.out hB hgrow)
        clear hown1 hgrow hown
        go_wp2
        go_roundw
        case rel => exact ⟨k + 1, by omega, by go_num, HO4.out, HB3.out⟩
        case measure => simp [intOf]; omega
      · have hkm : k = m := by omega
        have k1 : ¬ (k : Int) < (m : Int) := by omega
        have hcv := conv_own (P := Try.prog) wr w1.heap.size 22 9 5 _ (b :: argB a k) Try.underlying22 Try.underlying5 Try.underlying9 (by rw [List.length_cons, argB_length]; exact hown)
        have HE' : Hid (encL ⟨c, a⟩ = b :: argB a k) := Lib.hid (by rw [HE.out, hkm])
        clear hkm hbel hown c0 c1
        go_wp2
        go_ret
        rw [HE'.out]
        exact ⟨rfl, HB1.out.trans (HB.out.mono (by omega))⟩
end Go.Proofs.Ytlpcnbjglhepeaa
