/- The program's widened: the bytes of the number of which only the first are stored. -/
import Derived.Test.YtcflojdkaddemaaOpBytes
namespace Go.Proofs.Ytcflojdkaddemaa
open Go.RowKit Go.Lib

def widK (m k : Nat) (f : UInt8) (l : List UInt8) : List UInt8 := l.take m ++ (List.replicate (k - m) f ++ l.drop k)
theorem widK_start (m : Nat) (f : UInt8) (l : List UInt8) : widK m m f l = l := by unfold widK; simp
theorem widK_length (m k : Nat) (f : UInt8) (l : List UInt8) (hl : l.length = 8) (h1 : m ≤ k) (h2 : k ≤ 8) : (widK m k f l).length = 8 := by
  unfold widK
  simp only [List.length_append, List.length_take, List.length_replicate, List.length_drop, hl]
  omega
theorem widK_set (m k : Nat) (f : UInt8) (l : List UInt8) (hl : l.length = 8) (h1 : m ≤ k) (h2 : k < 8) : (arrC (widK m k f l)).setIfInBounds k (.int .u8 (f.toNat : Int)) = arrC (widK m (k + 1) f l) := by
  have hd : l.drop k = l[k] :: l.drop (k + 1) := List.drop_eq_getElem_cons (by omega)
  have e1 : widK m k f l = (l.take m ++ List.replicate (k - m) f) ++ l[k] :: l.drop (k + 1) := by unfold widK; rw [hd, List.append_assoc]
  have e2 : widK m (k + 1) f l = (l.take m ++ List.replicate (k - m) f) ++ f :: l.drop (k + 1) := by
    unfold widK
    rw [show k + 1 - m = (k - m) + 1 from by omega, List.replicate_succ', List.append_assoc, List.append_assoc]
    rfl
  have hlen : (l.take m ++ List.replicate (k - m) f).length = k := by
    simp only [List.length_append, List.length_take, List.length_replicate, hl]
    omega
  obtain ⟨H, hH⟩ : ∃ H, l.take m ++ List.replicate (k - m) f = H := ⟨_, rfl⟩
  rw [hH] at e1 e2 hlen
  unfold arrC
  rw [e1, e2, byteCells_append, byteCells_append]
  apply Array.toList_inj.1
  simp only [Array.toList_setIfInBounds]
  have hl2 : (byteCells H).length = k := by simp [byteCells, hlen]
  rw [List.set_append, if_neg (by omega), hl2, Nat.sub_self]
  rfl
/-- The byte that fills, and the whole. -/
def filB (m : Nat) (sg : Bool) (l : List UInt8) : UInt8 := if sg = true ∧ 128 ≤ (l.getD (m - 1) 0).toNat then 255 else 0
def widL (m : Nat) (sg : Bool) (l : List UInt8) : List UInt8 := widK m 8 (filB m sg l) l
theorem filB_no (m : Nat) (l : List UInt8) : filB m false l = 0 := by unfold filB; rw [if_neg (by simp)]

theorem run_shape0 (m : Int) (b : Bool) (w : World) : (Instr.field 74 (.agg #[.int .i64 m, .bool b]) 0).run Try.prog w = .ok (.int .i64 m) w := by kernel_rfl

set_option maxHeartbeats 2000000 in
theorem i_wide (m : Nat) (sg : Bool) (l : List UInt8) (w : World) (hl : l.length = 8) (hm : m ≤ 8) (hs : sg = true → 1 ≤ m) :
    Calls Try.prog 40 #[.agg #[.int .i64 (m : Int), .bool sg], .agg (arrC l)] w fun e w' => e = .returned (.agg (arrC (widL m sg l))) ∧ Below w.heap.size w w' := by
  have HL := Lib.hid hl
  clear hl
  obtain ⟨F, hF⟩ : ∃ F, arrC l = F := ⟨_, rfl⟩
  have HF := Lib.hid hF
  cases sg
  · have HFIL := Lib.hid (filB_no m l)
    rw [hF]
    clear hF hs
    go_enter Try.func40, Try.ntmps40
    go_wp2_with fail
    go_loopw [6] (fun x wr => ∃ k : Nat, m ≤ k ∧ k ≤ 8 ∧ x = .int .i64 (k : Int) ∧ wr = (((w.alloc (.cells #[.int .i64 (m : Int), .bool false] 74)).alloc (.cells (arrC (widK m k 0 l)) 71)).alloc (.cells (arrC (List.replicate 8 0)) 71)))
      (fun x _ => 8 - (intOf x).toNat)
    case atStart => exact ⟨m, Nat.le_refl _, hm, rfl, by rw [widK_start, HF.out]; rfl⟩
    case round =>
      obtain ⟨k, hmk, hk, rfl, rfl⟩ := hrel
      by_cases hlt : k < 8
      · have hs := Lib.hid (widK_set m k 0 l HL.out hmk hlt)
        have hcc := arrC_at (widK m k 0 l) k (by rw [widK_length m k _ l HL.out hmk hk]; omega)
        obtain ⟨y, hy⟩ : ∃ y, ((widK m k 0 l)[k]'(by rw [widK_length m k _ l HL.out hmk hk]; omega)).toNat = y := ⟨_, rfl⟩
        rw [hy] at hcc
        obtain ⟨Z, hZ⟩ : ∃ Z, arrC (List.replicate 8 0) = Z := ⟨_, rfl⟩
        rw [hZ]
        obtain ⟨G, hG⟩ : ∃ G, arrC (widK m k 0 l) = G := ⟨_, rfl⟩
        rw [hG] at hs hcc ⊢
        have HG := Lib.hid hG
        have HZ := Lib.hid hZ
        clear hG hZ hy
        have k0 : (0 : Int) ≤ (k : Int) := by omega
        have k1 : (k : Int) < 8 := by omega
        go_wp2_with fail
        go_roundw
        case rel => exact ⟨k + 1, by omega, by omega, by go_num, by rw [← hs.out]; rfl⟩
        case measure => simp [intOf]; omega
      · have hk8 : k = 8 := by omega
        obtain ⟨x0, x1, x2, x3, x4, x5, x6, x7, hx⟩ := arr8 (widK m k 0 l) (widK_length m k _ l HL.out hmk hk)
        have HX := Lib.hid hx
        have HW : Hid (arrC (widL m false l) = arrC (widK m k 0 l)) := Lib.hid (by rw [hk8]; unfold widL; rw [HFIL.out])
        rw [hx]
        rw [show arrC (List.replicate 8 0) = #[.int .u8 0, .int .u8 0, .int .u8 0, .int .u8 0, .int .u8 0, .int .u8 0, .int .u8 0, .int .u8 0] from rfl]
        clear hx hk8
        have k1 : ¬ (k : Int) < 8 := by omega
        go_wp2_with fail
        refine bodyPost_ret (v := .agg #[.int .u8 x0, .int .u8 x1, .int .u8 x2, .int .u8 x3, .int .u8 x4, .int .u8 x5, .int .u8 x6, .int .u8 x7]) (by simp [results, Try.results40, go_sem]) rfl ⟨by rw [HW.out, HX.out], ?_⟩
        exact (((Below.refl _ _).alloc (Nat.le_refl _) _).alloc (by simp) _).alloc (by simp; omega) _
  · obtain ⟨n, rfl⟩ : ∃ n, m = n + 1 := ⟨m - 1, by have := hs rfl; omega⟩
    have hcc := arrC_at l n (by rw [HL.out]; omega)
    have hnl : n < l.length := by rw [HL.out]; omega
    have hget : l.getD (n + 1 - 1) 0 = l[n] := by rw [Nat.add_sub_cancel, List.getD_eq_getElem?_getD, List.getElem?_eq_getElem hnl]; rfl
    obtain ⟨y, hy⟩ : ∃ y, l[n] = y := ⟨_, rfl⟩
    rw [hF, hy] at hcc
    rw [hF]
    have HN := Lib.hid hnl
    have HY := Lib.hid (hget.trans hy)
    clear hF hs hnl hget hy
    have hn0 : (0 : Int) ≤ (n : Int) := by omega
    have hn1 : (n : Int) < 8 := by omega
    have hn2 : ((n + 1 : Nat) : Int) - 1 = (n : Int) := by omega
    obtain ⟨m, hme⟩ : ∃ m, n + 1 = m := ⟨_, rfl⟩
    rw [hme] at hn2 hm HY ⊢
    have HME := Lib.hid hme
    clear hme
    by_cases h8 : 128 ≤ y.toNat
    · have HFIL : Hid (filB m true l = 255) := Lib.hid (by unfold filB; rw [HY.out, if_pos ⟨rfl, h8⟩])
      have h8' : (128 : Int) ≤ (y.toNat : Int) := by omega
      clear h8
      go_enter Try.func40, Try.ntmps40
      go_wp2_with fail
      go_loopw [6] (fun x wr => ∃ k : Nat, m ≤ k ∧ k ≤ 8 ∧ x = .int .i64 (k : Int) ∧ wr = (((w.alloc (.cells #[.int .i64 (m : Int), .bool true] 74)).alloc (.cells (arrC (widK m k 255 l)) 71)).alloc (.cells (arrC (List.replicate 8 0)) 71)))
        (fun x _ => 8 - (intOf x).toNat)
      case atStart => exact ⟨m, Nat.le_refl _, hm, rfl, by rw [widK_start, HF.out]; rfl⟩
      case round =>
        obtain ⟨k, hmk, hk, rfl, rfl⟩ := hrel
        by_cases hlt : k < 8
        · have hs := Lib.hid (widK_set m k 255 l HL.out hmk hlt)
          have hcc := arrC_at (widK m k 255 l) k (by rw [widK_length m k _ l HL.out hmk hk]; omega)
          obtain ⟨y, hy⟩ : ∃ y, ((widK m k 255 l)[k]'(by rw [widK_length m k _ l HL.out hmk hk]; omega)).toNat = y := ⟨_, rfl⟩
          rw [hy] at hcc
          obtain ⟨Z, hZ⟩ : ∃ Z, arrC (List.replicate 8 0) = Z := ⟨_, rfl⟩
          rw [hZ]
          obtain ⟨G, hG⟩ : ∃ G, arrC (widK m k 255 l) = G := ⟨_, rfl⟩
          rw [hG] at hs hcc ⊢
          have HG := Lib.hid hG
          have HZ := Lib.hid hZ
          clear hG hZ hy
          have k0 : (0 : Int) ≤ (k : Int) := by omega
          have k1 : (k : Int) < 8 := by omega
          go_wp2_with fail
          go_roundw
          case rel => exact ⟨k + 1, by omega, by omega, by go_num, by rw [← hs.out]; rfl⟩
          case measure => simp [intOf]; omega
        · have hk8 : k = 8 := by omega
          obtain ⟨x0, x1, x2, x3, x4, x5, x6, x7, hx⟩ := arr8 (widK m k 255 l) (widK_length m k _ l HL.out hmk hk)
          have HX := Lib.hid hx
          have HW : Hid (arrC (widL m true l) = arrC (widK m k 255 l)) := Lib.hid (by rw [hk8]; unfold widL; rw [HFIL.out])
          rw [hx]
          rw [show arrC (List.replicate 8 0) = #[.int .u8 0, .int .u8 0, .int .u8 0, .int .u8 0, .int .u8 0, .int .u8 0, .int .u8 0, .int .u8 0] from rfl]
          clear hx hk8
          have k1 : ¬ (k : Int) < 8 := by omega
          go_wp2_with fail
          refine bodyPost_ret (v := .agg #[.int .u8 x0, .int .u8 x1, .int .u8 x2, .int .u8 x3, .int .u8 x4, .int .u8 x5, .int .u8 x6, .int .u8 x7]) (by simp [results, Try.results40, go_sem]) rfl ⟨by rw [HW.out, HX.out], ?_⟩
          exact (((Below.refl _ _).alloc (Nat.le_refl _) _).alloc (by simp) _).alloc (by simp; omega) _
    · have HFIL : Hid (filB m true l = 0) := Lib.hid (by unfold filB; rw [HY.out, if_neg (fun h => h8 h.2)])
      have h8' : ¬ (128 : Int) ≤ (y.toNat : Int) := by omega
      clear h8
      go_enter Try.func40, Try.ntmps40
      go_wp2_with fail
      go_loopw [6] (fun x wr => ∃ k : Nat, m ≤ k ∧ k ≤ 8 ∧ x = .int .i64 (k : Int) ∧ wr = (((w.alloc (.cells #[.int .i64 (m : Int), .bool true] 74)).alloc (.cells (arrC (widK m k 0 l)) 71)).alloc (.cells (arrC (List.replicate 8 0)) 71)))
        (fun x _ => 8 - (intOf x).toNat)
      case atStart => exact ⟨m, Nat.le_refl _, hm, rfl, by rw [widK_start, HF.out]; rfl⟩
      case round =>
        obtain ⟨k, hmk, hk, rfl, rfl⟩ := hrel
        by_cases hlt : k < 8
        · have hs := Lib.hid (widK_set m k 0 l HL.out hmk hlt)
          have hcc := arrC_at (widK m k 0 l) k (by rw [widK_length m k _ l HL.out hmk hk]; omega)
          obtain ⟨y, hy⟩ : ∃ y, ((widK m k 0 l)[k]'(by rw [widK_length m k _ l HL.out hmk hk]; omega)).toNat = y := ⟨_, rfl⟩
          rw [hy] at hcc
          obtain ⟨Z, hZ⟩ : ∃ Z, arrC (List.replicate 8 0) = Z := ⟨_, rfl⟩
          rw [hZ]
          obtain ⟨G, hG⟩ : ∃ G, arrC (widK m k 0 l) = G := ⟨_, rfl⟩
          rw [hG] at hs hcc ⊢
          have HG := Lib.hid hG
          have HZ := Lib.hid hZ
          clear hG hZ hy
          have k0 : (0 : Int) ≤ (k : Int) := by omega
          have k1 : (k : Int) < 8 := by omega
          go_wp2_with fail
          go_roundw
          case rel => exact ⟨k + 1, by omega, by omega, by go_num, by rw [← hs.out]; rfl⟩
          case measure => simp [intOf]; omega
        · have hk8 : k = 8 := by omega
          obtain ⟨x0, x1, x2, x3, x4, x5, x6, x7, hx⟩ := arr8 (widK m k 0 l) (widK_length m k _ l HL.out hmk hk)
          have HX := Lib.hid hx
          have HW : Hid (arrC (widL m true l) = arrC (widK m k 0 l)) := Lib.hid (by rw [hk8]; unfold widL; rw [HFIL.out])
          rw [hx]
          rw [show arrC (List.replicate 8 0) = #[.int .u8 0, .int .u8 0, .int .u8 0, .int .u8 0, .int .u8 0, .int .u8 0, .int .u8 0, .int .u8 0] from rfl]
          clear hx hk8
          have k1 : ¬ (k : Int) < 8 := by omega
          go_wp2_with fail
          refine bodyPost_ret (v := .agg #[.int .u8 x0, .int .u8 x1, .int .u8 x2, .int .u8 x3, .int .u8 x4, .int .u8 x5, .int .u8 x6, .int .u8 x7]) (by simp [results, Try.results40, go_sem]) rfl ⟨by rw [HW.out, HX.out], ?_⟩
          exact (((Below.refl _ _).alloc (Nat.le_refl _) _).alloc (by simp) _).alloc (by simp; omega) _
end Go.Proofs.Ytcflojdkaddemaa
