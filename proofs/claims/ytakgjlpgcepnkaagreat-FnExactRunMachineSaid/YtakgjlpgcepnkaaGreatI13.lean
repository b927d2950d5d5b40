/- The program's widened: the bytes of the number of which only the first are stored; Which arguments can be stored, by their bytes; what is read from stored bytes; equality of arrays; The program's DecodeOp; DecodeOp, the program's, at any index. -/
import Derived.Test.YtakgjlpgcepnkaaGreatI12
import Derived.Test.YtakgjlpgcepnkaaGreatI07
import Derived.Test.YtakgjlpgcepnkaaGreatI11
import Derived.Test.YtakgjlpgcepnkaaGreatI08
import Derived.ChangeKeysEq
import Derived.Lib.LazyBuf
import Derived.Deep.RegionHeld3
import Derived.Deep.QuietTactic
import Derived.BigQuiet
import Derived.Deep.Cut
import Derived.Deep.RegionLaw
import Derived.Laws.DeepStrings4
/-! The program's widened: the bytes of the number of which only the first are stored -/
namespace Go.Proofs.YtakgjlpgcepnkaaGreat
open Go.RowKit Go.Lib

def widK (m k : Nat) (f : UInt8) (l : List UInt8) : List UInt8 := l.take m ++ (List.replicate (k - m) f ++ l.drop k)
theorem widK_start (m : Nat) (f : UInt8) (l : List UInt8) : widK m m f l = l := by unfold widK; simp
theorem widK_length (m k : Nat) (f : UInt8) (l : List UInt8) (hl : l.length = 8) (h1 : m ≤ k) (h2 : k ≤ 8) : (widK m k f l).length = 8 := by
  unfold widK
  simp only [List.length_append, List.length_take, List.length_replicate, List.length_drop, hl]
  omega
theorem widK_set (m k : Nat) (f : UInt8) (l : List UInt8) (hl : l.length = 8) (h1 : m ≤ k) (h2 : k < 8) : (arrC (widK m k f l)).setIfInBounds k (.int .u8 (f.toNat : Int)) = arrC (widK m (k + 1) f l) := by
  have hd : l.drop k = l[k] :: l.drop (k + 1) := List.drop_eq_getElem_cons (by omega)
  have e1 : widK m k f l = (l.take m ++ List.replicate (k - m) f) ++ l[k] :: l.drop (k + 1) := by unfold widK; rw [hd, List.append_assoc]
  have e2 : widK m (k + 1) f l = (l.take m ++ List.replicate (k - m) f) ++ f :: l.drop (k + 1) := by
    unfold widK
    rw [show k + 1 - m = (k - m) + 1 from by omega, List.replicate_succ', List.append_assoc, List.append_assoc]
    rfl
  have hlen : (l.take m ++ List.replicate (k - m) f).length = k := by
    simp only [List.length_append, List.length_take, List.length_replicate, hl]
    omega
  obtain ⟨H, hH⟩ : ∃ H, l.take m ++ List.replicate (k - m) f = H := ⟨_, rfl⟩
  rw [hH] at e1 e2 hlen
  unfold arrC
  rw [e1, e2, byteCells_append, byteCells_append]
  apply Array.toList_inj.1
  simp only [Array.toList_setIfInBounds]
  have hl2 : (byteCells H).length = k := by simp [byteCells, hlen]
  rw [List.set_append, if_neg (by omega), hl2, Nat.sub_self]
  rfl
/-- The byte that fills, and the whole. -/
def filB (m : Nat) (sg : Bool) (l : List UInt8) : UInt8 := if sg = true ∧ 128 ≤ (l.getD (m - 1) 0).toNat then 255 else 0
def widL (m : Nat) (sg : Bool) (l : List UInt8) : List UInt8 := widK m 8 (filB m sg l) l
theorem filB_no (m : Nat) (l : List UInt8) : filB m false l = 0 := by unfold filB; rw [if_neg (by simp)]

set_option maxHeartbeats 2000000 in
theorem i_wide (m : Nat) (sg : Bool) (l : List UInt8) (w : World) (hl : l.length = 8) (hm : m ≤ 8) (hs : sg = true → 1 ≤ m) :
    Calls Tryz.prog 101 #[.agg #[.int .i64 (m : Int), .bool sg], .agg (arrC l)] w fun e w' => e = .returned (.agg (arrC (widL m sg l))) ∧ Below w.heap.size w w' := by
  have HL := Lib.hid hl
  clear hl
  obtain ⟨F, hF⟩ : ∃ F, arrC l = F := ⟨_, rfl⟩
  have HF := Lib.hid hF
  cases sg
  · have HFIL := Lib.hid (filB_no m l)
    rw [hF]
    clear hF hs
    go_enter Tryz.func101, Tryz.ntmps101
    go_wp2_with fail
    go_loopw [6] (fun x wr => ∃ k : Nat, m ≤ k ∧ k ≤ 8 ∧ x = .int .i64 (k : Int) ∧ wr = (((w.alloc (.cells #[.int .i64 (m : Int), .bool false] 129)).alloc (.cells (arrC (widK m k 0 l)) 127)).alloc (.cells (arrC (List.replicate 8 0)) 127)))
      (fun x _ => 8 - (intOf x).toNat)
    case atStart => exact ⟨m, Nat.le_refl _, hm, rfl, by rw [widK_start, HF.out]; rfl⟩
    case round =>
      obtain ⟨k, hmk, hk, rfl, rfl⟩ := hrel
      by_cases hlt : k < 8
      · have hs := Lib.hid (widK_set m k 0 l HL.out hmk hlt)
        have hcc := arrC_at (widK m k 0 l) k (by rw [widK_length m k _ l HL.out hmk hk]; omega)
        obtain ⟨y, hy⟩ : ∃ y, ((widK m k 0 l)[k]'(by rw [widK_length m k _ l HL.out hmk hk]; omega)).toNat = y := ⟨_, rfl⟩
        rw [hy] at hcc
        obtain ⟨Z, hZ⟩ : ∃ Z, arrC (List.replicate 8 0) = Z := ⟨_, rfl⟩
        rw [hZ]
        obtain ⟨G, hG⟩ : ∃ G, arrC (widK m k 0 l) = G := ⟨_, rfl⟩
        rw [hG] at hs hcc ⊢
        have HG := Lib.hid hG
        have HZ := Lib.hid hZ
        clear hG hZ hy
        have k0 : (0 : Int) ≤ (k : Int) := by omega
        have k1 : (k : Int) < 8 := by omega
        go_wp2_with fail
        go_roundw
        case rel => exact ⟨k + 1, by omega, by omega, by go_num, by rw [← hs.out]; rfl⟩
        case measure => simp [intOf]; omega
      · have hk8 : k = 8 := by omega
        obtain ⟨x0, x1, x2, x3, x4, x5, x6, x7, hx⟩ := arr8 (widK m k 0 l) (widK_length m k _ l HL.out hmk hk)
        have HX := Lib.hid hx
        have HW : Hid (arrC (widL m false l) = arrC (widK m k 0 l)) := Lib.hid (by rw [hk8]; unfold widL; rw [HFIL.out])
        rw [hx]
        rw [show arrC (List.replicate 8 0) = #[.int .u8 0, .int .u8 0, .int .u8 0, .int .u8 0, .int .u8 0, .int .u8 0, .int .u8 0, .int .u8 0] from rfl]
        clear hx hk8
        have k1 : ¬ (k : Int) < 8 := by omega
        go_wp2_with fail
        refine bodyPost_ret (v := .agg #[.int .u8 x0, .int .u8 x1, .int .u8 x2, .int .u8 x3, .int .u8 x4, .int .u8 x5, .int .u8 x6, .int .u8 x7]) (by simp [results, Tryz.results101, go_sem]) rfl ⟨by rw [HW.out, HX.out], ?_⟩
        exact (((Below.refl _ _).alloc (Nat.le_refl _) _).alloc (by simp) _).alloc (by simp; omega) _
  · obtain ⟨n, rfl⟩ : ∃ n, m = n + 1 := ⟨m - 1, by have := hs rfl; omega⟩
    have hcc := arrC_at l n (by rw [HL.out]; omega)
    have hnl : n < l.length := by rw [HL.out]; omega
    have hget : l.getD (n + 1 - 1) 0 = l[n] := by rw [Nat.add_sub_cancel, List.getD_eq_getElem?_getD, List.getElem?_eq_getElem hnl]; rfl
    obtain ⟨y, hy⟩ : ∃ y, l[n] = y := ⟨_, rfl⟩
    rw [hF, hy] at hcc
    rw [hF]
    have HN := Lib.hid hnl
    have HY := Lib.hid (hget.trans hy)
    clear hF hs hnl hget hy
    have hn0 : (0 : Int) ≤ (n : Int) := by omega
    have hn1 : (n : Int) < 8 := by omega
    have hn2 : ((n + 1 : Nat) : Int) - 1 = (n : Int) := by omega
    obtain ⟨m, hme⟩ : ∃ m, n + 1 = m := ⟨_, rfl⟩
    rw [hme] at hn2 hm HY ⊢
    have HME := Lib.hid hme
    clear hme
    by_cases h8 : 128 ≤ y.toNat
    · have HFIL : Hid (filB m true l = 255) := Lib.hid (by unfold filB; rw [HY.out, if_pos ⟨rfl, h8⟩])
      have h8' : (128 : Int) ≤ (y.toNat : Int) := by omega
      clear h8
      go_enter Tryz.func101, Tryz.ntmps101
      go_wp2_with fail
      go_loopw [6] (fun x wr => ∃ k : Nat, m ≤ k ∧ k ≤ 8 ∧ x = .int .i64 (k : Int) ∧ wr = (((w.alloc (.cells #[.int .i64 (m : Int), .bool true] 129)).alloc (.cells (arrC (widK m k 255 l)) 127)).alloc (.cells (arrC (List.replicate 8 0)) 127)))
        (fun x _ => 8 - (intOf x).toNat)
      case atStart => exact ⟨m, Nat.le_refl _, hm, rfl, by rw [widK_start, HF.out]; rfl⟩
      case round =>
        obtain ⟨k, hmk, hk, rfl, rfl⟩ := hrel
        by_cases hlt : k < 8
        · have hs := Lib.hid (widK_set m k 255 l HL.out hmk hlt)
          have hcc := arrC_at (widK m k 255 l) k (by rw [widK_length m k _ l HL.out hmk hk]; omega)
          obtain ⟨y, hy⟩ : ∃ y, ((widK m k 255 l)[k]'(by rw [widK_length m k _ l HL.out hmk hk]; omega)).toNat = y := ⟨_, rfl⟩
          rw [hy] at hcc
          obtain ⟨Z, hZ⟩ : ∃ Z, arrC (List.replicate 8 0) = Z := ⟨_, rfl⟩
          rw [hZ]
          obtain ⟨G, hG⟩ : ∃ G, arrC (widK m k 255 l) = G := ⟨_, rfl⟩
          rw [hG] at hs hcc ⊢
          have HG := Lib.hid hG
          have HZ := Lib.hid hZ
          clear hG hZ hy
          have k0 : (0 : Int) ≤ (k : Int) := by omega
          have k1 : (k : Int) < 8 := by omega
          go_wp2_with fail
          go_roundw
          case rel => exact ⟨k + 1, by omega, by omega, by go_num, by rw [← hs.out]; rfl⟩
          case measure => simp [intOf]; omega
        · have hk8 : k = 8 := by omega
          obtain ⟨x0, x1, x2, x3, x4, x5, x6, x7, hx⟩ := arr8 (widK m k 255 l) (widK_length m k _ l HL.out hmk hk)
          have HX := Lib.hid hx
          have HW : Hid (arrC (widL m true l) = arrC (widK m k 255 l)) := Lib.hid (by rw [hk8]; unfold widL; rw [HFIL.out])
          rw [hx]
          rw [show arrC (List.replicate 8 0) = #[.int .u8 0, .int .u8 0, .int .u8 0, .int .u8 0, .int .u8 0, .int .u8 0, .int .u8 0, .int .u8 0] from rfl]
          clear hx hk8
          have k1 : ¬ (k : Int) < 8 := by omega
          go_wp2_with fail
          refine bodyPost_ret (v := .agg #[.int .u8 x0, .int .u8 x1, .int .u8 x2, .int .u8 x3, .int .u8 x4, .int .u8 x5, .int .u8 x6, .int .u8 x7]) (by simp [results, Tryz.results101, go_sem]) rfl ⟨by rw [HW.out, HX.out], ?_⟩
          exact (((Below.refl _ _).alloc (Nat.le_refl _) _).alloc (by simp) _).alloc (by simp; omega) _
    · have HFIL : Hid (filB m true l = 0) := Lib.hid (by unfold filB; rw [HY.out, if_neg (fun h => h8 h.2)])
      have h8' : ¬ (128 : Int) ≤ (y.toNat : Int) := by omega
      clear h8
      go_enter Tryz.func101, Tryz.ntmps101
      go_wp2_with fail
      go_loopw [6] (fun x wr => ∃ k : Nat, m ≤ k ∧ k ≤ 8 ∧ x = .int .i64 (k : Int) ∧ wr = (((w.alloc (.cells #[.int .i64 (m : Int), .bool true] 129)).alloc (.cells (arrC (widK m k 0 l)) 127)).alloc (.cells (arrC (List.replicate 8 0)) 127)))
        (fun x _ => 8 - (intOf x).toNat)
      case atStart => exact ⟨m, Nat.le_refl _, hm, rfl, by rw [widK_start, HF.out]; rfl⟩
      case round =>
        obtain ⟨k, hmk, hk, rfl, rfl⟩ := hrel
        by_cases hlt : k < 8
        · have hs := Lib.hid (widK_set m k 0 l HL.out hmk hlt)
          have hcc := arrC_at (widK m k 0 l) k (by rw [widK_length m k _ l HL.out hmk hk]; omega)
          obtain ⟨y, hy⟩ : ∃ y, ((widK m k 0 l)[k]'(by rw [widK_length m k _ l HL.out hmk hk]; omega)).toNat = y := ⟨_, rfl⟩
          rw [hy] at hcc
          obtain ⟨Z, hZ⟩ : ∃ Z, arrC (List.replicate 8 0) = Z := ⟨_, rfl⟩
          rw [hZ]
          obtain ⟨G, hG⟩ : ∃ G, arrC (widK m k 0 l) = G := ⟨_, rfl⟩
          rw [hG] at hs hcc ⊢
          have HG := Lib.hid hG
          have HZ := Lib.hid hZ
          clear hG hZ hy
          have k0 : (0 : Int) ≤ (k : Int) := by omega
          have k1 : (k : Int) < 8 := by omega
          go_wp2_with fail
          go_roundw
          case rel => exact ⟨k + 1, by omega, by omega, by go_num, by rw [← hs.out]; rfl⟩
          case measure => simp [intOf]; omega
        · have hk8 : k = 8 := by omega
          obtain ⟨x0, x1, x2, x3, x4, x5, x6, x7, hx⟩ := arr8 (widK m k 0 l) (widK_length m k _ l HL.out hmk hk)
          have HX := Lib.hid hx
          have HW : Hid (arrC (widL m true l) = arrC (widK m k 0 l)) := Lib.hid (by rw [hk8]; unfold widL; rw [HFIL.out])
          rw [hx]
          rw [show arrC (List.replicate 8 0) = #[.int .u8 0, .int .u8 0, .int .u8 0, .int .u8 0, .int .u8 0, .int .u8 0, .int .u8 0, .int .u8 0] from rfl]
          clear hx hk8
          have k1 : ¬ (k : Int) < 8 := by omega
          go_wp2_with fail
          refine bodyPost_ret (v := .agg #[.int .u8 x0, .int .u8 x1, .int .u8 x2, .int .u8 x3, .int .u8 x4, .int .u8 x5, .int .u8 x6, .int .u8 x7]) (by simp [results, Tryz.results101, go_sem]) rfl ⟨by rw [HW.out, HX.out], ?_⟩
          exact (((Below.refl _ _).alloc (Nat.le_refl _) _).alloc (by simp) _).alloc (by simp; omega) _
end Go.Proofs.YtakgjlpgcepnkaaGreat

/-! Which arguments can be stored, by their bytes; what is read from stored bytes; equality of arrays -/
namespace Go.Proofs.YtakgjlpgcepnkaaGreat
open Go.RowKit Go.Lib

theorem valB_append (A B : List UInt8) : valB (A ++ B) = valB A + 256 ^ A.length * valB B := by
  induction A with
  | nil => simp [valB]
  | cons a r ih =>
    rw [List.cons_append, valB, valB, ih, List.length_cons, Nat.pow_succ, Nat.mul_add]
    have : 256 * (256 ^ r.length * valB B) = 256 ^ r.length * 256 * valB B := by rw [Nat.mul_comm (256 ^ r.length) 256, Nat.mul_assoc]
    omega
theorem valB_zeros (n : Nat) : valB (List.replicate n 0) = 0 := by
  induction n with
  | zero => rfl
  | succ n ih => rw [List.replicate_succ, valB, ih]; rfl
theorem widL_eq (m : Nat) (sg : Bool) (l : List UInt8) (hl : l.length = 8) : widL m sg l = l.take m ++ List.replicate (8 - m) (filB m sg l) := by
  unfold widL widK
  rw [List.drop_of_length_le (by omega), List.append_nil]
theorem widL_length (m : Nat) (sg : Bool) (l : List UInt8) (hl : l.length = 8) (hm : m ≤ 8) : (widL m sg l).length = 8 := widK_length m 8 _ l hl hm (Nat.le_refl _)
theorem val_ff6 : valB (List.replicate 6 255) = 281474976710655 := by decide
theorem val_ff4 : valB (List.replicate 4 255) = 4294967295 := by decide
/-- What is read from stored bytes with zeros behind them. -/
theorem read_bytes (c : Int) (B : List UInt8) (hB : B.length = widN c) : wrap64 (valB (widL (widN c) (sgnB c) (B ++ List.replicate (8 - widN c) 0)) : Int) = sgnV c (valB B) := by
  have hm : widN c ≤ 8 := Nat.le_trans (widN_le c) (by decide)
  obtain ⟨L, hL⟩ : ∃ L, B ++ List.replicate (8 - widN c) 0 = L := ⟨_, rfl⟩
  have hl : L.length = 8 := by rw [← hL, List.length_append, List.length_replicate, hB]; omega
  have ht : L.take (widN c) = B := by rw [← hL, List.take_left' hB]
  rw [hL, widL_eq _ _ L hl, ht, valB_append, hB]
  have hlt := valB_lt B
  rw [hB] at hlt
  unfold sgnV
  rcases fit_cases c with ⟨h1, h2, _, _⟩ | ⟨h1, h2, _, _⟩ | ⟨h1, h2, _, _⟩ | ⟨h1, h2, _, _⟩ | ⟨h1, h2, _, _⟩
  · rw [h1] at hlt; rw [h1, h2, filB_no, valB_zeros, if_neg (by simp)]; unfold wrap64; omega
  · rw [h1] at hlt; rw [h1, h2, filB_no, valB_zeros, if_neg (by simp)]; unfold wrap64; omega
  · rw [h1] at hlt; rw [h1, h2, filB_no, valB_zeros, if_neg (by simp)]; unfold wrap64; omega
  · rw [h1] at hlt hB ht
    rw [h1, h2]
    match B, hB with
    | [x0, x1], _ =>
      have hg : L.getD 1 0 = x1 := by rw [← hL]; rfl
      have hv : valB [x0, x1] = x0.toNat + 256 * x1.toNat := by simp [valB]
      have hx0 := x0.toNat_lt
      have hx1 := x1.toNat_lt
      have p2 : (256 : Nat) ^ 2 = 65536 := by decide
      rw [hv, p2]
      by_cases hb : 128 ≤ x1.toNat
      · rw [show filB 2 true L = 255 from by unfold filB; rw [show 2 - 1 = 1 from rfl, hg]; exact if_pos ⟨rfl, hb⟩, show 8 - 2 = 6 from rfl, val_ff6, if_pos ⟨rfl, by omega⟩]; unfold wrap64; omega
      · rw [show filB 2 true L = 0 from by unfold filB; rw [show 2 - 1 = 1 from rfl, hg]; exact if_neg (fun h => hb h.2), valB_zeros, if_neg (fun h => by have := h.2; omega)]; unfold wrap64; omega
  · rw [h1] at hlt hB ht
    rw [h1, h2]
    match B, hB with
    | [x0, x1, x2, x3], _ =>
      have hg : L.getD 3 0 = x3 := by rw [← hL]; rfl
      have hv : valB [x0, x1, x2, x3] = x0.toNat + 256 * (x1.toNat + 256 * (x2.toNat + 256 * x3.toNat)) := by simp [valB]
      have hx0 := x0.toNat_lt
      have hx1 := x1.toNat_lt
      have hx2 := x2.toNat_lt
      have hx3 := x3.toNat_lt
      have p4 : (256 : Nat) ^ 4 = 4294967296 := by decide
      rw [hv, p4]
      by_cases hb : 128 ≤ x3.toNat
      · rw [show filB 4 true L = 255 from by unfold filB; rw [show 4 - 1 = 3 from rfl, hg]; exact if_pos ⟨rfl, hb⟩, show 8 - 4 = 4 from rfl, val_ff4, if_pos ⟨rfl, by omega⟩]; unfold wrap64; omega
      · rw [show filB 4 true L = 0 from by unfold filB; rw [show 4 - 1 = 3 from rfl, hg]; exact if_neg (fun h => hb h.2), valB_zeros, if_neg (fun h => by have := h.2; omega)]; unfold wrap64; omega

theorem infoU : (Tryz.prog.info? 5).map (fun i => (i.zero, i.size, i.bytes)) = some (some (.int .u8 0), 1, 1) := by kernel_rfl
end Go.Proofs.YtakgjlpgcepnkaaGreat

/-! The program's DecodeOp -/
namespace Go.Proofs.YtakgjlpgcepnkaaGreat
open Go.RowKit Go.Lib

theorem wid_one' (c : Int) (h : sgnB c = true) : 1 ≤ widN c := by rcases sgn_wid c h with h | h <;> omega

/-- A row behind a copy into it. -/
theorem heap_setCells {b : Nat} {T : TypeId} : ∀ (vs : List Value) (o : Nat) (w : World) (cs : Array Value), w.heap[b]? = some (.cells cs T (0, 0)) → o + vs.length ≤ cs.size →
    (w.setCells b o vs).heap[b]? = some (.cells (cs.toList.take o ++ vs ++ cs.toList.drop (o + vs.length)).toArray T (0, 0))
  | [], o, w, cs, h, _ => by
    simp only [List.append_nil, List.length_nil, Nat.add_zero, List.take_append_drop, Array.toArray_toList]
    exact h
  | v :: r, o, w, cs, h, hl => by
    have hl' : o + (r.length + 1) ≤ cs.size := by simpa using hl
    have ih := heap_setCells r (o + 1) (w.setCell ⟨b, o, none⟩ v) (cs.setIfInBounds o v) (heap_setCell_at h v) (by rw [Array.size_setIfInBounds]; omega)
    have e := list_seg_step cs.toList o v r (by rw [Array.length_toList]; omega)
    show ((w.setCell ⟨b, o, none⟩ v).setCells b (o + 1) r).heap[b]? = _
    rw [ih, Array.toList_setIfInBounds, e]
    rfl
theorem copy_arr (B : List UInt8) (hB : B.length ≤ 8) : ((arrC (List.replicate 8 0)).toList.take 0 ++ byteCells B ++ (arrC (List.replicate 8 0)).toList.drop (0 + (byteCells B).length)).toArray = arrC (B ++ List.replicate (8 - B.length) 0) := by
  unfold arrC
  rw [List.take_zero, List.nil_append, byteCells_append, byteCells_length, Nat.zero_add]
  have : (byteCells (List.replicate 8 0)).drop B.length = byteCells (List.replicate (8 - B.length) 0) := by
    unfold byteCells
    rw [← List.map_drop, List.drop_replicate]
  rw [this]

theorem i_dec_none (s : ByteArray) (a : Int) (w : World) (hm : s.size ≤ 4294967296) (h : decZ s.data.toList a = none) :
    Calls Tryz.prog 74 #[.string s, .int .i64 a] w fun e w' => e = .returned (decV (decZ s.data.toList a)) ∧ Below w.heap.size w w' := by
  have HN := Lib.hid h
  have SI := Lib.hid (fun W => i_stp s a W hm)
  rw [h] at SI
  change Hid (∀ W, Calls Tryz.prog 96 #[.string s, .int .i64 a] W fun e w' => e = .returned (.int .i64 0) ∧ Below W.heap.size W w') at SI
  clear h hm
  go_enter Tryz.func74, Tryz.ntmps74
  go_wp2_with fail
  refine (SI.out _).mono ?_
  rintro e w1 ⟨rfl, b1⟩
  have HK : Hid (w1.heap[w.heap.size]? = some (.cells #[.int .i64 0, .int .i64 0] 75 (0, 0))) := Lib.hid ((b1.block _ (by simp)).trans (heap_alloc_new w _))
  have HB1 : Hid (Below w.heap.size w w1) := Lib.hid (((Below.refl w.heap.size w).alloc (Nat.le_refl _) _).trans (b1.mono (by simp)))
  have q0 : w1.cell? ⟨w.heap.size, 0, none⟩ = some (.int .i64 0) := (blk HK.out).1 0 _ rfl
  have q1 : w1.cell? ⟨w.heap.size, 1, none⟩ = some (.int .i64 0) := (blk HK.out).1 1 _ rfl
  have p0 : w1.frozen? ⟨w.heap.size, 0, none⟩ = false := (blk HK.out).2.1 0
  have p1 : w1.frozen? ⟨w.heap.size, 1, none⟩ = false := (blk HK.out).2.1 1
  clear b1
  go_wp2_with fail
  refine bodyPost_ret (v := .tuple #[.agg #[.int .i64 0, .int .i64 0], .int .i64 0, .bool false]) (by simp [results, Tryz.results74, go_sem, q0, q1]) rfl ⟨by rw [HN.out]; rfl, ?_⟩
  exact (HB1.out.setCell (Nat.le_refl _) _).setCell (Nat.le_refl _) _

set_option maxRecDepth 100000 in
set_option maxHeartbeats 1000000 in
theorem i_dec_some (s : ByteArray) (i : Nat) (w : World) (hm : s.size ≤ 4294967296) (h : i < s.size) (hne : decZ s.data.toList (i : Int) ≠ none) :
    Calls Tryz.prog 74 #[.string s, .int .i64 (i : Int)] w fun e w' => e = .returned (decV (decZ s.data.toList (i : Int))) ∧ Below w.heap.size w w' := by
  have hl : i < s.data.toList.length := by rw [list_len]; exact h
  have HR := Lib.hid (decZ_in s.data.toList i hl)
  have hg : s.data.toList[i] = s[i]'h := rfl
  rw [hg] at HR
  have SI := Lib.hid (fun W => i_stp s (i : Int) W hm)
  have SH := Lib.hid (fun W => i_shape ((s[i]'h).toNat : Int) W)
  have hb := (s[i]'h).toNat_lt
  have hwc : wrap64 ((s[i]'h).toNat : Int) = ((s[i]'h).toNat : Int) := by unfold wrap64; omega
  obtain ⟨c, hc⟩ : ∃ c : Int, ((s[i]'h).toNat : Int) = c := ⟨_, rfl⟩
  rw [hc] at HR SH
  have hc0 : 0 ≤ c := by omega
  have hc1 : c < 256 := by omega
  have HC := Lib.hid hc
  have hw4 := widN_le c
  have hi1 : (i : Int) < (s.size : Int) := by omega
  have hi0 : (0 : Int) ≤ (i : Int) := by omega
  have hmi : (s.size : Int) ≤ 4294967296 := by omega
  clear hc hb hg hl
  have hq : c ≤ 17 ∧ widN c ≤ (s.data.toList.drop (i + 1)).length := Classical.byContradiction fun hq => hne (by rw [HR.out, if_neg hq])
  have h17' : c ≤ 17 := hq.1
  obtain ⟨m, hme⟩ : ∃ m : Nat, widN c = m := ⟨_, rfl⟩
  obtain ⟨sg, hsg⟩ : ∃ sg, sgnB c = sg := ⟨_, rfl⟩
  obtain ⟨n, hn⟩ : ∃ n : Nat, 1 + m = n := ⟨_, rfl⟩
  have HSN : Hid (stepN (decZ s.data.toList (i : Int)) = n) := Lib.hid (by rw [HR.out, if_pos hq]; show 1 + widN c = n; rw [hme]; exact hn)
  rw [HSN.out] at SI
  have HL : Hid ((s.data.toList.drop (i + 1)).length = s.size - (i + 1)) := Lib.hid (by rw [List.length_drop, list_len])
  have hq2 := hq.2
  rw [HL.out, hme] at hq2
  have HW1 := Lib.hid (fun h => wid_one' c h)
  have HM := Lib.hid hme
  have HSG := Lib.hid hsg
  rw [hme] at HR SH hw4 HW1
  rw [hsg] at SH HW1
  have HNM := Lib.hid hn
  have hn1 : 1 ≤ n := by omega
  have hn5 : n ≤ 5 := by omega
  have hz : ((n : Int) == 0) = false := beq_eq_false_iff_ne.2 (by omega)
  have hfar : ¬ (s.size : Int) - (i : Int) < (n : Int) := by omega
  clear hme hsg hn hne hq hq2 HSN
  have hnear : (i : Int) + (n : Int) ≤ (s.size : Int) := by omega
  have hnear' : ¬ (s.size : Int) - (i : Int) < (n : Int) := hfar
  obtain ⟨B, hB⟩ : ∃ B, (s.data.toList.drop (i + 1)).take m = B := ⟨_, rfl⟩
  have HN : Hid (decZ s.data.toList (i : Int) = some (⟨c, sgnV c (valB B)⟩, 1 + m)) := Lib.hid (by rw [HR.out, if_pos ⟨h17', by have := HL.out; have := HNM.out; omega⟩, hB])
  have HBL : Hid (B.length = m) := Lib.hid (by rw [← hB, List.length_take, HL.out]; have := HNM.out; omega)
  obtain ⟨X, hX⟩ : ∃ X, s.extract (i + 1) (i + n) = X := ⟨_, rfl⟩
  have HXB : Hid (X.data.toList = B) := Lib.hid (by rw [← hX, ext_toList, ← hB]; have := HNM.out; rw [show i + n - (i + 1) = m from by omega])
  have HXS : Hid (X.size = m) := Lib.hid (by rw [← list_len, HXB.out, HBL.out])
  have HXX := Lib.hid hX
  have HLEN : Hid ((B ++ List.replicate (8 - m) 0).length = 8) := Lib.hid (by rw [List.length_append, List.length_replicate, HBL.out]; omega)
  have WI := Lib.hid (fun W => i_wide m sg (B ++ List.replicate (8 - m) 0) W HLEN.out (by omega) HW1.out)
  have NU := Lib.hid (fun W => i_number (widL m sg (B ++ List.replicate (8 - m) 0)) W (widL_length _ _ _ HLEN.out (by omega)))
  have HVAL : Hid (wrap64 (valB (widL m sg (B ++ List.replicate (8 - m) 0)) : Int) = sgnV c (valB B)) := Lib.hid (by
    have h := read_bytes c B (by rw [HM.out, HBL.out])
    rw [HM.out, HSG.out] at h
    exact h)
  rw [HVAL.out] at NU
  obtain ⟨V, hV⟩ : ∃ V, sgnV c (valB B) = V := ⟨_, rfl⟩
  rw [hV] at NU HN
  obtain ⟨x0, x1, x2, x3, x4, x5, x6, x7, hx⟩ := arr8 (B ++ List.replicate (8 - m) 0) HLEN.out
  have HX8 := Lib.hid hx
  rw [hx] at WI
  obtain ⟨i5, hi5, hz5, hz6, hz7⟩ := info_parts infoU
  have HSO : Hid (∀ w : World, (Go.sizeOf 5).run Tryz.prog w = .ok 1 w) := Lib.hid (fun w => by simp [Go.sizeOf, typeInfo, hi5, hz6])
  clear hfar hV hx hB hX hi5 hz5 hz6 hz7 h17' HR HSG HM HVAL
  go_enter Tryz.func74, Tryz.ntmps74
  go_wp2_with fail
  refine (SI.out _).mono ?_
  rintro e w1 ⟨rfl, b1⟩
  have HK : Hid (w1.heap[w.heap.size]? = some (.cells #[.int .i64 0, .int .i64 0] 75 (0, 0))) := Lib.hid ((b1.block _ (by simp)).trans (heap_alloc_new w _))
  have HB1 : Hid (Below w.heap.size w w1) := Lib.hid (((Below.refl w.heap.size w).alloc (Nat.le_refl _) _).trans (b1.mono (by simp)))
  have z1 : w.heap.size < w1.heap.size := by have := b1.size; simp at this; omega
  clear b1
  go_wp2_with fail
  have hs0 : (0 : Int) ≤ (i : Int) + 1 := by omega
  have hs1 : (i : Int) + 1 ≤ (i : Int) + (n : Int) := by omega
  obtain ⟨W1, hW1⟩ : ∃ W, w1.alloc (.cells #[.int .u8 0, .int .u8 0, .int .u8 0, .int .u8 0, .int .u8 0, .int .u8 0, .int .u8 0, .int .u8 0] 127) = W := ⟨_, rfl⟩
  have HA : Hid (Below w1.heap.size w1 W1) := Lib.hid (hW1 ▸ (Below.refl _ _).alloc (Nat.le_refl _) _)
  have HP : Hid (W1.heap[w1.heap.size]? = some (.cells (arrC (List.replicate 8 0)) 127 (0, 0))) := Lib.hid (by rw [← hW1]; exact heap_alloc_new w1 _)
  have HK1 : Hid (W1.heap[w.heap.size]? = some (.cells #[.int .i64 0, .int .i64 0] 75 (0, 0))) := Lib.hid ((HA.out.block _ z1).trans HK.out)
  have HCC : Hid (∀ j, j < X.size → (W1.drew.cell? ⟨w1.heap.size, 0 + j, none⟩).isSome = true) := Lib.hid (fun j hj => by
    have h := (blk HP.out).1 j _ (arrC_at (List.replicate 8 0) j (by rw [List.length_replicate]; have := HXS.out; omega))
    rw [Nat.zero_add]
    show (W1.cell? _).isSome = true
    rw [h]; rfl)
  have HFF : Hid (∀ j, j < X.size → W1.drew.frozen? ⟨w1.heap.size, 0 + j, none⟩ = false) := Lib.hid (fun j _ => (blk HP.out).2.1 _)
  have HXL : Hid (X.size ≤ 8) := Lib.hid (by rw [HXS.out]; omega)
  have hwa : IntKind.i64.wrap ((i : Int) + 1) = (i : Int) + 1 := by rw [IntKind.wrap_i64]; omega
  have hwb : IntKind.i64.wrap ((i : Int) + (n : Int)) = (i : Int) + (n : Int) := by rw [IntKind.wrap_i64]; omega
  have HWA := Lib.hid hwa
  have HWB := Lib.hid hwb
  have hsl : ∀ W : World, (Instr.slice 9 (.string s) (some (.int .i64 ((i : Int) + 1))) (some (.int .i64 ((i : Int) + (n : Int)))) none).run Tryz.prog W = .ok (.string X) W := fun W => by
    rw [run_slice_string_if W _ s .i64 .i64 _ _ Tryz.underlying9, if_pos ⟨by omega, hnear⟩, if_pos ⟨hs0, hs1⟩, show ((i : Int) + 1).toNat = i + 1 from by omega, show ((i : Int) + (n : Int)).toNat = i + n from by omega, HXX.out]
  clear hwa hwb hs0 hs1 hnear hnear' hn1 hn5 hz
  have hwa : IntKind.i64.wrap ((i : Int) + 1) = (i : Int) + 1 := HWA.out
  have hwb : IntKind.i64.wrap ((i : Int) + (n : Int)) = (i : Int) + (n : Int) := HWB.out
  rw [hW1]
  go_region_law (first
    | (refine step_copy_string ?_ (.tmp 16) (.tmp 23) 117 9 ?_ 5 Tryz.underlying117 HSO.out w1.heap.size 0 8 8 ?_ X ?_ HXL.out HCC.out HFF.out ?_; rfl; rfl; kernel_rfl; kernel_rfl))
  all_goals
    obtain ⟨W2, hW2⟩ : ∃ W, W1.drew.setCells w1.heap.size 0 (List.map (fun x : UInt8 => Value.int .u8 (x.toNat : Int)) X.data.toList) = W := ⟨_, rfl⟩
    have HB2 : Hid (Below w1.heap.size w1 W2) := Lib.hid (hW2 ▸ below_setCells (Nat.le_refl _) _ _ _ HA.out.drew)
    have HP2 : Hid (W2.heap[w1.heap.size]? = some (.cells (arrC (B ++ List.replicate (8 - m) 0)) 127 (0, 0))) := Lib.hid (by
      have h := heap_setCells (byteCells X.data.toList) 0 W1.drew (arrC (List.replicate 8 0)) (b := w1.heap.size) (T := 127) HP.out (by rw [byteCells_length, list_len, HXS.out]; show 0 + m ≤ 8; omega)
      rw [copy_arr X.data.toList (by rw [list_len, HXS.out]; omega), HXB.out, HBL.out] at h
      rw [← hW2, HXB.out]
      exact h)
    have HK2 : Hid (W2.heap[w.heap.size]? = some (.cells #[.int .i64 0, .int .i64 0] 75 (0, 0))) := Lib.hid ((HB2.out.block _ z1).trans HK.out)
    have hB2 : w1.heap.size < W2.heap.size := (blk HP2.out).2.2
    have KEEP : Hid (∀ W, Below W2.heap.size W2 W → W.cell? ⟨w1.heap.size, 0, none⟩ = some (.int .u8 x0) ∧ W.cell? ⟨w1.heap.size, 1, none⟩ = some (.int .u8 x1) ∧ W.cell? ⟨w1.heap.size, 2, none⟩ = some (.int .u8 x2) ∧ W.cell? ⟨w1.heap.size, 3, none⟩ = some (.int .u8 x3) ∧ W.cell? ⟨w1.heap.size, 4, none⟩ = some (.int .u8 x4) ∧ W.cell? ⟨w1.heap.size, 5, none⟩ = some (.int .u8 x5) ∧ W.cell? ⟨w1.heap.size, 6, none⟩ = some (.int .u8 x6) ∧ W.cell? ⟨w1.heap.size, 7, none⟩ = some (.int .u8 x7) ∧ W.cell? ⟨w.heap.size, 0, none⟩ = some (.int .i64 0) ∧ W.cell? ⟨w.heap.size, 1, none⟩ = some (.int .i64 0) ∧ W.frozen? ⟨w.heap.size, 0, none⟩ = false ∧ W.frozen? ⟨w.heap.size, 1, none⟩ = false) := Lib.hid (fun W hb => by
      have h := (hb.block _ hB2).trans HP2.out
      rw [HX8.out] at h
      have q := (blk h).1
      have p := blk ((hb.block w.heap.size (by omega)).trans HK2.out)
      exact ⟨q 0 _ rfl, q 1 _ rfl, q 2 _ rfl, q 3 _ rfl, q 4 _ rfl, q 5 _ rfl, q 6 _ rfl, q 7 _ rfl, p.1 0 _ rfl, p.1 1 _ rfl, p.2.1 0, p.2.1 1⟩)
    have REST : Hid (∀ W, Below W2.heap.size W2 W → W.cell? ⟨w.heap.size, 0, none⟩ = some (.int .i64 0) ∧ W.cell? ⟨w.heap.size, 1, none⟩ = some (.int .i64 0) ∧ W.frozen? ⟨w.heap.size, 0, none⟩ = false ∧ W.frozen? ⟨w.heap.size, 1, none⟩ = false) := Lib.hid (fun W hb => by
      have p := blk ((hb.block w.heap.size (by omega)).trans HK2.out)
      exact ⟨p.1 0 _ rfl, p.1 1 _ rfl, p.2.1 0, p.2.1 1⟩)
    have HBW : Hid (∀ W, Below W2.heap.size W2 W → Below w.heap.size w W) := Lib.hid (fun W hb => (HB1.out.trans (HB2.out.mono (by omega))).trans (hb.mono (by omega)))
    obtain ⟨ma0, ma1, ma2, ma3, ma4, ma5, ma6, ma7, ra0, ra1, fa0, fa1⟩ := KEEP.out W2 (Below.refl _ _)
    rw [hW2]
    clear hW2 HCC HFF HP HK1 HA HK hwa hwb hsl HWA HWB HXX HXL hW1
    go_wp2_with fail
    rw [HC.out]
    try rw [show wrap64 c = c from by unfold wrap64; omega]
    clear hwc
    go_region_law (first
      | (go_simp; go_at_call 100; (with_reducible refine (SH.out _).mono ?_); rintro e w4 ⟨rfl, b4⟩; have B4 : Hid (Below W2.heap.size W2 w4) := Lib.hid (undrew b4); obtain ⟨mb0, mb1, mb2, mb3, mb4, mb5, mb6, mb7, rb0, rb1, fb0, fb1⟩ := KEEP.out _ B4.out)
      | (go_simp; go_at_call 101; (with_reducible refine (WI.out _).mono ?_); rintro e w5 ⟨rfl, b5⟩; have B5 : Hid (Below W2.heap.size W2 w5) := Lib.hid (B4.out.trans (b5.mono B4.out.size)); obtain ⟨rc0, rc1, fc0, fc1⟩ := REST.out _ B5.out)
      | (go_simp; go_at_call 102; (with_reducible refine (NU.out _).mono ?_); rintro e w6 ⟨rfl, b6⟩; have B6 : Hid (Below W2.heap.size W2 w6) := Lib.hid (B5.out.trans (b6.mono B5.out.size)); obtain ⟨rd0, rd1, fd0, fd1⟩ := REST.out _ B6.out))
    all_goals
      have HB6 := Lib.hid (HBW.out _ B6.out)
      clear b4 b5 b6 ma0 ma1 ma2 ma3 ma4 ma5 ma6 ma7 ra0 ra1 fa0 fa1 mb0 mb1 mb2 mb3 mb4 mb5 mb6 mb7 rb0 rb1 fb0 fb1 rc0 rc1 fc0 fc1
      go_wp2_with fail
      refine bodyPost_ret (v := .tuple #[.agg #[.int .i64 c, .int .i64 V], .int .i64 (n : Int), .bool true]) (by simp [results, Tryz.results74, go_sem, rd0, rd1]) rfl ⟨?_, ?_⟩
      · rw [HN.out]
        show _ = Ending.returned (.tuple #[.agg #[.int .i64 c, .int .i64 V], .int .i64 ((1 + m : Nat) : Int), .bool true])
        rw [HNM.out]
      · exact (HB6.out.setCell (Nat.le_refl _) _).setCell (Nat.le_refl _) _
end Go.Proofs.YtakgjlpgcepnkaaGreat

/-! DecodeOp, the program's, at any index -/
namespace Go.Proofs.YtakgjlpgcepnkaaGreat
open Go.RowKit Go.Lib

theorem i_dec7 (s : ByteArray) (a : Int) (w : World) (hm : s.size ≤ 4294967296) :
    Calls Tryz.prog 74 #[.string s, .int .i64 a] w fun e w' => e = .returned (decV (decZ s.data.toList a)) ∧ Below w.heap.size w w' := by
  by_cases hz : decZ s.data.toList a = none
  · exact i_dec_none s a w hm hz
  rcases at_cases s a with h | ⟨i, hi, rfl⟩
  · refine absurd ?_ hz
    rcases h with h | h
    · exact decZ_neg _ _ h
    · exact decZ_far _ _ (by rw [list_len]; exact h)
  · exact i_dec_some s i w hm hi hz
end Go.Proofs.YtakgjlpgcepnkaaGreat
