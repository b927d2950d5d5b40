/- Numbers and lists are read from their bytes, whatever follows: the law's walk. -/
import Derived.Test.YtfemkbdgbpgjgaaVarTxt
import Derived.Test.YtfemkbdgbpgjgaaPackS
import Derived.Test.YtfemkbdgbpgjgaaPackU
import Derived.Test.YtfemkbdgbpgjgaaSameInts
import Derived.Test.YtfemkbdgbpgjgaaAt
import Derived.Test.YtfemkbdgbpgjgaaBig
import Derived.ProofKit
import Derived.OpenShut
import Derived.ShutString
import Derived.ChangeOld
import Derived.Below
import Derived.Carry
namespace Go.Proofs.Ytfemkbdgbpgjgaa.fnVarints
open Go.ChangeShapes Go.WideShapes Go.ChangeAt Go.RowKit Go.Lib Go.Proofs.Ytfemkbdgbpgjgaa
open Go.ChangeMaps (open_string shut_string)

/-- The bytes of a number between two others. -/
theorem D1 (n : Nat) (hn : n ≤ 5000000000) (T : ByteArray) (hT : (⟨(vl n).toArray⟩ : ByteArray) = T) (W : World) :
    Calls Try.prog 18 #[.string ((⟨#[120]⟩ : ByteArray) ++ T ++ (⟨#[128]⟩ : ByteArray)), .int .i64 1] W fun e w' => e = .returned (.tuple #[.int .i64 (n : Int), .int .i64 (T.size : Int), .bool true]) ∧ Below W.heap.size W w' := by
  have hs : T.size = (vl n).length := by rw [← hT]; rfl
  have hl := vl_len6 n (by omega)
  have hd : ((⟨#[120]⟩ : ByteArray) ++ T ++ (⟨#[128]⟩ : ByteArray)).data.toList = 120 :: (vl n ++ [128]) := by rw [← hT]; simp
  have hz : ((⟨#[120]⟩ : ByteArray) ++ T ++ (⟨#[128]⟩ : ByteArray)).size ≤ 8 := by rw [← list_len, hd]; simp; omega
  refine (i_decV _ 1 W (by unfold maxLen; omega) (by decide)).mono ?_
  rintro e w' ⟨rfl, b⟩
  refine ⟨?_, b⟩
  rw [hd, show (1 : Int) = ((1 : Nat) : Int) from rfl, dvZ_nat]
  show Ending.returned (dvV (dcV (vl n ++ [128]))) = _
  rw [dcV_vl n _ (by omega), hs]
  rfl
theorem D2 (l : List Int) (hk : okPk l = true) (hl : l.length ≤ 1000) (T : ByteArray) (hT : (⟨(pkZ l).toArray⟩ : ByteArray) = T) (W : World) :
    Calls Try.prog 20 #[.string ((⟨#[97, 98]⟩ : ByteArray) ++ T ++ (⟨#[99]⟩ : ByteArray)), .int .i64 2] W fun e w' => ∃ a c, e = .returned (.tuple #[.slice a l.length c, .int .i64 (T.size : Int), .bool true]) ∧ ReadI w' a l ∧ Below W.heap.size W w' := by
  have hs : T.size = (pkZ l).length := by rw [← hT]; rfl
  have hlen : (pkZ l).length ≤ 6 + 6 * l.length := by rw [pkZ_yes l hk]; exact pkB_len _ _ (by omega)
  have hd : ((⟨#[97, 98]⟩ : ByteArray) ++ T ++ (⟨#[99]⟩ : ByteArray)).data.toList = [97, 98] ++ (pkZ l ++ [99]) := by rw [← hT]; simp
  have hz : ((⟨#[97, 98]⟩ : ByteArray) ++ T ++ (⟨#[99]⟩ : ByteArray)).size ≤ 10000 := by rw [← list_len, hd]; simp; omega
  have hu := unZ_pk [97, 98] [99] l hk (by omega)
  refine (i_unI _ 2 W (by omega) (by decide)).mono ?_
  rintro e w' ⟨v, rfl, O, b⟩
  have hu' : unZ ([97, 98] ++ (pkZ l ++ [99])) 2 = (l, (pkZ l).length, true) := hu
  rw [hd, hu'] at O ⊢
  obtain ⟨a, c, rfl⟩ := owns_shape O
  exact ⟨a, c, by rw [hs], readI_of O, b⟩
theorem D3 (s T : ByteArray) (hs : s.size ≤ 1000) (hT : (⟨(pkT s.data.toList).toArray⟩ : ByteArray) = T) (W : World) :
    Calls Try.prog 22 #[.string (T ++ (⟨#[122, 122]⟩ : ByteArray)), .int .i64 0] W fun e w' => e = .returned (.tuple #[.string s, .int .i64 (T.size : Int), .bool true]) ∧ Below W.heap.size W w' := by
  have hts : T.size = (pkT s.data.toList).length := by rw [← hT]; rfl
  have hlen : (pkT s.data.toList).length ≤ 1006 := by unfold pkT; rw [List.length_append, list_len]; have := vl_len6 s.size (by omega); omega
  have hd : (T ++ (⟨#[122, 122]⟩ : ByteArray)).data.toList = [] ++ (pkT s.data.toList ++ [122, 122]) := by rw [← hT]; simp
  have hz : (T ++ (⟨#[122, 122]⟩ : ByteArray)).size ≤ 10000 := by rw [← list_len, hd]; simp; omega
  have hu := unT_pk [] [122, 122] s.data.toList (by rw [list_len]; omega)
  refine (i_unT _ 0 W (by omega) (by decide)).mono ?_
  rintro e w' ⟨rfl, b⟩
  have hu' : unT ([] ++ (pkT s.data.toList ++ [122, 122])) 0 = (s.data.toList, (pkT s.data.toList).length, true) := hu
  refine ⟨?_, b⟩
  rw [hd, hu', hts]
  have e : (⟨s.data.toList.toArray⟩ : ByteArray) = s := by apply bl_eq; simp
  unfold utV
  simp only [e]
theorem mul_bd (x y A B : Int) (x0 : 0 ≤ x) (x1 : x ≤ A) (y0 : 0 ≤ y) (y1 : y ≤ B) : 0 ≤ x * y ∧ x * y ≤ A * B := ⟨Int.mul_nonneg x0 y0, Int.mul_le_mul x1 y1 y0 (by omega)⟩
set_option maxRecDepth 100000 in
set_option maxHeartbeats 2000000 in
theorem walk (a : Option Addr) (len cap : Nat) (z : List Int) (w : World) (H : IsRow .u8 w a len cap z) :
    Calls Try.prog 3 #[.slice a len cap] w fun e w' => e = .returned (.bool true) ∧ Below w.heap.size w w' := by
  have hlm : len ≤ 9223372036854775807 := by
    rcases H with ⟨_, rfl, _⟩ | ⟨x, _, h1, h2, _⟩
    · omega
    · unfold maxLen at h2; omega
  have HC := Lib.hid H
  clear H
  by_cases hb : 1048576 < len
  · go_enter Try.func3, Try.ntmps3
    go_wp2_with (first | (go_at_call 15; refine (big_yes a len cap _ hb hlm).mono ?_; rintro e w' ⟨rfl, rfl⟩))
    go_ret
    exact ⟨rfl, Below.refl _ _⟩
  have hl : len ≤ 1048576 := by omega
  go_enter Try.func3, Try.ntmps3
  go_wp2_with fail
  refine (big_no a len cap _ hl).mono ?_
  rintro e w' ⟨rfl, rfl⟩
  go_wp2_with fail
  refine (l_at a len cap z _ _ HC.out hl (by omega) (by omega)).mono ?_
  rintro e w' ⟨x, x0, x1, rfl, rfl⟩
  go_wp2_with fail
  refine (l_at a len cap z _ _ HC.out hl (by omega) (by omega)).mono ?_
  rintro e w' ⟨y, y0, y1, rfl, rfl⟩
  have hxy := mul_bd x y 255 255 x0 (by omega) y0 (by omega)
  obtain ⟨p, hp⟩ : ∃ p, x * y = p := ⟨_, rfl⟩
  have HP := Lib.hid hp
  rw [hp] at hxy
  obtain ⟨p0, p1⟩ := hxy
  clear hp
  go_wp2_with fail
  have hw1 : wrap64 (x * y) = p := by rw [HP.out]; unfold wrap64; omega
  rw [hw1]
  clear hw1
  refine (l_at a len cap z _ _ HC.out hl (by omega) (by omega)).mono ?_
  rintro e w' ⟨u, u0, u1, rfl, rfl⟩
  have hpu := mul_bd p u 65025 255 p0 (by omega) u0 (by omega)
  obtain ⟨q, hq⟩ : ∃ q, p * u = q := ⟨_, rfl⟩
  have HQ := Lib.hid hq
  rw [hq] at hpu
  obtain ⟨q0, q1⟩ := hpu
  clear hq
  go_wp2_with fail
  have hw2 : wrap64 (p * u) = q := by rw [HQ.out]; unfold wrap64; omega
  have hw3 : wrap64 (wrap64 (p * u) * 256) = q * 256 := by rw [hw2]; unfold wrap64; omega
  rw [hw3, hw2]
  clear hw2 hw3
  refine (l_at a len cap z _ _ HC.out hl (by omega) (by omega)).mono ?_
  rintro e w' ⟨v, v0, v1, rfl, rfl⟩
  obtain ⟨n, hn⟩ : ∃ n : Nat, q * 256 + v = (n : Int) := ⟨(q * 256 + v).toNat, by omega⟩
  have hnb : n ≤ 5000000000 := by omega
  go_wp2_with fail
  clear hn q0 q1 v0 v1 p0 p1 u0 u1 x0 x1 y0 y1 HP HQ
  have EN := Lib.hid (fun W => i_encV (n : Int) W)
  rw [encV_in n (by omega)] at EN
  obtain ⟨T, hT⟩ : ∃ T : ByteArray, (⟨(vl n).toArray⟩ : ByteArray) = T := ⟨_, rfl⟩
  have hTs : T.size ≤ 6 := by rw [← hT]; exact vl_len6 n (by omega)
  have DD1 := Lib.hid (fun W => D1 n hnb T hT W)
  obtain ⟨U, hU⟩ : ∃ U : ByteArray, (⟨(pkT T.data.toList).toArray⟩ : ByteArray) = U := ⟨_, rfl⟩
  have hUs : U.size ≤ 100 := by
    rw [← hU]
    show (pkT T.data.toList).length ≤ 100
    unfold pkT
    rw [List.length_append, list_len]
    have := vl_len6 T.size (by omega)
    omega
  have PT := Lib.hid (fun W => i_pkT T W (by omega))
  have DD3 := Lib.hid (fun W => D3 T U (by omega) hU W)
  rw [hT] at EN
  rw [hU] at PT
  have SG1 := Lib.hid (fun W => i_sgl (-(n : Int)) W)
  have SG2 := Lib.hid (fun W => i_sgd (sglZ (-(n : Int))) W)
  rw [sgl_sgd _ (by omega) (by omega)] at SG2
  have SG3 := Lib.hid (fun W => i_sgl (n : Int) W)
  have hs3 : sglZ (n : Int) = 2 * (n : Int) := by unfold sglZ; rw [if_neg (by omega), if_pos (by omega)]
  rw [hs3] at SG3
  obtain ⟨sg, hsg⟩ : ∃ sg, sglZ (-(n : Int)) = sg := ⟨_, rfl⟩
  rw [hsg] at SG1 SG2
  clear hT hU hsg hs3
  refine (EN.out _).mono ?_
  rintro e w1 ⟨rfl, b1⟩
  have HB1 := Lib.hid b1
  have z1 := b1.size
  clear b1
  go_wp2_with fail
  refine (DD1.out _).mono ?_
  rintro e w2 ⟨rfl, b2⟩
  have HB2 := Lib.hid (HB1.out.trans (b2.mono z1))
  have z2 := HB2.out.size
  clear b2
  go_wp2_with fail
  refine (l_at a len cap z _ _ (HC.out.below HB2.out HC.out.lt) hl (by omega) (by omega)).mono ?_
  rintro e w' ⟨x4, x0, x1, rfl, rfl⟩
  go_wp2_with fail
  obtain ⟨w3, hw3⟩ : ∃ W, w2.alloc (.cells #[.int .i64 (n : Int), .int .i64 (-(n : Int)), .int .i64 x4, .int .i64 (-1)] 3) = W := ⟨_, rfl⟩
  have HB3 : Hid (Below w.heap.size w w3) := Lib.hid (by rw [← hw3]; exact HB2.out.alloc z2 _)
  have z3 := HB3.out.size
  have HRO : Hid (w3.ownsRow w2.heap.size 3 1 (.slice (some ⟨w2.heap.size, 0, none⟩) 4 4) 4 (intV [(n : Int), -(n : Int), x4, -1])) := Lib.hid (by
    rw [← hw3]
    exact World.ownsRow_lit (base := w2.heap.size) (e := 3) (size := 1) w2 #[.int .i64 (n : Int), .int .i64 (-(n : Int)), .int .i64 x4, .int .i64 (-1)] 4 (Nat.le_refl _) (by decide) rfl)
  rw [hw3]
  clear hw3
  have hok : okPk [(n : Int), -(n : Int), x4, -1] = true := by
    have g : ∀ a : Int, -10000000000 ≤ a → a ≤ 10000000000 → decide (0 ≤ sglZ a) = true := fun a h0 h1 => by
      unfold sglZ
      rw [if_neg (by omega)]
      simp only [decide_eq_true_eq]
      split <;> omega
    unfold okPk
    simp only [List.all_cons, List.all_nil, Bool.and_true, Bool.and_eq_true]
    exact ⟨g _ (by omega) (by omega), g _ (by omega) (by omega), g _ (by omega) (by omega), g _ (by omega) (by omega)⟩
  obtain ⟨l, hle⟩ : ∃ l, [(n : Int), -(n : Int), x4, -1] = l := ⟨_, rfl⟩
  have hll : l.length = 4 := by rw [← hle]; rfl
  rw [hle] at hok HRO
  have RD3 : Hid (ReadI w3 (some ⟨w2.heap.size, 0, none⟩) l) := Lib.hid (readI_of (by rw [hll]; exact HRO.out))
  have PI := Lib.hid (i_pkI (some ⟨w2.heap.size, 0, none⟩) 4 l w3 (by omega) RD3.out)
  rw [hll] at PI
  obtain ⟨V, hV⟩ : ∃ V : ByteArray, (⟨(pkZ l).toArray⟩ : ByteArray) = V := ⟨_, rfl⟩
  have hVs : V.size ≤ 100 := by
    rw [← hV]
    show (pkZ l).length ≤ 100
    rw [pkZ_yes l hok]
    have := pkB_len l.length l (by omega)
    omega
  have DD2 := Lib.hid (fun W => D2 l hok (by omega) V hV W)
  rw [hV] at PI
  rw [hll] at DD2
  have HLL := Lib.hid hll
  clear hV hle hll hok x0 x1 HRO
  refine PI.out.mono ?_
  rintro e w4 ⟨rfl, b4⟩
  have RD4 := Lib.hid (RD3.out.below b4)
  have HB4 := Lib.hid (HB3.out.trans (b4.mono z3))
  have z4 := HB4.out.size
  clear b4
  go_wp2_with fail
  refine (DD2.out _).mono ?_
  rintro e w5 ⟨ra, rc, rfl, rd, b5⟩
  have RB5 := Lib.hid rd
  have RD5 := Lib.hid (RD4.out.below b5)
  have HB5 := Lib.hid (HB4.out.trans (b5.mono z4))
  have z5 := HB5.out.size
  clear b5 rd
  go_wp2_with fail
  refine (PT.out _).mono ?_
  rintro e w6 ⟨rfl, b6⟩
  have RB6 := Lib.hid (RB5.out.below b6)
  have RD6 := Lib.hid (RD5.out.below b6)
  have HB6 := Lib.hid (HB5.out.trans (b6.mono z5))
  have z6 := HB6.out.size
  clear b6
  go_wp2_with fail
  refine (DD3.out _).mono ?_
  rintro e w7 ⟨rfl, b7⟩
  have HB7 := Lib.hid (HB6.out.trans (b7.mono z6))
  have z7 := HB7.out.size
  have SI := Lib.hid (l_sameInts ra (some ⟨w2.heap.size, 0, none⟩) rc 4 l w7 (RB6.out.below b7) (RD6.out.below b7) (by rw [HLL.out]; omega))
  rw [HLL.out] at SI
  clear b7
  go_wp2_with fail
  refine SI.out.mono ?_
  rintro e w8 ⟨rfl, b8⟩
  have HB8 := Lib.hid (HB7.out.trans (b8.mono z7))
  clear b8
  go_wp2_with fail
  refine (SG1.out _).mono ?_
  rintro e w9 ⟨rfl, rfl⟩
  go_wp2_with fail
  refine (SG2.out _).mono ?_
  rintro e w9 ⟨rfl, rfl⟩
  go_wp2_with fail
  refine (SG3.out _).mono ?_
  rintro e w9 ⟨rfl, rfl⟩
  go_wp2
  go_ret
  exact ⟨rfl, HB8.out⟩
end Go.Proofs.Ytfemkbdgbpgjgaa.fnVarints
