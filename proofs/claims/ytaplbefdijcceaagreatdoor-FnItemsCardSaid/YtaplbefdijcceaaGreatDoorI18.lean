/- The program's NameOk; The program's TokOk and Arity; The program's ExprEnd; The program's ExprOk. -/
import Derived.Test.YtaplbefdijcceaaGreatDoorRows
import Derived.Test.YtaplbefdijcceaaGreatDoorI00
import Derived.Outline
import Derived.Lib.Hide
namespace Go.Proofs.YtaplbefdijcceaaGreatDoor
open Go.RowKit Go.Lib
theorem i_name (s : ByteArray) (w : World) (hm : s.size ≤ maxLen) : Calls Tryz.prog 65 #[.string s] w fun e w' => e = .returned (.bool (nameB s)) ∧ w = w' := by
  unfold maxLen at hm
  by_cases hs0 : s.size < 1
  · have hr := hid (nameB_short s (by omega))
    go_enter Tryz.func65, Tryz.ntmps65
    go_wp2
    go_ret
    exact ⟨ret_b hr.out.symm, rfl⟩
  by_cases hs1 : 8 < s.size
  · have hr := hid (nameB_long s hs1)
    go_enter Tryz.func65, Tryz.ntmps65
    go_wp2
    go_ret
    exact ⟨ret_b hr.out.symm, rfl⟩
  go_enter Tryz.func65, Tryz.ntmps65
  go_wp2_with fail
  go_loop [14] (fun i => ∃ k : Nat, k ≤ s.size ∧ i = .int .i64 (k : Int) ∧ (s.data.toList.take k).all lowB = true) (fun i => s.size - (intOf i).toNat)
  case atStart => exact ⟨0, Nat.zero_le _, rfl, rfl⟩
  case round =>
    obtain ⟨k, hk, rfl, ha⟩ := hrel
    have HA := hid ha
    clear ha
    by_cases hlt : k < s.size
    · have hp : s[k].toNat < 256 := s[k].toNat_lt
      by_cases hbad : s[k].toNat < 97 ∨ 122 < s[k].toNat
      · have hr := hid (nameB_bad s k hlt hbad)
        go_wp2_with fail
        all_goals go_ret
        all_goals exact ⟨ret_b hr.out.symm, rfl⟩
      · have h1 : 97 ≤ s[k].toNat := by omega
        have h2 : s[k].toNat ≤ 122 := by omega
        have HN := hid (low_next s k hlt HA.out h1 h2)
        clear hbad
        go_wp2
        go_round
        case rel => exact ⟨k + 1, by omega, by go_num, HN.out⟩
        case measure => simp [intOf]; omega
    · have hkk : k = s.size := by omega
      have hr := hid (nameB_good s (by omega) (by omega) (by have := HA.out; rw [hkk] at this; exact this))
      clear hkk
      go_wp2
      go_ret
      exact ⟨ret_b hr.out.symm, rfl⟩
end Go.Proofs.YtaplbefdijcceaaGreatDoor
namespace Go.Proofs.YtaplbefdijcceaaGreatDoor
open Go.RowKit Go.Lib
theorem i_oper (x : Int) (w : World) : Calls Tryz.prog 176 #[.int .i64 x] w fun e w' => e = .returned (.bool (decide (2 ≤ x) && decide (x ≤ 6))) ∧ w = w' := by
  by_cases h1 : 2 ≤ x <;> by_cases h2 : x ≤ 6
  all_goals
    go_enter Tryz.func176, Tryz.ntmps176
    go_wp2
    go_ret
    exact ⟨ret_b (by simp [h1, h2]), rfl⟩
set_option maxHeartbeats 1000000 in
theorem i_tok (k n : Int) (s : ByteArray) (w : World) (hm : s.size ≤ maxLen) :
    Calls Tryz.prog 178 #[.agg #[.int .i64 k, .int .i64 n, .string s]] w fun e w' => e = .returned (.bool (tokB ⟨k, n, s⟩)) ∧ Below w.heap.size w w' := by
  by_cases hk : k < 0 ∨ 7 < k
  · have hr := hid (tokB_out k n s hk)
    have hd : (decide (2 ≤ k) && decide (k ≤ 6)) = false := by simp; omega
    have e0 : (k == 0) = false := by simp; omega
    have e1 : (k == 1) = false := by simp; omega
    have e7 : (k == 7) = false := by simp; omega
    go_enter Tryz.func178, Tryz.ntmps178
    go_wp2_with (first | (go_at_call 176; refine (i_oper _ _).mono ?_; rintro e w' ⟨rfl, rfl⟩))
    go_ret
    exact ⟨ret_b hr.out.symm, (Below.refl _ _).alloc (Nat.le_refl _) _⟩
  have k0 : 0 ≤ k := by omega
  have k7 : k ≤ 7 := by omega
  clear hk
  have hn1 := hid (noName_of s)
  have hn0 := hid (noName_not s)
  by_cases h0 : k = 0
  · subst h0
    have hr := hid (tokB_0 n s)
    by_cases hn : 0 ≤ n ∧ n ≤ 999
    · obtain ⟨n0, n1⟩ := hn
      by_cases hs : s.size = 0
      · have hN := hid (hn1.out hs)
        obtain rfl := empty_yes s hs
        clear hs hm
        go_enter Tryz.func178, Tryz.ntmps178
        go_wp2
        go_ret
        exact ⟨ret_b (by rw [hr.out, hN.out, decide_eq_true n0, decide_eq_true n1]; rfl), (Below.refl _ _).alloc (Nat.le_refl _) _⟩
      · have hN := hid (hn0.out hs)
        have hE := empty_no s hs
        clear hs
        go_enter Tryz.func178, Tryz.ntmps178
        go_wp2
        go_ret
        exact ⟨ret_b (by rw [hr.out, hN.out]; simp), (Below.refl _ _).alloc (Nat.le_refl _) _⟩
    · have hd : (decide (0 ≤ n) && decide (n ≤ 999)) = false := by simp; omega
      have HD := hid hd
      clear hd
      by_cases n0 : 0 ≤ n
      · have n1 : ¬ n ≤ 999 := by omega
        clear hn
        go_enter Tryz.func178, Tryz.ntmps178
        go_wp2
        go_ret
        exact ⟨ret_b (by rw [hr.out, ← Bool.and_assoc, HD.out]; rfl), (Below.refl _ _).alloc (Nat.le_refl _) _⟩
      · clear hn
        go_enter Tryz.func178, Tryz.ntmps178
        go_wp2
        go_ret
        exact ⟨ret_b (by rw [hr.out, ← Bool.and_assoc, HD.out]; rfl), (Below.refl _ _).alloc (Nat.le_refl _) _⟩
  have e0 : (k == 0) = false := by simpa using h0
  by_cases h1 : k = 1
  · subst h1
    have hr := hid (tokB_1 n s)
    by_cases hn : n = 0
    · subst hn
      go_enter Tryz.func178, Tryz.ntmps178
      go_wp2_with (first | (go_at_call 65; refine (i_name _ _ hm).mono ?_; rintro e w' ⟨rfl, rfl⟩))
      go_ret
      exact ⟨ret_b (by rw [hr.out]; rfl), (Below.refl _ _).alloc (Nat.le_refl _) _⟩
    · have en : (n == 0) = false := by simpa using hn
      have HN := hid hn
      clear hn
      go_enter Tryz.func178, Tryz.ntmps178
      go_wp2_with (first | (go_at_call 65; refine (i_name _ _ hm).mono ?_; rintro e w' ⟨rfl, rfl⟩))
      go_ret
      exact ⟨ret_b (by rw [hr.out, decide_eq_false HN.out]; rfl), (Below.refl _ _).alloc (Nat.le_refl _) _⟩
  have e1 : (k == 1) = false := by simpa using h1
  by_cases h7 : k = 7
  · subst h7
    have hr := hid (tokB_7 n s)
    by_cases hn : 0 ≤ n ∧ n ≤ 4
    · obtain ⟨n0, n1⟩ := hn
      go_enter Tryz.func178, Tryz.ntmps178
      go_wp2_with (first | (go_at_call 65; refine (i_name _ _ hm).mono ?_; rintro e w' ⟨rfl, rfl⟩))
      go_ret
      exact ⟨ret_b (by rw [hr.out, decide_eq_true n0, decide_eq_true n1]; rfl), (Below.refl _ _).alloc (Nat.le_refl _) _⟩
    · have hd : (decide (0 ≤ n) && decide (n ≤ 4)) = false := by simp; omega
      have HD := hid hd
      clear hd
      by_cases n0 : 0 ≤ n
      · have n1 : ¬ n ≤ 4 := by omega
        clear hn
        go_enter Tryz.func178, Tryz.ntmps178
        go_wp2
        go_ret
        exact ⟨ret_b (by rw [hr.out, ← Bool.and_assoc, HD.out]; rfl), (Below.refl _ _).alloc (Nat.le_refl _) _⟩
      · clear hn
        go_enter Tryz.func178, Tryz.ntmps178
        go_wp2
        go_ret
        exact ⟨ret_b (by rw [hr.out, ← Bool.and_assoc, HD.out]; rfl), (Below.refl _ _).alloc (Nat.le_refl _) _⟩
  have e7 : (k == 7) = false := by simpa using h7
  have hr : Hid (tokB ⟨k, n, s⟩ = (decide (n = 0) && noName s)) := hid (by rw [tokB_op k n s h0 h1 h7, decide_eq_true (by omega : 2 ≤ k), decide_eq_true (by omega : k ≤ 6)]; rfl)
  have k2 : 2 ≤ k := by omega
  have k6 : k ≤ 6 := by omega
  clear h0 h1 h7
  by_cases hn : n = 0
  · subst hn
    by_cases hs : s.size = 0
    · have hN := hid (hn1.out hs)
      obtain rfl := empty_yes s hs
      clear hs hm
      go_enter Tryz.func178, Tryz.ntmps178
      go_wp2_with (first | (go_at_call 176; refine (i_oper _ _).mono ?_; rintro e w' ⟨rfl, rfl⟩))
      go_ret
      exact ⟨ret_b (by rw [hr.out, hN.out]; rfl), (Below.refl _ _).alloc (Nat.le_refl _) _⟩
    · have hN := hid (hn0.out hs)
      have hE := empty_no s hs
      clear hs
      go_enter Tryz.func178, Tryz.ntmps178
      go_wp2_with (first | (go_at_call 176; refine (i_oper _ _).mono ?_; rintro e w' ⟨rfl, rfl⟩))
      go_ret
      exact ⟨ret_b (by rw [hr.out, hN.out]; rfl), (Below.refl _ _).alloc (Nat.le_refl _) _⟩
  · have en : (n == 0) = false := by simpa using hn
    have HN := hid hn
    clear hn
    go_enter Tryz.func178, Tryz.ntmps178
    go_wp2_with (first | (go_at_call 176; refine (i_oper _ _).mono ?_; rintro e w' ⟨rfl, rfl⟩))
    go_ret
    exact ⟨ret_b (by rw [hr.out, decide_eq_false HN.out]; rfl), (Below.refl _ _).alloc (Nat.le_refl _) _⟩
theorem i_meth (k n : Int) (s : ByteArray) (w : World) (hb : tokB ⟨k, n, s⟩ = true) :
    Calls Tryz.prog 189 #[.agg #[.int .i64 k, .int .i64 n, .string s]] w fun e w' => e = .returned (.int .i64 (arZ ⟨k, n, s⟩)) ∧ Below w.heap.size w w' := by
  by_cases h0 : k = 0
  · subst h0
    have hr := hid (arZ_0 _ _ hb)
    clear hb
    go_enter Tryz.func189, Tryz.ntmps189
    go_wp2
    go_ret
    exact ⟨ret_int hr.out.symm, (Below.refl _ _).alloc (Nat.le_refl _) _⟩
  by_cases h1 : k = 1
  · subst h1
    have hr := hid (arZ_1 _ _ hb)
    clear hb
    go_enter Tryz.func189, Tryz.ntmps189
    go_wp2
    go_ret
    exact ⟨ret_int hr.out.symm, (Below.refl _ _).alloc (Nat.le_refl _) _⟩
  have e0 : (k == 0) = false := by simpa using h0
  have e1 : (k == 1) = false := by simpa using h1
  by_cases h7 : k = 7
  · subst h7
    have hr := hid (arZ_7 _ _ hb)
    clear hb h0 h1
    go_enter Tryz.func189, Tryz.ntmps189
    go_wp2
    go_ret
    exact ⟨ret_int hr.out.symm, (Below.refl _ _).alloc (Nat.le_refl _) _⟩
  · have hr := hid (arZ_op _ _ _ hb h0 h1 h7)
    have e7 : (k == 7) = false := by simpa using h7
    clear hb h0 h1 h7
    go_enter Tryz.func189, Tryz.ntmps189
    go_wp2
    go_ret
    exact ⟨ret_int hr.out.symm, (Below.refl _ _).alloc (Nat.le_refl _) _⟩
set_option maxHeartbeats 1000000 in
theorem i_ask (k n : Int) (s : ByteArray) (w : World) (hm : s.size ≤ maxLen) :
    Calls Tryz.prog 188 #[.agg #[.int .i64 k, .int .i64 n, .string s], .func (.func 189) #[] #[], .int .i64 (-1)] w fun e w' => e = .returned (.int .i64 (arZ ⟨k, n, s⟩)) ∧ Below w.heap.size w w' := by
  obtain ⟨b, hb⟩ : ∃ b, tokB ⟨k, n, s⟩ = b := ⟨_, rfl⟩
  have HT : Hid (∀ W : World, Calls Tryz.prog 178 #[.agg #[.int .i64 k, .int .i64 n, .string s]] W fun e w' => e = .returned (.bool b) ∧ Below W.heap.size W w') := hid (fun W => hb ▸ i_tok k n s W hm)
  cases b
  · have hr := hid (arZ_bad _ hb)
    clear hb
    go_enter Tryz.func188, Tryz.ntmps188
    go_wp2_with (first | (go_at_call 178; refine (HT.out _).mono ?_; rintro e w1 ⟨rfl, b1⟩))
    go_ret
    exact ⟨ret_int hr.out.symm, ((Below.refl _ _).alloc (Nat.le_refl _) _).trans (b1.mono (by simp))⟩
  · have HB := hid hb
    clear hb
    go_enter Tryz.func188, Tryz.ntmps188
    go_wp2_with fail
    refine (HT.out _).mono ?_; rintro e w1 ⟨rfl, b1⟩
    have hc := fun o => b1.cell (p := ⟨w.heap.size, o, none⟩) (by simp)
    go_wp2_with fail
    refine (i_meth k n s _ HB.out).mono ?_; rintro e w2 ⟨rfl, b2⟩
    go_wp2
    go_ret
    exact ⟨rfl, (((Below.refl _ _).alloc (Nat.le_refl _) _).trans (b1.mono (by simp))).trans (b2.mono (by have := b1.size; simp at this; omega))⟩
theorem i_arity (k n : Int) (s : ByteArray) (w : World) (hm : s.size ≤ maxLen) :
    Calls Tryz.prog 175 #[.agg #[.int .i64 k, .int .i64 n, .string s]] w fun e w' => e = .returned (.int .i64 (arZ ⟨k, n, s⟩)) ∧ Below w.heap.size w w' := by
  go_enter Tryz.func175, Tryz.ntmps175
  go_wp2_with fail
  refine (i_ask k n s _ hm).mono ?_; rintro e w1 ⟨rfl, b1⟩
  go_wp2
  go_ret
  exact ⟨rfl, ((Below.refl _ _).alloc (Nat.le_refl _) _).trans (b1.mono (by simp))⟩
end Go.Proofs.YtaplbefdijcceaaGreatDoor

namespace Go.Proofs.YtaplbefdijcceaaGreatDoor
open Go.RowKit Go.Lib
def NamesI (l : List TokL) : Prop := ∀ j (h : j < l.length), l[j].name.size ≤ maxLen
set_option maxHeartbeats 1000000 in
theorem i_end (a : Option Addr) (cap : Nat) (l : List TokL) (b : Int) (w : World) (hl : l.length ≤ 1048576) (hr : ReadT w a l) (hn : NamesI l) (hb : b ≤ 9223372036854775807) :
    Calls Tryz.prog 174 #[.slice a l.length cap, .int .i64 b] w fun e w' => e = .returned (.int .i64 (endZ l b)) ∧ Below w.heap.size w w' := by
  by_cases hb0 : b < 0
  · have hr := hid (endZ_neg l b hb0)
    go_enter Tryz.func174, Tryz.ntmps174
    go_wp2
    go_ret
    exact ⟨ret_int hr.out.symm, Below.refl _ _⟩
  obtain ⟨i0, rfl⟩ := Int.eq_ofNat_of_zero_le (by omega : 0 ≤ b)
  have HR := hid hr
  have HN := hid hn
  obtain ⟨R, hR⟩ : ∃ R, resZ (scanN (l.drop i0) 1) i0 = R := ⟨_, rfl⟩
  have HE : Hid (endZ l (i0 : Int) = R) := hid (by rw [endZ_nat, hR])
  have HR0 := hid hR
  clear hr hn hR
  go_enter Tryz.func174, Tryz.ntmps174
  go_wp2_with fail
  go_loopw [1, 5, 6] (fun x y _ wr => ∃ i n : Nat, x = .int .i64 (i : Int) ∧ y = .int .i64 (n : Int) ∧ 0 < n ∧ n ≤ 1 + 4 * i ∧ i ≤ 9223372036854775807 ∧ resZ (scanN (l.drop i) n) i = R ∧ Below w.heap.size w wr) (fun x _ _ _ => l.length - (intOf x).toNat)
  case atStart => exact ⟨i0, 1, rfl, rfl, by omega, by omega, by omega, HR0.out, Below.refl _ _⟩
  case round =>
    obtain ⟨i, n, rfl, rfl, hnp, hn, hi, hres, hbel⟩ := hrel
    have HB := hid hbel
    have hB := hbel.size
    have HS := hid hres
    clear hres
    by_cases hlt : i < l.length
    · obtain ⟨g, rfl, hg, c0, c1, c2⟩ := HR.out i hlt
      have hsz := HN.out i hlt
      have HV0 := hid (scan_bad l i n hlt hnp)
      have HV1 := hid (scan_ok l i n hlt hnp)
      obtain ⟨t, ht⟩ : ∃ t, l[i] = t := ⟨_, rfl⟩
      rw [ht] at c0 c1 c2 hsz HV0 HV1
      have d0 : wr.cell? ⟨g, i * 3, none⟩ = some (.int .i64 t.kind) := (hbel.cell (p := ⟨g, _, none⟩) hg).trans c0
      have d1 : wr.cell? ⟨g, i * 3 + 1, none⟩ = some (.int .i64 t.num) := (hbel.cell (p := ⟨g, _, none⟩) hg).trans c1
      have d2 : wr.cell? ⟨g, i * 3 + 2, none⟩ = some (.string t.name) := (hbel.cell (p := ⟨g, _, none⟩) hg).trans c2
      have gw : g < wr.heap.size := by omega
      have k0 : (0 : Int) ≤ (i : Int) := by omega
      have k1 : (i : Int) < (l.length : Int) := by omega
      clear c0 c1 c2 hbel ht
      have HA := hid (fun W => i_arity t.kind t.num t.name W hsz)
      obtain ⟨ok, hok⟩ : ∃ ok, tokB t = ok := ⟨_, rfl⟩
      cases ok
      · have HV := hid (HV0.out hok)
        rw [show arZ ⟨t.kind, t.num, t.name⟩ = -1 from arZ_bad t hok] at HA
        clear hok
        go_wp2_with fail
        refine (HA.out _).mono ?_
        rintro e w1 ⟨rfl, b1⟩
        have HB1 := hid (HB.out.trans (b1.mono hB))
        clear b1
        go_wp2
        go_ret
        exact ⟨ret_int (by rw [HE.out, ← HS.out, HV.out]), HB1.out⟩
      · have HV := hid (HV1.out hok)
        have ar0 := arZ_pos t hok
        have ar1 := (arZ_bd t).2
        obtain ⟨r, hr⟩ := Int.eq_ofNat_of_zero_le ar0
        rw [show arZ ⟨t.kind, t.num, t.name⟩ = (r : Int) from hr] at HA
        have hr4 : r ≤ 4 := by omega
        have HV' : Hid (resZ (scanN (l.drop i) n) i = resZ (scanN (l.drop (i + 1)) (n - 1 + r)) (i + 1)) := hid (by rw [HV.out, hr]; rfl)
        clear hok ar0 ar1 hr HV HV0 HV1
        go_wp2_with fail
        refine (HA.out _).mono ?_
        rintro e w1 ⟨rfl, b1⟩
        have HB1 := hid (HB.out.trans (b1.mono hB))
        have hd : decide ((r : Int) < 0) = false := by simp
        clear b1
        by_cases hz : n - 1 + r = 0
        · have ez : ((n : Int) + ((r : Int) - 1) == 0) = true := by simp; omega
          have HZ : Hid (R = ((i + 1 : Nat) : Int)) := hid (by rw [← HS.out, HV'.out, hz, scan_zero])
          clear hz
          go_wp2
          go_ret
          exact ⟨ret_int (by rw [HE.out, HZ.out]; omega), HB1.out⟩
        · have ez : ((n : Int) + ((r : Int) - 1) == 0) = false := by simp; omega
          have hz' : 0 < n - 1 + r := by omega
          clear hz
          go_wp2
          go_roundw
          case rel => exact ⟨i + 1, n - 1 + r, by go_num, by go_num, hz', by omega, by omega, by rw [← HV'.out]; exact HS.out, HB1.out⟩
          case measure => simp [intOf]; omega
    · have HV := hid (scan_out l i n (by omega) hnp)
      go_wp2_with fail
      go_ret
      exact ⟨ret_int (by rw [HE.out, ← HS.out, HV.out]), HB.out⟩
end Go.Proofs.YtaplbefdijcceaaGreatDoor
namespace Go.Proofs.YtaplbefdijcceaaGreatDoor
open Go.RowKit Go.Lib
theorem exprI_long (l : List TokL) (h : 20 < l.length) : exprB l = false := by unfold exprB; rw [decide_eq_false (by omega : ¬ l.length ≤ 20)]; rfl
theorem exprI_mid (l : List TokL) (h : l.length ≤ 20) : exprB l = (endZ l 0 == (l.length : Int)) := by
  unfold exprB; rw [decide_eq_true h, Bool.true_and]; rw [Bool.eq_iff_iff]; simp
set_option maxHeartbeats 400000 in
theorem i_exprok (a : Option Addr) (cap : Nat) (l : List TokL) (w : World) (hl : l.length ≤ 1048576) (hr : ReadT w a l) (hn : NamesI l) :
    Calls Tryz.prog 142 #[.slice a l.length cap] w fun e w' => e = .returned (.bool (exprB l)) ∧ Below w.heap.size w w' := by
  by_cases hb : 20 < l.length
  · have HV := hid (exprI_long l hb)
    have hd : decide (l.length ≤ 20) = false := by simp; omega
    clear hr hn
    go_enter Tryz.func142, Tryz.ntmps142
    go_wp2
    go_ret
    exact ⟨ret_b HV.out.symm, Below.refl _ _⟩
  have hb' : l.length ≤ 20 := by omega
  have HV := hid (exprI_mid l hb')
  have S := hid (fun W h => i_end a cap l 0 W hl h hn (by omega))
  have HR := hid hr
  clear hr hn hb
  obtain ⟨r, hre⟩ : ∃ r, endZ l 0 = r := ⟨_, rfl⟩
  rw [hre] at S HV
  clear hre
  go_enter Tryz.func142, Tryz.ntmps142
  go_wp2_with fail
  refine (S.out _ HR.out).mono ?_
  rintro e w1 ⟨rfl, b1⟩
  have HB := hid b1
  clear b1
  go_wp2
  all_goals go_ret
  all_goals exact ⟨ret_b (by rw [HV.out]), HB.out⟩
end Go.Proofs.YtaplbefdijcceaaGreatDoor
