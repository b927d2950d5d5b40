/- The laws' marks: what markText returns. -/
import Derived.Test.YthppmncndindiaaRows
import Derived.Test.YthppmncndindiaaMarkPlain
import Derived.Maps.AppendAt
import Derived.Outline
import Derived.Lib.Hide
import Derived.WalkSmall
import Derived.Deep.QuietTactic
import Derived.BigQuiet
import Derived.Deep.RegionHeld3
namespace Go.Proofs.Ythppmncndindiaa
open Go.RowKit Go.Lib

set_option maxHeartbeats 400000 in
theorem l_mark (ni : Int) (n : Nat) (w : World) (hni : ni = n) (h0 : 0 < n) (h1 : n ≤ 1000000) : Calls Try.prog 29 #[.int .i64 ni] w fun e w' => e = .returned (.string (mkT n)) ∧ Below w.heap.size w w' := by
  subst hni
  have hz : decide ((n : Int) ≤ 0) = false := by simp; omega
  have HF : Hid (mkT n = (⟨#[109]⟩ : ByteArray) ++ ⟨(restD n).toArray⟩) := Lib.hid (by rw [restD_pos _ h0]; exact bl_eq (by simp [mkT, ByteArray.data_append]))
  go_enter Try.func29, Try.ntmps29
  go_wp2
  clear hz
  go_loopw [0, 3] (fun x s wr => ∃ (m : Nat) (t : ByteArray), x = .int .i64 (m : Int) ∧ s = .string t ∧ m ≤ 1000000 ∧ restD m ++ t.data.toList = restD n ∧ Below w.heap.size w wr)
    (fun x _ _ => (intOf x).toNat)
  case atStart => exact ⟨n, ⟨#[]⟩, rfl, rfl, h1, by simp, Below.refl _ _⟩
  case round =>
    obtain ⟨m, t, rfl, rfl, hm, hr, hbel⟩ := hrel
    have HR := Lib.hid hr; clear hr
    have hts := rest_size HR.out (by omega)
    by_cases hm0 : 0 < m
    · have hB := hbel.size
      have hcv := run_convert_bytes_back (P := Try.prog) (wr.alloc (.cells #[.int .u8 (figB (m % 10)).toNat] 5)) 22 9 5 ⟨wr.heap.size, 0, none⟩ 1 [figB (m % 10)] Try.underlying22 Try.underlying5 Try.underlying9
        (fun j hj => by
          have hj0 : j = 0 := by simp at hj; omega
          subst hj0
          exact cell_one_new wr (.int .u8 (figB (m % 10)).toNat) 5 0 _ rfl)
      simp only [List.length_cons, List.length_nil, Nat.zero_add] at hcv
      have hfig : ((figB (m % 10)).toNat : Int) = 48 + (m : Int) % 10 := by rw [figB_toNat _ (by omega)]; unfold figN; rw [if_pos (by omega)]; omega
      rw [hfig] at hcv
      have HN := Lib.hid (rest_next HR.out hm0)
      clear hfig
      go_wp2
      go_roundw
      case rel => exact ⟨m / 10, _, by go_num, rfl, by omega, HN.out, hbel.alloc hB _⟩
      case measure => simp [intOf]; omega
    · have hm00 : m = 0 := by omega
      subst hm00
      go_wp2
      go_ret
      exact ⟨ret_str (by rw [HF.out, ← HR.out]; simp [restD, ByteArray.data_append]), hbel⟩

set_option maxHeartbeats 400000 in
theorem l_eqStrs (a b : Option Addr) (c d : Nat) (l : List ByteArray) (w : World) (ha : ReadS w a l) (hb : ReadS w b l) (hl : l.length ≤ 1000000) :
    Calls Try.prog 17 #[.slice a l.length c, .slice b l.length d] w fun e w' => e = .returned (.bool true) ∧ Below w.heap.size w w' := by
  have HA := Lib.hid ha
  have HB := Lib.hid hb
  clear ha hb
  go_enter Try.func17, Try.ntmps17
  go_wp2_with fail
  go_loopw [5] (fun i wr => ∃ (k q : Nat), k ≤ l.length ∧ i = .int .i64 (k : Int) ∧ wr = w.drewN q) (fun i _ => l.length - (intOf i).toNat)
  case atStart => exact ⟨0, 0, Nat.zero_le _, rfl, rfl⟩
  case round =>
    obtain ⟨k, q, hk, rfl, rfl⟩ := hrel
    by_cases hlt : k < l.length
    · obtain ⟨g, rfl, c1⟩ := HA.out k hlt
      obtain ⟨g', rfl, c2⟩ := HB.out k hlt
      have k0 : (0 : Int) ≤ (k : Int) := by omega
      have k1 : (k : Int) < (l.length : Int) := by omega
      generalize l[k] = x at c1 c2
      clear HA HB
      go_wp2_with fail
      go_quiet (fail)
      go_wp2
      go_roundw
      case rel => exact ⟨k + 1, _, by omega, by go_num, rfl⟩
      case measure => simp [intOf]; omega
    · go_wp2
      go_ret
      exact ⟨rfl, below_drewN (Below.refl _ _) q⟩

set_option maxHeartbeats 400000 in
theorem l_markStrs (a : Option Addr) (c : Nat) (l : List ByteArray) (m B : Nat) (w : World) (hown : w.ownsRow B 9 1 (.slice a l.length c) l.length (strV l)) (hB : B ≤ w.heap.size) (hl : l.length ≤ 1000) (h0 : 0 < m) (h1 : m ≤ 1000) :
    Calls Try.prog 18 #[.slice a l.length c, .int .i64 (m : Int)] w fun e w' => e = .returned (.int .i64 ((m + l.length : Nat) : Int)) ∧ w'.ownsRow B 9 1 (.slice a l.length c) l.length (strV (mks m l.length)) ∧ w.grownBy w' (Value.slice a l.length c).ownBlock := by
  have HO := Lib.hid hown
  clear hown
  go_enter Try.func18, Try.ntmps18
  go_wp2_with fail
  go_loopw [1, 5] (fun x i wr => ∃ k : Nat, k ≤ l.length ∧ i = .int .i64 (k : Int) ∧ x = .int .i64 ((m + k : Nat) : Int) ∧ wr.ownsRow B 9 1 (.slice a l.length c) l.length (strV (half m k l)) ∧ w.grownBy wr (Value.slice a l.length c).ownBlock) (fun _ i _ => l.length - (intOf i).toNat)
  case atStart => exact ⟨0, Nat.zero_le _, rfl, rfl, by rw [half_zero]; exact HO.out, World.grownBy.refl _ _⟩
  case round =>
    obtain ⟨k, hk, rfl, rfl, hown, hg⟩ := hrel
    have HOW := Lib.hid hown
    have HG := Lib.hid hg
    have hsz := hg.size
    clear hown hg
    by_cases hlt : k < l.length
    · obtain ⟨g, cap, cur, he, hgB, hgw, _⟩ : ∃ g cap cur, Value.slice a l.length c = .slice (some ⟨g, 0, none⟩) l.length cap ∧ B ≤ g ∧ wr.heap[g]? = some (.cells cur 9 (0, 0)) ∧ True := by
        rcases HOW.out.2 with ⟨_, h0⟩ | ⟨g, cap, cur, he, h1, h2, _⟩
        · omega
        · exact ⟨g, cap, cur, he, h1, h2, trivial⟩
      injection he with ha _ hc
      subst ha hc
      have hgl : g < wr.heap.size := by
        rcases Nat.lt_or_ge g wr.heap.size with h | h
        · exact h
        · rw [Array.getElem?_eq_none h] at hgw; cases hgw
      clear hgw
      go_wp2_with fail
      refine (l_mark _ (m + k) _ (by omega) (by omega) (by omega)).mono ?_
      rintro e w1 ⟨rfl, b1⟩
      have HO1 : Hid (w1.ownsRow B 9 1 (.slice (some ⟨g, 0, none⟩) l.length c) l.length (strV (half m k l))) := Lib.hid (HOW.out.kept (row := none) ⟨b1.os, b1.tape, b1.output, b1.size, fun j hj _ => b1.block j hj⟩ (.inr (by simp [Value.ownBlock])))
      have hcl := HO1.out.cellAt k (by omega)
      have hkh : k < (half m k l).length := by rw [half_length _ _ _ hk]; exact hlt
      obtain ⟨y, hcell⟩ : ∃ y, w1.cell? ⟨g, k, none⟩ = some (.string y) := ⟨_, by rw [hcl]; simp [strV, hkh]; rfl⟩
      have hfr := HO1.out.frozenAt k
      have S := HO1.out.stored k (.string (mkT (m + k)))
      have HS : Hid ((w1.setCell ⟨g, k, none⟩ (.string (mkT (m + k)))).ownsRow B 9 1 (.slice (some ⟨g, 0, none⟩) l.length c) l.length (strV (half m (k + 1) l))) := Lib.hid (by
        have := S.1; rw [strV_set, half_set m k l hlt] at this; exact this)
      have HG1 : Hid (w.grownBy (w1.setCell ⟨g, k, none⟩ (.string (mkT (m + k)))) (some g)) := Lib.hid (World.grownBy.trans (World.grownBy.trans HG.out ⟨b1.os, b1.tape, b1.output, b1.size, fun j hj _ => b1.block j hj⟩) S.2)
      have k0 : (0 : Int) ≤ (k : Int) := by omega
      have k1 : (k : Int) < (l.length : Int) := by omega
      clear hcl hkh S b1
      generalize mkT (m + k) = x at *
      go_wp2
      go_roundw
      case rel => exact ⟨k + 1, by omega, by go_num, by go_num, HS.out, HG1.out⟩
      case measure => simp [intOf]; omega
    · have hkk : k = l.length := by omega
      subst hkk
      go_wp2
      go_ret
      exact ⟨rfl, by have := HOW.out; rw [half_all] at this; exact this, HG.out⟩

set_option maxHeartbeats 1000000 in
theorem l_heldStrs (a : Option Addr) (c n : Nat) (m : Nat) (w : World) (hr : ReadS w a (mks m n)) (hl : n ≤ 1000) (h0 : 0 < m) (h1 : m ≤ 1000) :
    Calls Try.prog 19 #[.slice a n c, .int .i64 (m : Int)] w fun e w' => e = .returned (.int .i64 ((m + n : Nat) : Int)) ∧ Below w.heap.size w w' := by
  have HR := Lib.hid hr
  clear hr
  go_enter Try.func19, Try.ntmps19
  go_wp2_with fail
  go_loopw [1, 5] (fun x i wr => ∃ k : Nat, k ≤ n ∧ i = .int .i64 (k : Int) ∧ x = .int .i64 ((m + k : Nat) : Int) ∧ Below w.heap.size w wr) (fun _ i _ => n - (intOf i).toNat)
  case atStart => exact ⟨0, Nat.zero_le _, rfl, rfl, Below.refl _ _⟩
  case round =>
    obtain ⟨k, hk, rfl, rfl, hbel⟩ := hrel
    have HB := Lib.hid hbel
    have hsz := hbel.size
    by_cases hlt : k < n
    · obtain ⟨g, rfl, c1⟩ := HR.out k (by rw [mks_length]; exact hlt)
      have hgl := World.block_lt_of_cell? w _ c1
      dsimp only at hgl
      have hx : (mks m n)[k]'(by rw [mks_length]; exact hlt) = mkT (m + k) := by simp [mks]
      rw [hx] at c1
      have cw : wr.cell? ⟨g, k, none⟩ = some (.string (mkT (m + k))) := by rw [hbel.cell hgl]; exact c1
      have hgl' : g < wr.heap.size := by omega
      have k0 : (0 : Int) ≤ (k : Int) := by omega
      have k1 : (k : Int) < (n : Int) := by omega
      have HM : Hid (∀ W : World, Calls Try.prog 29 #[.int .i64 ((m : Int) + (k : Int))] W fun e w' => e = .returned (.string (mkT (m + k))) ∧ Below W.heap.size W w') := Lib.hid (fun W => l_mark _ (m + k) W (by omega) (by omega) (by omega))
      clear hx c1 hbel
      generalize mkT (m + k) = x at cw HM
      go_wp2_with fail
      go_region_held3 (fun w' => w'.cell? ⟨g, k, none⟩ = some (.string x)) (first | go_keep | (rw [b1.cell hgl']; exact cw)) (first
        | (go_at_call 29; refine (HM.out _).mono ?_; rintro e w1 ⟨rfl, b1⟩))
      all_goals
        have HB1 := Lib.hid (HB.out.drew.trans (b1.mono hsz))
        clear b1
        go_wp2
        go_roundw
        case rel => exact ⟨k + 1, by omega, by go_num, by go_num, HB1.out⟩
        case measure => simp [intOf]; omega
    · have hkk : k = n := by omega
      subst hkk
      go_wp2
      go_ret
      exact ⟨rfl, HB.out⟩
end Go.Proofs.Ythppmncndindiaa
