/- VariableWords, of the model and of the program. -/
import Derived.Test.YtbccejnkklopfaaItmRow
namespace Go.Proofs.Ytbccejnkklopfaa
open Go.RowKit Go.Lib

def varZ (l : List PIt) : Int := match l with
  | [] => -1
  | x :: _ => if x.code = 13 ∨ x.code = 15 then x.arg else -1
theorem ret_i8 {a b : Int} (h : a = b) : Ending.returned (.int .i64 a) = .returned (.int .i64 b) := by rw [h]
set_option maxRecDepth 100000 in
set_option maxHeartbeats 1000000 in
theorem s_varW (a : Option Addr) (c n : Nat) (X : List VIt) (w : World) (ha : RowI w (.slice a n c) X) (hn : X.length = n) (hl : n ≤ 4194304) :
    Calls Try.prog 9 #[.slice a n c] w fun e w' => e = .returned (.int .i64 (varZ (X.map (·.p)))) ∧ Below w.heap.size w w' := by
  cases X with
  | nil =>
    obtain rfl : 0 = n := hn
    clear ha
    go_enter Try.func9, Try.ntmps9
    go_wp2
    go_ret
    exact ⟨rfl, Below.refl _ _⟩
  | cons x r =>
    obtain ⟨g, xa, xc, rfl, ex, rd, b0, b1, b2, b3, b4, b5, b6⟩ := ha.at 0 (by simp)
    have hn1 : 0 < n := by rw [← hn]; simp
    have k0 : (0 : Int) < (n : Int) := by omega
    have kn : ((n : Int) == 0) = false := by simp; omega
    have c0 : w.cell? ⟨g, 0, none⟩ = some (.int .i64 x.p.code) := by simpa using b0
    have c1 : w.cell? ⟨g, 1, none⟩ = some (.int .i64 x.p.arg) := by simpa using b1
    have B0 : Hid (Below w.heap.size w w) := Lib.hid (Below.refl _ _)
    have B1 : Hid (∀ X, Below w.heap.size w (w.alloc X)) := Lib.hid (fun X => (Below.refl _ _).alloc (Nat.le_refl _) X)
    have HV : Hid (varZ ((x :: r).map (·.p)) = if x.p.code = 13 ∨ x.p.code = 15 then x.p.arg else -1) := Lib.hid rfl
    obtain ⟨R, hR⟩ : ∃ R, varZ ((x :: r).map (·.p)) = R := ⟨_, rfl⟩
    rw [hR] at HV ⊢
    obtain ⟨co, hco⟩ : ∃ co, x.p.code = co := ⟨_, rfl⟩
    obtain ⟨ar, har⟩ : ∃ ar, x.p.arg = ar := ⟨_, rfl⟩
    rw [hco] at c0 HV
    rw [har] at c1 HV
    clear ha hn hR hco har ex rd b0 b1 b2 b3 b4 b5 b6
    by_cases h13 : co = 13
    · have HQ : Hid (ar = R) := Lib.hid (by have h := HV.out; rw [if_pos (.inl h13)] at h; exact h.symm)
      subst h13
      go_enter Try.func9, Try.ntmps9
      go_wp2
      go_ret
      exact ⟨ret_i8 HQ.out, by first | exact B0.out | exact B1.out _⟩
    · have q13 : (co != 13) = true := by simpa using h13
      by_cases h15 : co = 15
      · have HQ : Hid (ar = R) := Lib.hid (by have h := HV.out; rw [if_pos (.inr h15)] at h; exact h.symm)
        subst h15
        clear h13
        go_enter Try.func9, Try.ntmps9
        go_wp2
        go_ret
        exact ⟨ret_i8 HQ.out, by first | exact B0.out | exact B1.out _⟩
      · have q15 : (co != 15) = true := by simpa using h15
        have HQ : Hid (-1 = R) := Lib.hid (by have h := HV.out; rw [if_neg (by omega)] at h; exact h.symm)
        clear h13 h15
        go_enter Try.func9, Try.ntmps9
        go_wp2
        go_ret
        exact ⟨ret_i8 HQ.out, by first | exact B0.out | exact B1.out _⟩
set_option maxRecDepth 100000 in
set_option maxHeartbeats 1000000 in
theorem i_varW (a : Option Addr) (c n : Nat) (X : List VIt) (w : World) (ha : RowI w (.slice a n c) X) (hn : X.length = n) (hl : n ≤ 4194304) :
    Calls Try.prog 11 #[.slice a n c] w fun e w' => e = .returned (.int .i64 (varZ (X.map (·.p)))) ∧ Below w.heap.size w w' := by
  cases X with
  | nil =>
    obtain rfl : 0 = n := hn
    clear ha
    go_enter Try.func11, Try.ntmps11
    go_wp2
    go_ret
    exact ⟨rfl, Below.refl _ _⟩
  | cons x r =>
    obtain ⟨g, xa, xc, rfl, ex, rd, b0, b1, b2, b3, b4, b5, b6⟩ := ha.at 0 (by simp)
    have hn1 : 0 < n := by rw [← hn]; simp
    have k0 : (0 : Int) < (n : Int) := by omega
    have kn : ((n : Int) == 0) = false := by simp; omega
    have c0 : w.cell? ⟨g, 0, none⟩ = some (.int .i64 x.p.code) := by simpa using b0
    have c1 : w.cell? ⟨g, 1, none⟩ = some (.int .i64 x.p.arg) := by simpa using b1
    have B0 : Hid (Below w.heap.size w w) := Lib.hid (Below.refl _ _)
    have B1 : Hid (∀ X, Below w.heap.size w (w.alloc X)) := Lib.hid (fun X => (Below.refl _ _).alloc (Nat.le_refl _) X)
    have HV : Hid (varZ ((x :: r).map (·.p)) = if x.p.code = 13 ∨ x.p.code = 15 then x.p.arg else -1) := Lib.hid rfl
    obtain ⟨R, hR⟩ : ∃ R, varZ ((x :: r).map (·.p)) = R := ⟨_, rfl⟩
    rw [hR] at HV ⊢
    obtain ⟨co, hco⟩ : ∃ co, x.p.code = co := ⟨_, rfl⟩
    obtain ⟨ar, har⟩ : ∃ ar, x.p.arg = ar := ⟨_, rfl⟩
    rw [hco] at c0 HV
    rw [har] at c1 HV
    clear ha hn hR hco har ex rd b0 b1 b2 b3 b4 b5 b6
    by_cases h13 : co = 13
    · have HQ : Hid (ar = R) := Lib.hid (by have h := HV.out; rw [if_pos (.inl h13)] at h; exact h.symm)
      subst h13
      go_enter Try.func11, Try.ntmps11
      go_wp2
      go_ret
      exact ⟨ret_i8 HQ.out, by first | exact B0.out | exact B1.out _⟩
    · have q13 : (co != 13) = true := by simpa using h13
      by_cases h15 : co = 15
      · have HQ : Hid (ar = R) := Lib.hid (by have h := HV.out; rw [if_pos (.inr h15)] at h; exact h.symm)
        subst h15
        clear h13
        go_enter Try.func11, Try.ntmps11
        go_wp2
        go_ret
        exact ⟨ret_i8 HQ.out, by first | exact B0.out | exact B1.out _⟩
      · have q15 : (co != 15) = true := by simpa using h15
        have HQ : Hid (-1 = R) := Lib.hid (by have h := HV.out; rw [if_neg (by omega)] at h; exact h.symm)
        clear h13 h15
        go_enter Try.func11, Try.ntmps11
        go_wp2
        go_ret
        exact ⟨ret_i8 HQ.out, by first | exact B0.out | exact B1.out _⟩
end Go.Proofs.Ytbccejnkklopfaa
