/- The place of a text in a row of texts, the model's and the library's. -/
import Derived.Test.YtcffmdmdojkggaaDoorBeSpec
import Derived.Test.YtcffmdmdojkggaaDoorBeImpl
namespace Go.Proofs.YtcffmdmdojkggaaDoor
open Go.RowKit Go.Lib

/-- The first place of a text. -/
def ixS (l : List ByteArray) (x : ByteArray) : Int := match l.findIdx? (fun y => decide (y = x)) with
  | some j => (j : Int)
  | none => -1
theorem ixS_at (l : List ByteArray) (x : ByteArray) (j : Nat) (h : j < l.length) (hj : l[j] = x) (hno : ∀ i, ∀ h : i < j, l[i] ≠ x) : ixS l x = (j : Int) := by
  unfold ixS
  have : l.findIdx? (fun y => decide (y = x)) = some j := by
    rw [List.findIdx?_eq_some_iff_getElem]
    exact ⟨h, decide_eq_true hj, fun i hi => by simpa using hno i hi⟩
  rw [this]
theorem ixS_none (l : List ByteArray) (x : ByteArray) (h : x ∉ l) : ixS l x = -1 := by
  unfold ixS
  have : l.findIdx? (fun y => decide (y = x)) = none := by
    rw [List.findIdx?_eq_none_iff]
    intro y hy
    have : y ≠ x := fun e => h (e ▸ hy)
    exact decide_eq_false this
  rw [this]
theorem ixS_mem (l : List ByteArray) (x : ByteArray) : decide (0 ≤ ixS l x) = memB l x := by
  by_cases h : x ∈ l
  · rw [(memB_iff l x).2 h]
    unfold ixS
    cases hf : l.findIdx? (fun y => decide (y = x)) with
    | some j => exact decide_eq_true (by simp only; omega)
    | none =>
      rw [List.findIdx?_eq_none_iff] at hf
      have := hf x h
      simp at this
  · rw [memB_no l x h, ixS_none l x h]
    rfl
theorem ixS_lt (l : List ByteArray) (x : ByteArray) : decide (ixS l x < 0) = !memB l x := by
  rw [← ixS_mem]
  by_cases h : 0 ≤ ixS l x
  · rw [decide_eq_true h, decide_eq_false (by omega)]; rfl
  · rw [decide_eq_false h, decide_eq_true (by omega)]; rfl

set_option maxHeartbeats 1000000 in
theorem s_l04Index (a : Option Addr) (c : Nat) (l : List ByteArray) (x : ByteArray) (w : World) (hr : ReadS w a l) (hl : l.length ≤ 3000000) :
    Calls Tryd.prog 43 #[.slice a l.length c, .string x] w fun e w' => e = .returned (.int .i64 (ixS l x)) ∧ Below w.heap.size w w' := by
  have HR := Lib.hid hr
  clear hr
  go_enter Tryd.func43, Tryd.ntmps43
  go_wp2_with fail
  go_loopw [5] (fun i wr => ∃ k : Nat, k ≤ l.length ∧ i = .int .i64 (k : Int) ∧ Hid (∀ j, ∀ h : j < l.length, j < k → l[j] ≠ x) ∧ Below w.heap.size w wr) (fun i _ => l.length - (RowKit.intOf i).toNat)
  case atStart => exact ⟨0, Nat.zero_le _, rfl, Lib.hid (fun j _ hj => by omega), Below.refl _ _⟩
  case round =>
    obtain ⟨k, hk, rfl, HNO, hbel⟩ := hrel
    have HB := Lib.hid hbel
    by_cases hlt : k < l.length
    · obtain ⟨g, rfl, c0⟩ := (HR.out.below hbel) k hlt
      have k0 : (0 : Int) ≤ (k : Int) := by omega
      have k1 : (k : Int) < (l.length : Int) := by omega
      clear hbel
      by_cases hx : l[k] = x
      · have HV := Lib.hid (ixS_at l x k hlt hx (fun i hi => HNO.out i (by omega) hi))
        rw [hx] at c0
        clear hx
        go_wp2
        go_ret
        exact ⟨by rw [HV.out]; rfl, HB.out⟩
      · have HNN : Hid (∀ j, ∀ h : j < l.length, j < k + 1 → l[j] ≠ x) := Lib.hid (fun j h hj => by
          by_cases hjk : j = k
          · subst hjk; exact hx
          · exact HNO.out j h (by omega))
        have hd := str_ne _ _ hx
        obtain ⟨y, hy⟩ : ∃ y, l[k] = y := ⟨_, rfl⟩
        rw [hy] at c0 hd
        clear hy hx HNO
        go_wp2
        go_roundw
        case rel => exact ⟨k + 1, by omega, by go_num, HNN, HB.out⟩
        case measure => simp [RowKit.intOf]; omega
    · have hkk : k = l.length := by omega
      have HV := Lib.hid (ixS_none l x (fun hm => by
        obtain ⟨j, hj, e⟩ := List.mem_iff_getElem.1 hm
        exact HNO.out j hj (by omega) e))
      subst hkk
      clear hbel hlt
      go_wp2
      go_ret
      exact ⟨by rw [HV.out]; rfl, HB.out⟩

set_option maxHeartbeats 1000000 in
theorem x_indexS (a : Option Addr) (c : Nat) (l : List ByteArray) (x : ByteArray) (w : World) (hr : ReadS w a l) (hl : l.length ≤ 3000000) :
    Calls Tryd.prog 88 #[.slice a l.length c, .string x] w fun e w' => e = .returned (.int .i64 (ixS l x)) ∧ Below w.heap.size w w' := by
  have HR := Lib.hid hr
  clear hr
  go_enter Tryd.func88, Tryd.ntmps88
  go_wp2_with fail
  go_loopw [5, 8] (fun _ i wr => ∃ k : Nat, k ≤ l.length ∧ i = .int .i64 (k : Int) ∧ Hid (∀ j, ∀ h : j < l.length, j < k → l[j] ≠ x) ∧ Below w.heap.size w wr) (fun _ i _ => l.length - (RowKit.intOf i).toNat)
  case atStart => exact ⟨0, Nat.zero_le _, rfl, Lib.hid (fun j _ hj => by omega), Below.refl _ _⟩
  case round =>
    obtain ⟨k, hk, rfl, HNO, hbel⟩ := hrel
    have HB := Lib.hid hbel
    by_cases hlt : k < l.length
    · obtain ⟨g, rfl, c0⟩ := (HR.out.below hbel) k hlt
      have k0 : (0 : Int) ≤ (k : Int) := by omega
      have k1 : (k : Int) < (l.length : Int) := by omega
      clear hbel
      by_cases hx : l[k] = x
      · have HV := Lib.hid (ixS_at l x k hlt hx (fun i hi => HNO.out i (by omega) hi))
        rw [hx] at c0
        clear hx
        go_wp2
        go_ret
        exact ⟨by rw [HV.out]; rfl, HB.out⟩
      · have HNN : Hid (∀ j, ∀ h : j < l.length, j < k + 1 → l[j] ≠ x) := Lib.hid (fun j h hj => by
          by_cases hjk : j = k
          · subst hjk; exact hx
          · exact HNO.out j h (by omega))
        have hd := str_ne x l[k] (fun e => hx e.symm)
        obtain ⟨y, hy⟩ : ∃ y, l[k] = y := ⟨_, rfl⟩
        rw [hy] at c0 hd
        clear hy hx HNO
        go_wp2
        go_roundw
        case rel => exact ⟨k + 1, by omega, by go_num, HNN, HB.out⟩
        case measure => simp [RowKit.intOf]; omega
    · have hkk : k = l.length := by omega
      have HV := Lib.hid (ixS_none l x (fun hm => by
        obtain ⟨j, hj, e⟩ := List.mem_iff_getElem.1 hm
        exact HNO.out j hj (by omega) e))
      subst hkk
      clear hbel hlt
      go_wp2
      go_ret
      exact ⟨by rw [HV.out]; rfl, HB.out⟩
theorem x_containsS (a : Option Addr) (c : Nat) (l : List ByteArray) (x : ByteArray) (w : World) (hr : ReadS w a l) (hl : l.length ≤ 3000000) :
    Calls Tryd.prog 75 #[.slice a l.length c, .string x] w fun e w' => e = .returned (.bool (memB l x)) ∧ Below w.heap.size w w' := by
  have HC := Lib.hid (x_indexS a c l x w hr hl)
  have HM := Lib.hid (ixS_mem l x)
  clear hr
  go_enter Tryd.func75, Tryd.ntmps75
  go_wp2_with fail
  refine HC.out.mono ?_
  rintro e w1 ⟨rfl, b1⟩
  have HB := Lib.hid b1
  clear b1
  generalize ixS l x = r at *
  go_wp2
  go_ret
  exact ⟨ret_b HM.out, HB.out⟩
end Go.Proofs.YtcffmdmdojkggaaDoor
