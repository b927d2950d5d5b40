/- The program's EndOf, with the library's Contains on rows of numbers. -/
import Derived.Test.YtcffmdmdojkggaaDoorRows
import Derived.Test.YtcffmdmdojkggaaDoorPlainR
import Derived.Outline
import Derived.Lib.Hide
import Derived.WalkSmall
import Derived.Deep.QuietTactic
import Derived.BigQuiet
import Derived.Deep.RegionHeld3
import Derived.Deep.Cut
namespace Go.Proofs.YtcffmdmdojkggaaDoor
open Go.RowKit Go.Lib

/-- The first place of a number. -/
def ixI (l : List Int) (x : Int) : Int := match l.findIdx? (fun y => y == x) with
  | some j => (j : Int)
  | none => -1
theorem ixI_at (l : List Int) (x : Int) (j : Nat) (h : j < l.length) (hj : l[j] = x) (hno : ∀ i, ∀ h : i < j, l[i] ≠ x) : ixI l x = (j : Int) := by
  unfold ixI
  have : l.findIdx? (fun y => y == x) = some j := by
    rw [List.findIdx?_eq_some_iff_getElem]
    exact ⟨h, by simpa using hj, fun i hi => by simpa using hno i hi⟩
  rw [this]
theorem ixI_none (l : List Int) (x : Int) (h : x ∉ l) : ixI l x = -1 := by
  unfold ixI
  have : l.findIdx? (fun y => y == x) = none := by
    rw [List.findIdx?_eq_none_iff]
    intro y hy
    have : y ≠ x := fun e => h (e ▸ hy)
    simpa using this
  rw [this]
def memI (l : List Int) (x : Int) : Bool := l.contains x
theorem ixI_mem (l : List Int) (x : Int) : decide (0 ≤ ixI l x) = memI l x := by
  unfold ixI memI
  cases h : l.findIdx? (fun y => y == x) with
  | some j =>
    simp only
    rw [decide_eq_true (by omega)]
    obtain ⟨hj, hx, _⟩ := List.findIdx?_eq_some_iff_getElem.1 h
    have : x ∈ l := by
      have := List.getElem_mem hj
      rw [eq_of_beq hx] at this
      exact this
    exact (List.contains_iff_mem.2 this).symm
  | none =>
    simp only
    rw [List.findIdx?_eq_none_iff] at h
    cases hc : l.contains x with
    | false => rfl
    | true =>
      have := h x (List.contains_iff_mem.1 hc)
      simp at this

set_option maxHeartbeats 1000000 in
theorem x_indexI (a : Option Addr) (c : Nat) (l : List Int) (x : Int) (w : World) (hr : ReadI w a l) (hl : l.length ≤ 2000000) :
    Calls Tryd.prog 93 #[.slice a l.length c, .int .i64 x] w fun e w' => e = .returned (.int .i64 (ixI l x)) ∧ Below w.heap.size w w' := by
  have HR := Lib.hid hr
  clear hr
  go_enter Tryd.func93, Tryd.ntmps93
  go_wp2_with fail
  go_loopw [5, 8] (fun _ i wr => ∃ k : Nat, k ≤ l.length ∧ i = .int .i64 (k : Int) ∧ Hid (∀ j, ∀ h : j < l.length, j < k → l[j] ≠ x) ∧ Below w.heap.size w wr) (fun _ i _ => l.length - (RowKit.intOf i).toNat)
  case atStart => exact ⟨0, Nat.zero_le _, rfl, Lib.hid (fun j _ hj => by omega), Below.refl _ _⟩
  case round =>
    obtain ⟨k, hk, rfl, HNO, hbel⟩ := hrel
    have HB := Lib.hid hbel
    by_cases hlt : k < l.length
    · obtain ⟨g, rfl, hg, c0⟩ := (HR.out.below hbel) k hlt
      have k0 : (0 : Int) ≤ (k : Int) := by omega
      have k1 : (k : Int) < (l.length : Int) := by omega
      clear hbel
      by_cases hx : l[k] = x
      · have HV := Lib.hid (ixI_at l x k hlt hx (fun i hi => HNO.out i (by omega) hi))
        rw [hx] at c0
        have hd : (x == x) = true := by simp
        clear hx
        go_wp2
        go_ret
        exact ⟨by rw [HV.out]; rfl, HB.out⟩
      · have HNN : Hid (∀ j, ∀ h : j < l.length, j < k + 1 → l[j] ≠ x) := Lib.hid (fun j h hj => by
          by_cases hjk : j = k
          · subst hjk; exact hx
          · exact HNO.out j h (by omega))
        have hd : (x == l[k]) = false := by simpa using fun e => hx e.symm
        obtain ⟨y, hy⟩ : ∃ y, l[k] = y := ⟨_, rfl⟩
        rw [hy] at c0 hd
        clear hy hx HNO
        go_wp2
        go_roundw
        case rel => exact ⟨k + 1, by omega, by go_num, HNN, HB.out⟩
        case measure => simp [RowKit.intOf]; omega
    · have hkk : k = l.length := by omega
      have HV := Lib.hid (ixI_none l x (fun hm => by
        obtain ⟨j, hj, e⟩ := List.mem_iff_getElem.1 hm
        exact HNO.out j hj (by omega) e))
      subst hkk
      clear hbel hlt
      go_wp2
      go_ret
      exact ⟨by rw [HV.out]; rfl, HB.out⟩
theorem x_containsI (a : Option Addr) (c : Nat) (l : List Int) (x : Int) (w : World) (hr : ReadI w a l) (hl : l.length ≤ 2000000) :
    Calls Tryd.prog 87 #[.slice a l.length c, .int .i64 x] w fun e w' => e = .returned (.bool (memI l x)) ∧ Below w.heap.size w w' := by
  have HC := Lib.hid (x_indexI a c l x w hr hl)
  have HM := Lib.hid (ixI_mem l x)
  clear hr
  go_enter Tryd.func87, Tryd.ntmps87
  go_wp2_with fail
  refine HC.out.mono ?_
  rintro e w1 ⟨rfl, b1⟩
  have HB := Lib.hid b1
  clear b1
  generalize ixI l x = r at *
  go_wp2
  go_ret
  exact ⟨ret_b HM.out, HB.out⟩
theorem i_opened (k : Int) (nm : ByteArray) (va ve : Value) (w : World) : Calls Tryd.prog 54 #[.agg #[.int .i64 k, .string nm, va, ve]] w fun e w' => e = .returned (.int .i64 (opn k)) ∧ Below w.heap.size w w' := by
  have X0 := heap_alloc_new w (.cells #[.int .i64 k, .string nm, va, ve] 39)
  have e0 : (w.alloc (.cells #[.int .i64 k, .string nm, va, ve] 39)).cell? ⟨w.heap.size, 0, none⟩ = some (.int .i64 k) := (blk X0).1 0 _ rfl
  have HB : Hid (Below w.heap.size w (w.alloc (.cells #[.int .i64 k, .string nm, va, ve] 39))) := Lib.hid ((Below.refl _ _).alloc (Nat.le_refl _) _)
  clear X0
  by_cases h0 : k = 0
  · subst h0
    go_enter Tryd.func54, Tryd.ntmps54
    go_wp2
    go_ret
    exact ⟨rfl, HB.out⟩
  by_cases h3 : k = 3
  · subst h3
    go_enter Tryd.func54, Tryd.ntmps54
    go_wp2
    go_ret
    exact ⟨rfl, HB.out⟩
  by_cases h5 : k = 5
  · subst h5
    go_enter Tryd.func54, Tryd.ntmps54
    go_wp2
    go_ret
    exact ⟨rfl, HB.out⟩
  by_cases h7 : k = 7
  · subst h7
    go_enter Tryd.func54, Tryd.ntmps54
    go_wp2
    go_ret
    exact ⟨rfl, HB.out⟩
  have a0 : (k == 0) = false := by simpa using h0
  have a3 : (k == 3) = false := by simpa using h3
  have a5 : (k == 5) = false := by simpa using h5
  have a7 : (k == 7) = false := by simpa using h7
  have HV : Hid (opn k = 0) := Lib.hid (by unfold opn isOp; rw [a0, a3, a5]; simp [h7])
  clear h0 h3 h5 h7
  go_enter Tryd.func54, Tryd.ntmps54
  go_wp2
  go_ret
  exact ⟨by rw [HV.out]; rfl, HB.out⟩
end Go.Proofs.YtcffmdmdojkggaaDoor
