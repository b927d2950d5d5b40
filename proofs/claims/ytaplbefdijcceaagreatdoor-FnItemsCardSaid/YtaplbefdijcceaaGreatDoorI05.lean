/- The model's EndOf; The program's EndOf, with the library's Contains on rows of numbers; The place of a text in a row of texts, the model's and the library's. -/
import Derived.Test.YtaplbefdijcceaaGreatDoorRows
import Derived.Test.YtaplbefdijcceaaGreatDoorI01
import Derived.Outline
import Derived.Lib.Hide
import Derived.WalkSmall
import Derived.Deep.QuietTactic
import Derived.BigQuiet
import Derived.Deep.RegionHeld3
import Derived.Deep.Cut
namespace Go.Proofs.YtaplbefdijcceaaGreatDoor
open Go.RowKit Go.Lib
set_option maxHeartbeats 400000 in
theorem s_opens (k : Int) (w : World) : Calls Tryz.prog 52 #[.int .i64 k] w fun e w' => e = .returned (.bool (isOp k)) ∧ w = w' := by
  by_cases h0 : k = 0
  · subst h0
    go_enter Tryz.func52, Tryz.ntmps52
    go_wp2
    go_ret
    exact ⟨ret_b rfl, rfl⟩
  by_cases h3 : k = 3
  · subst h3
    go_enter Tryz.func52, Tryz.ntmps52
    go_wp2
    go_ret
    exact ⟨ret_b rfl, rfl⟩
  have a0 : (k == 0) = false := by simpa using h0
  have a3 : (k == 3) = false := by simpa using h3
  by_cases h5 : k = 5
  · subst h5
    go_enter Tryz.func52, Tryz.ntmps52
    go_wp2
    go_ret
    exact ⟨ret_b rfl, rfl⟩
  have a5 : (k == 5) = false := by simpa using h5
  have HV : Hid (isOp k = false) := hid (by unfold isOp; rw [a0, a3, a5]; rfl)
  clear h0 h3 h5
  go_enter Tryz.func52, Tryz.ntmps52
  go_wp2
  go_ret
  exact ⟨ret_b HV.out.symm, rfl⟩
theorem int_nat (k : Int) (n : Nat) (h0 : 0 ≤ k) (h1 : k < (n : Int)) : ∃ j : Nat, k = (j : Int) ∧ j < n := ⟨k.toNat, by omega, by omega⟩
theorem beZ_neg (p : List PLine) (k : Int) (h : k < 0) : beZ p k = -1 := beZ_not p k (fun hc => by omega)
theorem beZ_big (p : List PLine) (k : Int) (h : (p.length : Int) ≤ k) : beZ p k = -1 := beZ_not p k (fun hc => by omega)
theorem beZ_no (p : List PLine) (k : Nat) (hl : k < p.length) (h : isOp p[k].kind = false) : beZ p (k : Int) = -1 := beZ_not p k (fun hc => by
  have := hc.2.2
  rw [lkZ_at p k hl, h] at this
  cases this)
theorem beZ_from (p : List PLine) (k : Nat) (hl : k < p.length) (h : isOp p[k].kind = true) : beZ p (k : Int) = endF 0 k (p.drop k) := by
  unfold beZ
  rw [if_pos ⟨by omega, by simpa using hl, by rw [lkZ_at p k hl]; exact h⟩, Int.toNat_natCast]
theorem pl_kind (X : List LnL) (j : Nat) (h : j < X.length) (h' : j < (plL X).length) : (plL X)[j].kind = X[j].kind := by rw [plL_get X j h]; rfl
set_option maxRecDepth 100000 in
set_option maxHeartbeats 2000000 in
theorem s_endOf (a : Option Addr) (cap : Nat) (X : List LnL) (k : Int) (w : World) (hl : X.length ≤ 2000000) (hr : ReadL 9 49 w a X) :
    Calls Tryz.prog 14 #[.slice a X.length cap, .int .i64 k] w fun e w' => e = .returned (.int .i64 (beZ (plL X) k)) ∧ Below w.heap.size w w' := by
  have HR := hid hr
  have hpl := plL_length X
  clear hr
  by_cases hneg : k < 0
  · have HV := hid (beZ_neg (plL X) k hneg)
    have hd : decide (k < 0) = true := decide_eq_true hneg
    clear hpl
    go_enter Tryz.func14, Tryz.ntmps14
    go_wp2
    go_ret
    exact ⟨by rw [HV.out]; rfl, Below.refl _ _⟩
  by_cases hbig : (X.length : Int) ≤ k
  · have HV := hid (beZ_big (plL X) k (by rw [hpl]; exact hbig))
    have hd : decide (k < 0) = false := decide_eq_false hneg
    have hd2 : decide ((X.length : Int) ≤ k) = true := decide_eq_true hbig
    clear hpl
    go_enter Tryz.func14, Tryz.ntmps14
    go_wp2
    go_ret
    exact ⟨by rw [HV.out]; rfl, Below.refl _ _⟩
  obtain ⟨j, rfl, hj⟩ := int_nat k X.length (by omega) (by omega)
  have hjp : j < (plL X).length := by omega
  obtain ⟨g, rfl, hg, ⟨c0, _, _, _⟩, _⟩ := HR.out j hj
  have k0 : (0 : Int) ≤ (j : Int) := by omega
  have k1 : (j : Int) < (X.length : Int) := by omega
  have k2 : ¬ (X.length : Int) ≤ (j : Int) := by omega
  by_cases hop : isOp X[j].kind = true
  · have HV : Hid (beZ (plL X) (j : Int) = endF 0 j ((plL X).drop j)) := hid (beZ_from (plL X) j hjp (by rw [pl_kind X j hj]; exact hop))
    have HOP : Hid (∀ W, Calls Tryz.prog 52 #[.int .i64 X[j].kind] W fun e w' => e = .returned (.bool true) ∧ W = w') := hid (fun W => hop ▸ s_opens X[j].kind W)
    obtain ⟨kd, hkd⟩ : ∃ kd, X[j].kind = kd := ⟨_, rfl⟩
    rw [hkd] at c0 HOP
    clear hkd hop hneg hbig
    go_enter Tryz.func14, Tryz.ntmps14
    go_wp2_with (first | (go_at_call 52; refine (HOP.out _).mono ?_; rintro e w' ⟨rfl, rfl⟩))
    clear c0 HOP
    go_loopw [5, 6] (fun o i wr => ∃ (q : Nat) (z : Int), j ≤ q ∧ q ≤ X.length ∧ i = .int .i64 (q : Int) ∧ o = .int .i64 z ∧ -(q : Int) ≤ z ∧ z ≤ (q : Int) ∧ Hid (endF z q ((plL X).drop q) = endF 0 j ((plL X).drop j)) ∧ Below w.heap.size w wr) (fun _ i _ => X.length - (RowKit.intOf i).toNat)
    case atStart => exact ⟨j, 0, Nat.le_refl _, by omega, rfl, rfl, by omega, by omega, hid rfl, Below.refl _ _⟩
    case round =>
      obtain ⟨q, z, hjq, hq, rfl, rfl, hz1, hz2, HE, hbel⟩ := hrel
      have HB := hid hbel
      by_cases hlt : q < X.length
      · obtain ⟨g', hga, hg', ⟨c0, _, _, _⟩, _⟩ := (HR.out.below hbel) q hlt
        injection hga with hga
        injection hga with hga
        subst hga
        have hqp : q < (plL X).length := by omega
        have HN := hid (endF_at (plL X) z q hqp)
        rw [pl_kind X q hlt] at HN
        have HOP := hid (fun W => s_opens X[q].kind W)
        have HC := hid (opn_cases X[q].kind)
        obtain ⟨kd, hkd⟩ : ∃ kd, X[q].kind = kd := ⟨_, rfl⟩
        rw [hkd] at c0 HN HOP HC
        have k3 : (0 : Int) ≤ (q : Int) := by omega
        have k4 : (q : Int) < (X.length : Int) := by omega
        clear hkd hbel
        rcases HC.out with ⟨h1, h2⟩ | ⟨h1, h2⟩ | ⟨h1, h2, h3⟩
        · rw [h1] at HN
          rw [h2] at HOP
          have h7 : (kd == 7) = false := by
            cases hb : kd == 7 with
            | false => rfl
            | true => rw [eq_of_beq hb] at h2; exact absurd h2 (by decide)
          clear h1 h2 HC
          by_cases h0 : z + 1 = 0
          · have HN' := hid (HN.out.symm.trans HE.out)
            rw [if_pos h0] at HN'
            have hz : z = -1 := by omega
            subst hz
            clear h0
            go_wp2_with (first | (go_at_call 52; refine (HOP.out _).mono ?_; rintro e w' ⟨rfl, rfl⟩))
            go_ret
            exact ⟨by rw [HV.out, ← HN'.out]; rfl, HB.out⟩
          · have HN' := hid (HN.out.symm.trans HE.out)
            rw [if_neg h0] at HN'
            have hd : (z + 1 == 0) = false := by simpa using h0
            clear h0
            go_wp2_with (first | (go_at_call 52; refine (HOP.out _).mono ?_; rintro e w' ⟨rfl, rfl⟩))
            go_roundw
            case rel => exact ⟨q + 1, z + 1, by omega, by omega, by go_num, by go_num, by omega, by omega, HN', HB.out⟩
            case measure => simp [RowKit.intOf]; omega
        · subst h2
          rw [h1] at HN
          have HOP2 : Hid (∀ W, Calls Tryz.prog 52 #[.int .i64 7] W fun e w' => e = .returned (.bool false) ∧ W = w') := hid (fun W => s_opens 7 W)
          clear h1 HC HOP
          by_cases h0 : z + -1 = 0
          · have HN' := hid (HN.out.symm.trans HE.out)
            rw [if_pos h0] at HN'
            have hz : z = 1 := by omega
            subst hz
            clear h0
            go_wp2_with (first | (go_at_call 52; refine (HOP2.out _).mono ?_; rintro e w' ⟨rfl, rfl⟩))
            go_ret
            exact ⟨by rw [HV.out, ← HN'.out]; rfl, HB.out⟩
          · have HN' := hid (HN.out.symm.trans HE.out)
            rw [if_neg h0] at HN'
            have hd : (z - 1 == 0) = false := by simp; omega
            clear h0
            go_wp2_with (first | (go_at_call 52; refine (HOP2.out _).mono ?_; rintro e w' ⟨rfl, rfl⟩))
            go_roundw
            case rel => exact ⟨q + 1, z + -1, by omega, by omega, by go_num, by go_num, by omega, by omega, HN', HB.out⟩
            case measure => simp [RowKit.intOf]; omega
        · rw [h1, Int.add_zero] at HN
          rw [h2] at HOP
          have h7 : (kd == 7) = false := by simpa using h3
          clear h1 h2 h3 HC
          by_cases h0 : z = 0
          · have HN' := hid (HN.out.symm.trans HE.out)
            rw [if_pos h0] at HN'
            subst h0
            go_wp2_with (first | (go_at_call 52; refine (HOP.out _).mono ?_; rintro e w' ⟨rfl, rfl⟩))
            go_ret
            exact ⟨by rw [HV.out, ← HN'.out]; rfl, HB.out⟩
          · have HN' := hid (HN.out.symm.trans HE.out)
            rw [if_neg h0] at HN'
            have hd : (z == 0) = false := by simpa using h0
            clear h0
            go_wp2_with (first | (go_at_call 52; refine (HOP.out _).mono ?_; rintro e w' ⟨rfl, rfl⟩))
            go_roundw
            case rel => exact ⟨q + 1, z, by omega, by omega, by go_num, by go_num, by omega, by omega, HN', HB.out⟩
            case measure => simp [RowKit.intOf]; omega
      · have hqq : q = X.length := by omega
        subst hqq
        have HN' : Hid (-1 = endF 0 j ((plL X).drop j)) := hid (by rw [← HE.out, endF_out _ _ _ (by omega)])
        clear hbel
        go_wp2
        go_ret
        exact ⟨by rw [HV.out, ← HN'.out]; rfl, HB.out⟩
  · have hop' : isOp X[j].kind = false := by simpa using hop
    have HV : Hid (beZ (plL X) (j : Int) = -1) := hid (beZ_no (plL X) j hjp (by rw [pl_kind X j hj]; exact hop'))
    have HOP : Hid (∀ W, Calls Tryz.prog 52 #[.int .i64 X[j].kind] W fun e w' => e = .returned (.bool false) ∧ W = w') := hid (fun W => hop' ▸ s_opens X[j].kind W)
    obtain ⟨kd, hkd⟩ : ∃ kd, X[j].kind = kd := ⟨_, rfl⟩
    rw [hkd] at c0 HOP
    clear hkd hop hop' hneg hbig hpl
    go_enter Tryz.func14, Tryz.ntmps14
    go_wp2_with (first | (go_at_call 52; refine (HOP.out _).mono ?_; rintro e w' ⟨rfl, rfl⟩))
    go_ret
    exact ⟨by rw [HV.out]; rfl, Below.refl _ _⟩
end Go.Proofs.YtaplbefdijcceaaGreatDoor

namespace Go.Proofs.YtaplbefdijcceaaGreatDoor
open Go.RowKit Go.Lib
def ixI (l : List Int) (x : Int) : Int := match l.findIdx? (fun y => y == x) with
  | some j => (j : Int)
  | none => -1
theorem ixI_at (l : List Int) (x : Int) (j : Nat) (h : j < l.length) (hj : l[j] = x) (hno : ∀ i, ∀ h : i < j, l[i] ≠ x) : ixI l x = (j : Int) := by
  unfold ixI
  have : l.findIdx? (fun y => y == x) = some j := by
    rw [List.findIdx?_eq_some_iff_getElem]
    exact ⟨h, by simpa using hj, fun i hi => by simpa using hno i hi⟩
  rw [this]
theorem ixI_none (l : List Int) (x : Int) (h : x ∉ l) : ixI l x = -1 := by
  unfold ixI
  have : l.findIdx? (fun y => y == x) = none := by
    rw [List.findIdx?_eq_none_iff]
    intro y hy
    have : y ≠ x := fun e => h (e ▸ hy)
    simpa using this
  rw [this]
def memI (l : List Int) (x : Int) : Bool := l.contains x
theorem ixI_mem (l : List Int) (x : Int) : decide (0 ≤ ixI l x) = memI l x := by
  unfold ixI memI
  cases h : l.findIdx? (fun y => y == x) with
  | some j =>
    simp only
    rw [decide_eq_true (by omega)]
    obtain ⟨hj, hx, _⟩ := List.findIdx?_eq_some_iff_getElem.1 h
    have : x ∈ l := by
      have := List.getElem_mem hj
      rw [eq_of_beq hx] at this
      exact this
    exact (List.contains_iff_mem.2 this).symm
  | none =>
    simp only
    rw [List.findIdx?_eq_none_iff] at h
    cases hc : l.contains x with
    | false => rfl
    | true =>
      have := h x (List.contains_iff_mem.1 hc)
      simp at this
set_option maxHeartbeats 1000000 in
theorem x_indexI (a : Option Addr) (c : Nat) (l : List Int) (x : Int) (w : World) (hr : ReadI w a l) (hl : l.length ≤ 2000000) :
    Calls Tryz.prog 173 #[.slice a l.length c, .int .i64 x] w fun e w' => e = .returned (.int .i64 (ixI l x)) ∧ Below w.heap.size w w' := by
  have HR := hid hr
  clear hr
  go_enter Tryz.func173, Tryz.ntmps173
  go_wp2_with fail
  go_loopw [5, 8] (fun _ i wr => ∃ k : Nat, k ≤ l.length ∧ i = .int .i64 (k : Int) ∧ Hid (∀ j, ∀ h : j < l.length, j < k → l[j] ≠ x) ∧ Below w.heap.size w wr) (fun _ i _ => l.length - (RowKit.intOf i).toNat)
  case atStart => exact ⟨0, Nat.zero_le _, rfl, hid (fun j _ hj => by omega), Below.refl _ _⟩
  case round =>
    obtain ⟨k, hk, rfl, HNO, hbel⟩ := hrel
    have HB := hid hbel
    by_cases hlt : k < l.length
    · obtain ⟨g, rfl, hg, c0⟩ := (HR.out.below hbel) k hlt
      have k0 : (0 : Int) ≤ (k : Int) := by omega
      have k1 : (k : Int) < (l.length : Int) := by omega
      clear hbel
      by_cases hx : l[k] = x
      · have HV := hid (ixI_at l x k hlt hx (fun i hi => HNO.out i (by omega) hi))
        rw [hx] at c0
        have hd : (x == x) = true := by simp
        clear hx
        go_wp2
        go_ret
        exact ⟨by rw [HV.out]; rfl, HB.out⟩
      · have HNN : Hid (∀ j, ∀ h : j < l.length, j < k + 1 → l[j] ≠ x) := hid (fun j h hj => by
          by_cases hjk : j = k
          · subst hjk; exact hx
          · exact HNO.out j h (by omega))
        have hd : (x == l[k]) = false := by simpa using fun e => hx e.symm
        obtain ⟨y, hy⟩ : ∃ y, l[k] = y := ⟨_, rfl⟩
        rw [hy] at c0 hd
        clear hy hx HNO
        go_wp2
        go_roundw
        case rel => exact ⟨k + 1, by omega, by go_num, HNN, HB.out⟩
        case measure => simp [RowKit.intOf]; omega
    · have hkk : k = l.length := by omega
      have HV := hid (ixI_none l x (fun hm => by
        obtain ⟨j, hj, e⟩ := List.mem_iff_getElem.1 hm
        exact HNO.out j hj (by omega) e))
      subst hkk
      clear hbel hlt
      go_wp2
      go_ret
      exact ⟨by rw [HV.out]; rfl, HB.out⟩
theorem x_containsI (a : Option Addr) (c : Nat) (l : List Int) (x : Int) (w : World) (hr : ReadI w a l) (hl : l.length ≤ 2000000) :
    Calls Tryz.prog 141 #[.slice a l.length c, .int .i64 x] w fun e w' => e = .returned (.bool (memI l x)) ∧ Below w.heap.size w w' := by
  have HC := hid (x_indexI a c l x w hr hl)
  have HM := hid (ixI_mem l x)
  clear hr
  go_enter Tryz.func141, Tryz.ntmps141
  go_wp2_with fail
  refine HC.out.mono ?_
  rintro e w1 ⟨rfl, b1⟩
  have HB := hid b1
  clear b1
  generalize ixI l x = r at *
  go_wp2
  go_ret
  exact ⟨ret_b HM.out, HB.out⟩
theorem i_opened (k : Int) (nm : ByteArray) (va ve : Value) (w : World) : Calls Tryz.prog 136 #[.agg #[.int .i64 k, .string nm, va, ve]] w fun e w' => e = .returned (.int .i64 (opn k)) ∧ Below w.heap.size w w' := by
  have X0 := heap_alloc_new w (.cells #[.int .i64 k, .string nm, va, ve] 42)
  have e0 : (w.alloc (.cells #[.int .i64 k, .string nm, va, ve] 42)).cell? ⟨w.heap.size, 0, none⟩ = some (.int .i64 k) := (blk X0).1 0 _ rfl
  have HB : Hid (Below w.heap.size w (w.alloc (.cells #[.int .i64 k, .string nm, va, ve] 42))) := hid ((Below.refl _ _).alloc (Nat.le_refl _) _)
  clear X0
  by_cases h0 : k = 0
  · subst h0
    go_enter Tryz.func136, Tryz.ntmps136
    go_wp2
    go_ret
    exact ⟨rfl, HB.out⟩
  by_cases h3 : k = 3
  · subst h3
    go_enter Tryz.func136, Tryz.ntmps136
    go_wp2
    go_ret
    exact ⟨rfl, HB.out⟩
  by_cases h5 : k = 5
  · subst h5
    go_enter Tryz.func136, Tryz.ntmps136
    go_wp2
    go_ret
    exact ⟨rfl, HB.out⟩
  by_cases h7 : k = 7
  · subst h7
    go_enter Tryz.func136, Tryz.ntmps136
    go_wp2
    go_ret
    exact ⟨rfl, HB.out⟩
  have a0 : (k == 0) = false := by simpa using h0
  have a3 : (k == 3) = false := by simpa using h3
  have a5 : (k == 5) = false := by simpa using h5
  have a7 : (k == 7) = false := by simpa using h7
  have HV : Hid (opn k = 0) := hid (by unfold opn isOp; rw [a0, a3, a5]; simp [h7])
  clear h0 h3 h5 h7
  go_enter Tryz.func136, Tryz.ntmps136
  go_wp2
  go_ret
  exact ⟨by rw [HV.out]; rfl, HB.out⟩
end Go.Proofs.YtaplbefdijcceaaGreatDoor

namespace Go.Proofs.YtaplbefdijcceaaGreatDoor
open Go.RowKit Go.Lib
def ixS (l : List ByteArray) (x : ByteArray) : Int := match l.findIdx? (fun y => decide (y = x)) with
  | some j => (j : Int)
  | none => -1
theorem ixS_at (l : List ByteArray) (x : ByteArray) (j : Nat) (h : j < l.length) (hj : l[j] = x) (hno : ∀ i, ∀ h : i < j, l[i] ≠ x) : ixS l x = (j : Int) := by
  unfold ixS
  have : l.findIdx? (fun y => decide (y = x)) = some j := by
    rw [List.findIdx?_eq_some_iff_getElem]
    exact ⟨h, decide_eq_true hj, fun i hi => by simpa using hno i hi⟩
  rw [this]
theorem ixS_none (l : List ByteArray) (x : ByteArray) (h : x ∉ l) : ixS l x = -1 := by
  unfold ixS
  have : l.findIdx? (fun y => decide (y = x)) = none := by
    rw [List.findIdx?_eq_none_iff]
    intro y hy
    have : y ≠ x := fun e => h (e ▸ hy)
    exact decide_eq_false this
  rw [this]
theorem ixS_mem (l : List ByteArray) (x : ByteArray) : decide (0 ≤ ixS l x) = memB l x := by
  by_cases h : x ∈ l
  · rw [(memB_iff l x).2 h]
    unfold ixS
    cases hf : l.findIdx? (fun y => decide (y = x)) with
    | some j => exact decide_eq_true (by simp only; omega)
    | none =>
      rw [List.findIdx?_eq_none_iff] at hf
      have := hf x h
      simp at this
  · rw [memB_no l x h, ixS_none l x h]
    rfl
theorem ixS_lt (l : List ByteArray) (x : ByteArray) : decide (ixS l x < 0) = !memB l x := by
  rw [← ixS_mem]
  by_cases h : 0 ≤ ixS l x
  · rw [decide_eq_true h, decide_eq_false (by omega)]; rfl
  · rw [decide_eq_false h, decide_eq_true (by omega)]; rfl
set_option maxHeartbeats 1000000 in
theorem s_l04Index (a : Option Addr) (c : Nat) (l : List ByteArray) (x : ByteArray) (w : World) (hr : ReadS w a l) (hl : l.length ≤ 3000000) :
    Calls Tryz.prog 94 #[.slice a l.length c, .string x] w fun e w' => e = .returned (.int .i64 (ixS l x)) ∧ Below w.heap.size w w' := by
  have HR := hid hr
  clear hr
  go_enter Tryz.func94, Tryz.ntmps94
  go_wp2_with fail
  go_loopw [5] (fun i wr => ∃ k : Nat, k ≤ l.length ∧ i = .int .i64 (k : Int) ∧ Hid (∀ j, ∀ h : j < l.length, j < k → l[j] ≠ x) ∧ Below w.heap.size w wr) (fun i _ => l.length - (RowKit.intOf i).toNat)
  case atStart => exact ⟨0, Nat.zero_le _, rfl, hid (fun j _ hj => by omega), Below.refl _ _⟩
  case round =>
    obtain ⟨k, hk, rfl, HNO, hbel⟩ := hrel
    have HB := hid hbel
    by_cases hlt : k < l.length
    · obtain ⟨g, rfl, c0⟩ := (HR.out.below hbel) k hlt
      have k0 : (0 : Int) ≤ (k : Int) := by omega
      have k1 : (k : Int) < (l.length : Int) := by omega
      clear hbel
      by_cases hx : l[k] = x
      · have HV := hid (ixS_at l x k hlt hx (fun i hi => HNO.out i (by omega) hi))
        rw [hx] at c0
        clear hx
        go_wp2
        go_ret
        exact ⟨by rw [HV.out]; rfl, HB.out⟩
      · have HNN : Hid (∀ j, ∀ h : j < l.length, j < k + 1 → l[j] ≠ x) := hid (fun j h hj => by
          by_cases hjk : j = k
          · subst hjk; exact hx
          · exact HNO.out j h (by omega))
        have hd := str_ne _ _ hx
        obtain ⟨y, hy⟩ : ∃ y, l[k] = y := ⟨_, rfl⟩
        rw [hy] at c0 hd
        clear hy hx HNO
        go_wp2
        go_roundw
        case rel => exact ⟨k + 1, by omega, by go_num, HNN, HB.out⟩
        case measure => simp [RowKit.intOf]; omega
    · have hkk : k = l.length := by omega
      have HV := hid (ixS_none l x (fun hm => by
        obtain ⟨j, hj, e⟩ := List.mem_iff_getElem.1 hm
        exact HNO.out j hj (by omega) e))
      subst hkk
      clear hbel hlt
      go_wp2
      go_ret
      exact ⟨by rw [HV.out]; rfl, HB.out⟩
set_option maxHeartbeats 1000000 in
theorem x_indexS (a : Option Addr) (c : Nat) (l : List ByteArray) (x : ByteArray) (w : World) (hr : ReadS w a l) (hl : l.length ≤ 3000000) :
    Calls Tryz.prog 179 #[.slice a l.length c, .string x] w fun e w' => e = .returned (.int .i64 (ixS l x)) ∧ Below w.heap.size w w' := by
  have HR := hid hr
  clear hr
  go_enter Tryz.func179, Tryz.ntmps179
  go_wp2_with fail
  go_loopw [5, 8] (fun _ i wr => ∃ k : Nat, k ≤ l.length ∧ i = .int .i64 (k : Int) ∧ Hid (∀ j, ∀ h : j < l.length, j < k → l[j] ≠ x) ∧ Below w.heap.size w wr) (fun _ i _ => l.length - (RowKit.intOf i).toNat)
  case atStart => exact ⟨0, Nat.zero_le _, rfl, hid (fun j _ hj => by omega), Below.refl _ _⟩
  case round =>
    obtain ⟨k, hk, rfl, HNO, hbel⟩ := hrel
    have HB := hid hbel
    by_cases hlt : k < l.length
    · obtain ⟨g, rfl, c0⟩ := (HR.out.below hbel) k hlt
      have k0 : (0 : Int) ≤ (k : Int) := by omega
      have k1 : (k : Int) < (l.length : Int) := by omega
      clear hbel
      by_cases hx : l[k] = x
      · have HV := hid (ixS_at l x k hlt hx (fun i hi => HNO.out i (by omega) hi))
        rw [hx] at c0
        clear hx
        go_wp2
        go_ret
        exact ⟨by rw [HV.out]; rfl, HB.out⟩
      · have HNN : Hid (∀ j, ∀ h : j < l.length, j < k + 1 → l[j] ≠ x) := hid (fun j h hj => by
          by_cases hjk : j = k
          · subst hjk; exact hx
          · exact HNO.out j h (by omega))
        have hd := str_ne x l[k] (fun e => hx e.symm)
        obtain ⟨y, hy⟩ : ∃ y, l[k] = y := ⟨_, rfl⟩
        rw [hy] at c0 hd
        clear hy hx HNO
        go_wp2
        go_roundw
        case rel => exact ⟨k + 1, by omega, by go_num, HNN, HB.out⟩
        case measure => simp [RowKit.intOf]; omega
    · have hkk : k = l.length := by omega
      have HV := hid (ixS_none l x (fun hm => by
        obtain ⟨j, hj, e⟩ := List.mem_iff_getElem.1 hm
        exact HNO.out j hj (by omega) e))
      subst hkk
      clear hbel hlt
      go_wp2
      go_ret
      exact ⟨by rw [HV.out]; rfl, HB.out⟩
theorem x_containsS (a : Option Addr) (c : Nat) (l : List ByteArray) (x : ByteArray) (w : World) (hr : ReadS w a l) (hl : l.length ≤ 3000000) :
    Calls Tryz.prog 146 #[.slice a l.length c, .string x] w fun e w' => e = .returned (.bool (memB l x)) ∧ Below w.heap.size w w' := by
  have HC := hid (x_indexS a c l x w hr hl)
  have HM := hid (ixS_mem l x)
  clear hr
  go_enter Tryz.func146, Tryz.ntmps146
  go_wp2_with fail
  refine HC.out.mono ?_
  rintro e w1 ⟨rfl, b1⟩
  have HB := hid b1
  clear b1
  generalize ixS l x = r at *
  go_wp2
  go_ret
  exact ⟨ret_b HM.out, HB.out⟩
end Go.Proofs.YtaplbefdijcceaaGreatDoor
