/- Plain facts: The place of a text in a row of texts, the model's and the library's; FindFunction, the model's and the program's (a closure handed to the library's IndexFunc); LocalsOf, the model's; and a row of texts copied. Nothing of the program. -/
import Derived.Test.YtcnnfhcpkbjolaaDoorBeB
import Derived.Test.YtcnnfhcpkbjolaaDoorPlainR
import Derived.FnLit
import Derived.Maps.AppendAt
import Derived.WalkSpells
import Derived.Lib.SliceRun
import Derived.Deep.DeepCutAuto
/-! The place of a text in a row of texts, the model's and the library's -/
namespace Go.Proofs.YtcnnfhcpkbjolaaDoor
open Go.RowKit Go.Lib

/-- The first place of a text. -/
def ixS (l : List ByteArray) (x : ByteArray) : Int := match l.findIdx? (fun y => decide (y = x)) with
  | some j => (j : Int)
  | none => -1
theorem ixS_at (l : List ByteArray) (x : ByteArray) (j : Nat) (h : j < l.length) (hj : l[j] = x) (hno : ∀ i, ∀ h : i < j, l[i] ≠ x) : ixS l x = (j : Int) := by
  unfold ixS
  have : l.findIdx? (fun y => decide (y = x)) = some j := by
    rw [List.findIdx?_eq_some_iff_getElem]
    exact ⟨h, decide_eq_true hj, fun i hi => by simpa using hno i hi⟩
  rw [this]
theorem ixS_none (l : List ByteArray) (x : ByteArray) (h : x ∉ l) : ixS l x = -1 := by
  unfold ixS
  have : l.findIdx? (fun y => decide (y = x)) = none := by
    rw [List.findIdx?_eq_none_iff]
    intro y hy
    have : y ≠ x := fun e => h (e ▸ hy)
    exact decide_eq_false this
  rw [this]
theorem ixS_mem (l : List ByteArray) (x : ByteArray) : decide (0 ≤ ixS l x) = memB l x := by
  by_cases h : x ∈ l
  · rw [(memB_iff l x).2 h]
    unfold ixS
    cases hf : l.findIdx? (fun y => decide (y = x)) with
    | some j => exact decide_eq_true (by simp only; omega)
    | none =>
      rw [List.findIdx?_eq_none_iff] at hf
      have := hf x h
      simp at this
  · rw [memB_no l x h, ixS_none l x h]
    rfl
theorem ixS_lt (l : List ByteArray) (x : ByteArray) : decide (ixS l x < 0) = !memB l x := by
  rw [← ixS_mem]
  by_cases h : 0 ≤ ixS l x
  · rw [decide_eq_true h, decide_eq_false (by omega)]; rfl
  · rw [decide_eq_false h, decide_eq_true (by omega)]; rfl

set_option maxHeartbeats 1000000 in
theorem s_l04Index (a : Option Addr) (c : Nat) (l : List ByteArray) (x : ByteArray) (w : World) (hr : ReadS w a l) (hl : l.length ≤ 3000000) :
    Calls Tryd.prog 56 #[.slice a l.length c, .string x] w fun e w' => e = .returned (.int .i64 (ixS l x)) ∧ Below w.heap.size w w' := by
  have HR := Lib.hid hr
  clear hr
  go_enter Tryd.func56, Tryd.ntmps56
  go_wp2_with fail
  go_loopw [5] (fun i wr => ∃ k : Nat, k ≤ l.length ∧ i = .int .i64 (k : Int) ∧ Hid (∀ j, ∀ h : j < l.length, j < k → l[j] ≠ x) ∧ Below w.heap.size w wr) (fun i _ => l.length - (RowKit.intOf i).toNat)
  case atStart => exact ⟨0, Nat.zero_le _, rfl, Lib.hid (fun j _ hj => by omega), Below.refl _ _⟩
  case round =>
    obtain ⟨k, hk, rfl, HNO, hbel⟩ := hrel
    have HB := Lib.hid hbel
    by_cases hlt : k < l.length
    · obtain ⟨g, rfl, c0⟩ := (HR.out.below hbel) k hlt
      have k0 : (0 : Int) ≤ (k : Int) := by omega
      have k1 : (k : Int) < (l.length : Int) := by omega
      clear hbel
      by_cases hx : l[k] = x
      · have HV := Lib.hid (ixS_at l x k hlt hx (fun i hi => HNO.out i (by omega) hi))
        rw [hx] at c0
        clear hx
        go_wp2
        go_ret
        exact ⟨by rw [HV.out]; rfl, HB.out⟩
      · have HNN : Hid (∀ j, ∀ h : j < l.length, j < k + 1 → l[j] ≠ x) := Lib.hid (fun j h hj => by
          by_cases hjk : j = k
          · subst hjk; exact hx
          · exact HNO.out j h (by omega))
        have hd := str_ne _ _ hx
        obtain ⟨y, hy⟩ : ∃ y, l[k] = y := ⟨_, rfl⟩
        rw [hy] at c0 hd
        clear hy hx HNO
        go_wp2
        go_roundw
        case rel => exact ⟨k + 1, by omega, by go_num, HNN, HB.out⟩
        case measure => simp [RowKit.intOf]; omega
    · have hkk : k = l.length := by omega
      have HV := Lib.hid (ixS_none l x (fun hm => by
        obtain ⟨j, hj, e⟩ := List.mem_iff_getElem.1 hm
        exact HNO.out j hj (by omega) e))
      subst hkk
      clear hbel hlt
      go_wp2
      go_ret
      exact ⟨by rw [HV.out]; rfl, HB.out⟩

set_option maxHeartbeats 1000000 in
theorem x_indexS (a : Option Addr) (c : Nat) (l : List ByteArray) (x : ByteArray) (w : World) (hr : ReadS w a l) (hl : l.length ≤ 3000000) :
    Calls Tryd.prog 125 #[.slice a l.length c, .string x] w fun e w' => e = .returned (.int .i64 (ixS l x)) ∧ Below w.heap.size w w' := by
  have HR := Lib.hid hr
  clear hr
  go_enter Tryd.func125, Tryd.ntmps125
  go_wp2_with fail
  go_loopw [5, 8] (fun _ i wr => ∃ k : Nat, k ≤ l.length ∧ i = .int .i64 (k : Int) ∧ Hid (∀ j, ∀ h : j < l.length, j < k → l[j] ≠ x) ∧ Below w.heap.size w wr) (fun _ i _ => l.length - (RowKit.intOf i).toNat)
  case atStart => exact ⟨0, Nat.zero_le _, rfl, Lib.hid (fun j _ hj => by omega), Below.refl _ _⟩
  case round =>
    obtain ⟨k, hk, rfl, HNO, hbel⟩ := hrel
    have HB := Lib.hid hbel
    by_cases hlt : k < l.length
    · obtain ⟨g, rfl, c0⟩ := (HR.out.below hbel) k hlt
      have k0 : (0 : Int) ≤ (k : Int) := by omega
      have k1 : (k : Int) < (l.length : Int) := by omega
      clear hbel
      by_cases hx : l[k] = x
      · have HV := Lib.hid (ixS_at l x k hlt hx (fun i hi => HNO.out i (by omega) hi))
        rw [hx] at c0
        clear hx
        go_wp2
        go_ret
        exact ⟨by rw [HV.out]; rfl, HB.out⟩
      · have HNN : Hid (∀ j, ∀ h : j < l.length, j < k + 1 → l[j] ≠ x) := Lib.hid (fun j h hj => by
          by_cases hjk : j = k
          · subst hjk; exact hx
          · exact HNO.out j h (by omega))
        have hd := str_ne x l[k] (fun e => hx e.symm)
        obtain ⟨y, hy⟩ : ∃ y, l[k] = y := ⟨_, rfl⟩
        rw [hy] at c0 hd
        clear hy hx HNO
        go_wp2
        go_roundw
        case rel => exact ⟨k + 1, by omega, by go_num, HNN, HB.out⟩
        case measure => simp [RowKit.intOf]; omega
    · have hkk : k = l.length := by omega
      have HV := Lib.hid (ixS_none l x (fun hm => by
        obtain ⟨j, hj, e⟩ := List.mem_iff_getElem.1 hm
        exact HNO.out j hj (by omega) e))
      subst hkk
      clear hbel hlt
      go_wp2
      go_ret
      exact ⟨by rw [HV.out]; rfl, HB.out⟩
theorem x_containsS (a : Option Addr) (c : Nat) (l : List ByteArray) (x : ByteArray) (w : World) (hr : ReadS w a l) (hl : l.length ≤ 3000000) :
    Calls Tryd.prog 115 #[.slice a l.length c, .string x] w fun e w' => e = .returned (.bool (memB l x)) ∧ Below w.heap.size w w' := by
  have HC := Lib.hid (x_indexS a c l x w hr hl)
  have HM := Lib.hid (ixS_mem l x)
  clear hr
  go_enter Tryd.func115, Tryd.ntmps115
  go_wp2_with fail
  refine HC.out.mono ?_
  rintro e w1 ⟨rfl, b1⟩
  have HB := Lib.hid b1
  clear b1
  generalize ixS l x = r at *
  go_wp2
  go_ret
  exact ⟨ret_b HM.out, HB.out⟩
end Go.Proofs.YtcnnfhcpkbjolaaDoor

/-! FindFunction, the model's and the program's (a closure handed to the library's IndexFunc) -/
namespace Go.Proofs.YtcnnfhcpkbjolaaDoor
open Go.RowKit Go.Lib

theorem pl_at (X : List LnL) (j : Nat) (h : j < X.length) (h' : j < (plL X).length) : (plL X)[j] = X[j].p := plL_get X j h

theorem findX_yes (X : List LnL) (n : ByteArray) (q : Nat) (h : q < X.length) (h0 : X[q].kind = 0) (hn : X[q].name = n) : findF n q ((plL X).drop q) = (q : Int) := by
  have hq : q < (plL X).length := by rw [plL_length]; exact h
  rw [findF_at (plL X) n q hq, pl_at X q h, if_pos ⟨h0, hn⟩]
theorem findX_no (X : List LnL) (n : ByteArray) (q : Nat) (h : q < X.length) (hn : ¬ (X[q].kind = 0 ∧ X[q].name = n)) : findF n q ((plL X).drop q) = findF n (q + 1) ((plL X).drop (q + 1)) := by
  have hq : q < (plL X).length := by rw [plL_length]; exact h
  rw [findF_at (plL X) n q hq, pl_at X q h, if_neg (show ¬ (X[q].p.kind = 0 ∧ X[q].p.name = n) from hn)]

set_option maxRecDepth 100000 in
set_option maxHeartbeats 2000000 in
theorem s_findFn (a : Option Addr) (cap : Nat) (X : List LnL) (n : ByteArray) (w : World) (hl : X.length ≤ 2000000) (hr : ReadL 9 83 w a X) :
    Calls Tryd.prog 26 #[.slice a X.length cap, .string n] w fun e w' => e = .returned (.int .i64 (findZ (plL X) n)) ∧ Below w.heap.size w w' := by
  have HR := Lib.hid hr
  have hpl := plL_length X
  clear hr
  go_enter Tryd.func26, Tryd.ntmps26
  go_wp2_with fail
  go_loopw [5] (fun i wr => ∃ q : Nat, q ≤ X.length ∧ i = .int .i64 (q : Int) ∧ Hid (findF n q ((plL X).drop q) = findZ (plL X) n) ∧ Below w.heap.size w wr) (fun i _ => X.length - (RowKit.intOf i).toNat)
  case atStart => exact ⟨0, Nat.zero_le _, rfl, Lib.hid rfl, Below.refl _ _⟩
  case round =>
    obtain ⟨q, hq, rfl, HE, hbel⟩ := hrel
    have HB := Lib.hid hbel
    by_cases hlt : q < X.length
    · obtain ⟨g, rfl, hg, ⟨c0, c1, _, _⟩, _⟩ := (HR.out.below hbel) q hlt
      have HY := Lib.hid (findX_yes X n q hlt)
      have HNO := Lib.hid (findX_no X n q hlt)
      have k0 : (0 : Int) ≤ (q : Int) := by omega
      have k1 : (q : Int) < (X.length : Int) := by omega
      generalize X[q].kind = kd at *
      generalize X[q].name = nm at *
      clear hbel
      by_cases hk : kd = 0
      · subst hk
        by_cases hn : nm = n
        · subst hn
          have HN' := Lib.hid ((HY.out rfl rfl).symm.trans HE.out)
          clear HY HNO
          go_wp2
          go_ret
          exact ⟨by rw [← HN'.out]; rfl, HB.out⟩
        · have HN' := Lib.hid ((HNO.out (fun h => hn h.2)).symm.trans HE.out)
          have hd := str_ne _ _ hn
          clear HY HNO hn
          go_wp2
          go_roundw
          case rel => exact ⟨q + 1, by omega, by go_num, HN', HB.out⟩
          case measure => simp [RowKit.intOf]; omega
      · have HN' := Lib.hid ((HNO.out (fun h => hk h.1)).symm.trans HE.out)
        have hd : (kd == 0) = false := by simpa using hk
        clear HY HNO hk
        go_wp2
        go_roundw
        case rel => exact ⟨q + 1, by omega, by go_num, HN', HB.out⟩
        case measure => simp [RowKit.intOf]; omega
    · have hqq : q = X.length := by omega
      subst hqq
      have HN' : Hid (-1 = findZ (plL X) n) := Lib.hid (by rw [← HE.out, findF_out _ _ _ (by omega)])
      clear hbel
      go_wp2
      go_ret
      exact ⟨by rw [← HN'.out]; rfl, HB.out⟩

set_option maxHeartbeats 400000 in
/-- The closure: a function of that name? -/
theorem i_findIs (k : Int) (nm n : ByteArray) (va ve : Value) (c : Nat) (w : World) (hc : w.cell? ⟨c, 0, none⟩ = some (.string n)) (hcl : c < w.heap.size) :
    Calls Tryd.prog 113 #[.agg #[.int .i64 k, .string nm, va, ve], .pointer (some ⟨c, 0, none⟩)] w fun e w' => e = .returned (.bool (decide (k = 0) && decide (nm = n))) ∧ Below w.heap.size w w' := by
  have X0 := heap_alloc_new w (.cells #[.int .i64 k, .string nm, va, ve] 48)
  have e0 : (w.alloc (.cells #[.int .i64 k, .string nm, va, ve] 48)).cell? ⟨w.heap.size, 0, none⟩ = some (.int .i64 k) := (blk X0).1 0 _ rfl
  have e1 : (w.alloc (.cells #[.int .i64 k, .string nm, va, ve] 48)).cell? ⟨w.heap.size, 1, none⟩ = some (.string nm) := (blk X0).1 1 _ rfl
  have HB : Hid (Below w.heap.size w (w.alloc (.cells #[.int .i64 k, .string nm, va, ve] 48))) := Lib.hid ((Below.refl _ _).alloc (Nat.le_refl _) _)
  have e2 : (w.alloc (.cells #[.int .i64 k, .string nm, va, ve] 48)).cell? ⟨c, 0, none⟩ = some (.string n) := (HB.out.cell (p := ⟨c, 0, none⟩) hcl).trans hc
  clear X0 hc
  by_cases h0 : k = 0
  · subst h0
    by_cases hn : nm = n
    · subst hn
      go_enter Tryd.func113, Tryd.ntmps113
      go_wp2
      go_ret
      exact ⟨ret_b (by simp), HB.out⟩
    · have hd := str_ne _ _ hn
      have HV : Hid (decide (nm = n) = false) := Lib.hid (decide_eq_false hn)
      clear hn
      go_enter Tryd.func113, Tryd.ntmps113
      go_wp2
      go_ret
      exact ⟨ret_b (by rw [HV.out]; rfl), HB.out⟩
  · have hd : (k == 0) = false := by simpa using h0
    have HV : Hid (decide (k = 0) = false) := Lib.hid (decide_eq_false h0)
    clear h0
    go_enter Tryd.func113, Tryd.ntmps113
    go_wp2
    go_ret
    exact ⟨ret_b (by rw [HV.out]; rfl), HB.out⟩

set_option maxRecDepth 100000 in
set_option maxHeartbeats 2000000 in
theorem i_indexFn (a : Option Addr) (cap : Nat) (X : List LnL) (n : ByteArray) (c : Nat) (w : World) (hl : X.length ≤ 2000000) (hr : ReadL 9 83 w a X) (hc : w.cell? ⟨c, 0, none⟩ = some (.string n)) (hcl : c < w.heap.size) :
    Calls Tryd.prog 108 #[.slice a X.length cap, .func (.func 113) #[] #[.pointer (some ⟨c, 0, none⟩)]] w fun e w' => e = .returned (.int .i64 (findZ (plL X) n)) ∧ Below w.heap.size w w' := by
  have HR := Lib.hid hr
  have hpl := plL_length X
  have HC := Lib.hid (fun (W : World) (hb : Below w.heap.size w W) k nm va ve => i_findIs k nm n va ve c W ((hb.cell (p := ⟨c, 0, none⟩) hcl).trans hc) (by have := hb.size; omega))
  clear hr hc
  go_enter Tryd.func108, Tryd.ntmps108
  go_wp2_with fail
  go_loopw [5, 8] (fun _ i wr => ∃ q : Nat, q ≤ X.length ∧ i = .int .i64 (q : Int) ∧ Hid (findF n q ((plL X).drop q) = findZ (plL X) n) ∧ Below w.heap.size w wr) (fun _ i _ => X.length - (RowKit.intOf i).toNat)
  case atStart => exact ⟨0, Nat.zero_le _, rfl, Lib.hid rfl, Below.refl _ _⟩
  case round =>
    obtain ⟨q, hq, rfl, HE, hbel⟩ := hrel
    have HB := Lib.hid hbel
    have hB := hbel.size
    by_cases hlt : q < X.length
    · obtain ⟨g, rfl, hg, ⟨c0, c1, c2, c3⟩, hm⟩ := (HR.out.below hbel) q hlt
      have HY := Lib.hid (findX_yes X n q hlt)
      have HNO := Lib.hid (findX_no X n q hlt)
      obtain ⟨xa, xb, xc, xd, ea, ee, _, _, _, _⟩ := inMem_shape hm
      rw [ea] at c2
      rw [ee] at c3
      have HF := Lib.hid (fun va ve => HC.out wr hbel X[q].kind X[q].name va ve)
      have k0 : (0 : Int) ≤ (q : Int) := by omega
      have k1 : (q : Int) < (X.length : Int) := by omega
      generalize X[q].kind = kd at *
      generalize X[q].name = nm at *
      generalize X[q].args.length = na at *
      generalize X[q].expr.length = ne at *
      clear hbel hm ea ee
      by_cases hkn : kd = 0 ∧ nm = n
      · have HN' := Lib.hid ((HY.out hkn.1 hkn.2).symm.trans HE.out)
        rw [hkn.1, hkn.2, decide_eq_true rfl, decide_eq_true rfl] at HF
        obtain ⟨rfl, rfl⟩ := hkn
        clear HY HNO
        go_wp2_with fail
        refine (HF.out _ _).mono ?_
        rintro e w1 ⟨rfl, b1⟩
        have HB1 : Hid (Below w.heap.size w w1) := Lib.hid (HB.out.trans (b1.mono hB))
        clear b1 c0 c1 c2 c3
        go_wp2
        go_ret
        exact ⟨by rw [← HN'.out]; rfl, HB1.out⟩
      · have HN' := Lib.hid ((HNO.out hkn).symm.trans HE.out)
        have hb : (decide (kd = 0) && decide (nm = n)) = false := by
          rw [Bool.and_eq_false_iff]
          by_cases h0 : kd = 0
          · exact .inr (decide_eq_false (fun e => hkn ⟨h0, e⟩))
          · exact .inl (decide_eq_false h0)
        rw [hb] at HF
        clear HY HNO hb hkn
        go_wp2_with fail
        refine (HF.out _ _).mono ?_
        rintro e w1 ⟨rfl, b1⟩
        have HB1 : Hid (Below w.heap.size w w1) := Lib.hid (HB.out.trans (b1.mono hB))
        clear b1 c0 c1 c2 c3
        go_wp2
        go_roundw
        case rel => exact ⟨q + 1, by omega, by go_num, HN', HB1.out⟩
        case measure => simp [RowKit.intOf]; omega
    · have hqq : q = X.length := by omega
      subst hqq
      have HN' : Hid (-1 = findZ (plL X) n) := Lib.hid (by rw [← HE.out, findF_out _ _ _ (by omega)])
      clear hbel
      go_wp2
      go_ret
      exact ⟨by rw [← HN'.out]; rfl, HB.out⟩

set_option maxHeartbeats 400000 in
theorem i_findFn (a : Option Addr) (cap : Nat) (X : List LnL) (n : ByteArray) (w : World) (hl : X.length ≤ 2000000) (hr : ReadL 9 83 w a X) :
    Calls Tryd.prog 86 #[.slice a X.length cap, .string n] w fun e w' => e = .returned (.int .i64 (findZ (plL X) n)) ∧ Below w.heap.size w w' := by
  have HB0 : Hid (Below w.heap.size w (w.alloc (.cells #[.string n] 9))) := Lib.hid ((Below.refl _ _).alloc (Nat.le_refl _) _)
  have X0 := heap_alloc_new w (.cells #[.string n] 9)
  have hz : (w.alloc (.cells #[.string n] 9)).heap.size = w.heap.size + 1 := by simp
  have HI := Lib.hid (i_indexFn a cap X n w.heap.size (w.alloc (.cells #[.string n] 9)) hl (hr.below HB0.out) ((blk X0).1 0 _ rfl) (by omega))
  clear hr X0
  go_enter Tryd.func86, Tryd.ntmps86
  go_wp2_with fail
  refine HI.out.mono ?_
  rintro e w1 ⟨rfl, b1⟩
  have HB1 : Hid (Below w.heap.size w w1) := Lib.hid (HB0.out.trans (b1.mono (by omega)))
  clear b1
  go_wp2
  go_ret
  exact ⟨rfl, HB1.out⟩
end Go.Proofs.YtcnnfhcpkbjolaaDoor

/-! LocalsOf, the model's; and a row of texts copied -/
namespace Go.Proofs.YtcnnfhcpkbjolaaDoor
open Go.RowKit Go.Lib

theorem infoS4 : (Tryd.prog.info? 9).map (fun i => (i.zero, i.size, i.bytes)) = some (some (.string ⟨#[]⟩), 1, 16) := by kernel_rfl
/-- A row of texts is handed back, in a row of its own. -/
def StrR (T B : Nat) (l : List ByteArray) (w : World) (e : Ending) (w' : World) : Prop :=
  ∃ v, e = .returned v ∧ w'.ownsRow B T 1 v l.length (strV l) ∧ Below w.heap.size w w'
theorem strV_all (l : List ByteArray) : ∀ u ∈ strV l, u.oneCell' = true := by
  intro u hu
  obtain ⟨x, _, rfl⟩ := List.mem_map.1 hu
  rfl
theorem strV_len (l : List ByteArray) : (strV l).length = l.length := by simp [strV]
theorem argsZ_at (X : List LnL) (k : Nat) (h : k < X.length) : argsZ (plL X) (k : Int) = X[k].args := by
  have hq : k < (plL X).length := by rw [plL_length]; exact h
  unfold argsZ
  rw [if_neg (by omega), Int.toNat_natCast, List.getElem?_eq_getElem hq]
  simp only
  rw [pl_at X k h]
  rfl
theorem locZ_none (p : List PLine) (k : Int) (h : beZ p k < 0) : locZ p k = [] := by unfold locZ; rw [if_neg (by omega)]
theorem locZ_other (p : List PLine) (k : Int) (h : lkZ p k ≠ 0) : locZ p k = [] := by unfold locZ; rw [if_neg (fun hc => h hc.2)]
theorem locZ_from (X : List LnL) (k E : Nat) (h : k < X.length) (hE : beZ (plL X) (k : Int) = (E : Int)) (h0 : X[k].kind = 0) : locZ (plL X) (k : Int) = locF X[k].args (segZ (plL X) k E) := by
  have hq : k < (plL X).length := by rw [plL_length]; exact h
  unfold locZ
  rw [hE, if_pos ⟨by omega, by rw [lkZ_at _ _ hq, pl_kind X k h]; exact h0⟩, argsZ_at X k h]
  rfl
theorem locF_yes (X : List LnL) (P : List ByteArray) (q E : Nat) (h : q < X.length) (hE : q < E) (h1 : X[q].kind = 1) (hm : memB P X[q].name = false) : locF P (segZ (plL X) q E) = locF (P ++ [X[q].name]) (segZ (plL X) (q + 1) E) := by
  have hq : q < (plL X).length := by rw [plL_length]; exact h
  rw [seg_next _ q E hE hq, pl_at X q h, locF, if_pos (show X[q].p.kind = 1 ∧ memB P X[q].p.name = false from ⟨h1, hm⟩)]
  rfl
theorem locF_no (X : List LnL) (P : List ByteArray) (q E : Nat) (h : q < X.length) (hE : q < E) (hn : ¬ (X[q].kind = 1 ∧ memB P X[q].name = false)) : locF P (segZ (plL X) q E) = locF P (segZ (plL X) (q + 1) E) := by
  have hq : q < (plL X).length := by rw [plL_length]; exact h
  rw [seg_next _ q E hE hq, pl_at X q h, locF, if_neg (show ¬ (X[q].p.kind = 1 ∧ memB P X[q].p.name = false) from hn)]
theorem below_app5 {B e n s : Nat} {w0 wr w1 : World} {X : Obj} {v : Value} {xs : List Value} (hown : wr.ownsRow B e s v n xs) (hbel : Below B w0 wr) (hB : B ≤ wr.heap.size)
    (hg : (wr.alloc X).grownBy w1 v.ownBlock) : Below B w0 w1 :=
  (hbel.alloc hB X).grown hg (by simp; omega) (fun k hk => (hown.lt k hk).1)

set_option maxRecDepth 100000 in
set_option maxHeartbeats 1000000 in
theorem x_cloneS (v : Value) (l : List ByteArray) (w : World) (h : w.ownsRow 0 9 1 v l.length (strV l)) (hl : l.length ≤ 1048576) :
    Calls Tryd.prog 30 #[v] w (StrR 9 w.heap.size l w) := by
  obtain ⟨i0, hi, hz0, hz1, hz2⟩ := info_parts infoS4
  have qn : ∀ (W : World) (a : Option Addr) (n c n' c' : Nat), (binOp .eql 45 (.slice a n c) (.slice none n' c')).run Tryd.prog W = .ok (.bool a.isNone) W := fun W a n c n' c' => Lib.run_eql_slice_nil W _ _ a n c n' c' Tryd.underlying45
  rcases h.2 with ⟨rfl, h0⟩ | ⟨g, cap, cur, rfl, hB, hg, _⟩
  · obtain rfl := List.length_eq_zero_iff.1 h0
    clear h h0
    go_enter Tryd.func30, Tryd.ntmps30
    go_wp2
    go_ret
    exact ⟨_, rfl, World.ownsRow_nil _ _ _ _, Below.refl _ _⟩
  · have HG := Lib.hid ((h.alloc (.cells #[] 9)).cells rfl)
    have hown := World.ownsRow_lit (e := 9) (size := 1) (base := w.heap.size) w #[] 0 (Nat.le_refl _) (by decide) rfl
    have h63 : 0 + l.length ≤ maxLen := by unfold maxLen; omega
    have hby : (0 + l.length) * 16 ≤ 140737488355328 := by omega
    have HB0 : Hid (Below w.heap.size w (w.alloc (.cells #[] 9))) := Lib.hid ((Below.refl _ _).alloc (Nat.le_refl _) _)
    have hz : (w.alloc (.cells #[] 9)).heap.size = w.heap.size + 1 := by simp
    clear h
    go_enter Tryd.func30, Tryd.ntmps30
    go_wp2_with (at_builtin; refine wpList_append_own _ rfl _ _ 45 rfl w.heap.size 9 i0 (.string ⟨#[]⟩) 1 16 Tryd.underlying45 hi hz0 hz1 hz2 rfl (by decide) _ _ _ rfl hown ⟨g, 0, none⟩ l.length cap (strV l) rfl (by rw [strV_len]; omega) HG.out (strV_all l) h63 hby (by omega) ?_)
    intro v' w1 hown1 hgrow _
    have HO := Lib.hid (owns_strs (l := l) hown1 (by simp))
    have HB := Lib.hid (HB0.out.grown hgrow (by omega) (fun j hj => Nat.le_of_eq (Option.some.inj hj)))
    clear hown1 hgrow
    go_wp2
    go_ret
    exact ⟨_, rfl, HO.out, HB.out⟩

/-- Rows that an append may take: in a row of their own, or none. -/
theorem own_news {B T n : Nat} {w : World} {v : Value} {l : List ByteArray} (h : w.ownsRow B T 1 v n (strV l)) : (v = .slice none 0 0 ∧ l = []) ∨ ∃ g c, v = .slice (some ⟨g, 0, none⟩) n c ∧ (∀ j u, (strV l)[j]? = some u → w.cell? ((⟨g, 0, none⟩ : Addr).add j) = some u) := by
  have hn := h.1
  rw [strV_len] at hn
  rcases h.2 with ⟨rfl, h0⟩ | ⟨g, cap, cur, rfl, _⟩
  · exact .inl ⟨rfl, List.length_eq_zero_iff.1 (by omega)⟩
  · exact .inr ⟨g, cap, rfl, h.cells rfl⟩
theorem not_and_mem {k : Int} {b : Bool} (h : k ≠ 1 ∨ b = true) : ¬ (k = 1 ∧ b = false) := by
  rintro ⟨h1, h2⟩
  rcases h with h | h
  · exact h h1
  · rw [h] at h2; cases h2

set_option maxRecDepth 100000 in
set_option maxHeartbeats 4000000 in
theorem s_localsOf (a : Option Addr) (cap : Nat) (X : List LnL) (k : Int) (w : World) (hl : X.length ≤ 1048576) (hr : ReadL 9 83 w a X) (hz : ∀ x ∈ X, x.args.length ≤ 1048576) :
    Calls Tryd.prog 54 #[.slice a X.length cap, .int .i64 k] w (StrR 9 w.heap.size (locZ (plL X) k) w) := by
  obtain ⟨i0, hi, hz0, hz1, hz2⟩ := info_parts infoS4
  have HR := Lib.hid hr
  have HZ := Lib.hid hz
  have hpl := plL_length X
  have S1 := Lib.hid (s_endOf a cap X k w (by omega) hr)
  clear hr hz
  by_cases hneg : beZ (plL X) k < 0
  · have HV := Lib.hid (locZ_none (plL X) k hneg)
    have hd : decide (beZ (plL X) k < 0) = true := decide_eq_true hneg
    generalize beZ (plL X) k = e at *
    clear hpl hneg
    go_enter Tryd.func54, Tryd.ntmps54
    go_wp2_with fail
    refine S1.out.mono ?_
    rintro _ w1 ⟨rfl, b1⟩
    have HB := Lib.hid b1
    have z1 := b1.size
    clear b1
    go_wp2
    go_ret
    exact ⟨_, rfl, by rw [HV.out]; exact World.ownsRow_lit w1 #[] 0 z1 (by decide) rfl, HB.out.alloc z1 _⟩
  have hd : decide (beZ (plL X) k < 0) = false := decide_eq_false hneg
  obtain ⟨j, rfl, hjp, hop, hje, hel⟩ := beZ_is (plL X) k (by omega)
  have hj : j < X.length := by omega
  have k0 : (0 : Int) ≤ (j : Int) := by omega
  have k1 : (j : Int) < (X.length : Int) := by omega
  obtain ⟨E, hE⟩ := Int.eq_ofNat_of_zero_le (show 0 ≤ beZ (plL X) (j : Int) by omega)
  obtain ⟨g, rfl, hg, ⟨c0, _, c2, _⟩, hm⟩ := HR.out j hj
  rw [hE] at S1 hd hje hel
  by_cases h0 : X[j].kind = 0
  · have HV := Lib.hid (locZ_from X j E hj hE h0)
    have hzz := HZ.out _ (List.getElem_mem hj)
    have HOA := Lib.hid hm.1
    rw [h0] at c0
    have hjE : j < E := by omega
    have hEl : E < X.length := by omega
    generalize X[j].args = gs at *
    generalize X[j].va = va at *
    clear hE hop h0 hneg hm
    go_enter Tryd.func54, Tryd.ntmps54
    go_wp2_with fail
    refine S1.out.mono ?_
    rintro _ w1 ⟨rfl, b1⟩
    have HB1 := Lib.hid b1
    have z1 := b1.size
    have c0' := (b1.cell (p := ⟨g, j * 4, none⟩) hg).trans c0
    have c2' : w1.cell? ⟨g, j * 4 + 2, none⟩ = some va := (b1.cell (p := ⟨g, j * 4 + 2, none⟩) hg).trans c2
    have c2'' : (w1.alloc (.cells #[] 9)).cell? ⟨g, j * 4 + 2, none⟩ = some va := (((Below.refl w1.heap.size w1).alloc (Nat.le_refl _) (.cells #[] 9)).cell (p := ⟨g, j * 4 + 2, none⟩) (by show g < w1.heap.size; omega)).trans c2'
    have HOA1 := Lib.hid ((owns_below HOA.out b1).alloc (.cells #[] 9))
    have hown := World.ownsRow_lit (e := 9) (size := 1) (base := w.heap.size) w1 #[] 0 z1 (by decide) rfl
    have HB2 : Hid (Below w.heap.size w (w1.alloc (.cells #[] 9))) := Lib.hid (HB1.out.alloc z1 _)
    have hz2' : (w1.alloc (.cells #[] 9)).heap.size = w1.heap.size + 1 := by simp
    clear b1 c0 c2 S1
    go_upto_region 4 with fail
    go_cut [6] (fun v wx => wx.ownsRow w.heap.size 9 1 v gs.length (strV gs) ∧ Hid (Below w.heap.size w wx))
    case first =>
      rcases own_news HOA1.out with ⟨rfl, rfl⟩ | ⟨ga, ca, rfl, HN⟩
      · have hap := run_append_owned_none (P := Tryd.prog) (w1.alloc (.cells #[] 9)) w.heap.size 45 45 9 i0 1 Tryd.underlying45 hi _ 0 _ hown
        have HO := Lib.hid hown
        clear hown
        go_wp2_with fail
        go_meet
        exact ⟨HO.out, HB2⟩
      · have h63 : 0 + gs.length ≤ maxLen := by unfold maxLen; omega
        have hby : (0 + gs.length) * 16 ≤ 140737488355328 := by omega
        have HNN := Lib.hid HN
        clear HN
        go_wp2_with (at_builtin; refine wpList_append_own _ rfl _ _ 45 rfl w.heap.size 9 i0 (.string ⟨#[]⟩) 1 16 Tryd.underlying45 hi hz0 hz1 hz2 rfl (by decide) _ _ _ rfl hown ⟨ga, 0, none⟩ gs.length ca (strV gs) rfl (by rw [strV_len]; omega) HNN.out (strV_all gs) h63 hby (by omega) ?_)
        intro v' w2 hown1 hgrow _
        have HO := Lib.hid (owns_strs (l := gs) hown1 (by simp))
        have HB := Lib.hid (HB2.out.grown hgrow (by omega) (fun q hq => Nat.le_trans z1 (Nat.le_of_eq (Option.some.inj hq))))
        clear hown1 hgrow
        go_wp2_with fail
        go_meet
        exact ⟨HO.out, HB⟩
    case rest =>
    obtain ⟨hownx, HBx⟩ := hcut
    rename World => wx
    have HOx := Lib.hid hownx
    have zx := HBx.out.size
    clear hown hownx c0' c2' c2'' HOA1 HOA
    go_wp2_with fail
    go_loopw [6, 7] (fun v i wr => ∃ (q : Nat) (P : List ByteArray), j ≤ q ∧ q ≤ E ∧ i = .int .i64 (q : Int) ∧ Hid (locF P (segZ (plL X) q E) = locZ (plL X) (j : Int)) ∧ P.length ≤ 1048576 + q ∧ wr.ownsRow w.heap.size 9 1 v P.length (strV P) ∧ Below w.heap.size w wr) (fun _ i _ => E - (RowKit.intOf i).toNat)
    case atStart => exact ⟨j, gs, Nat.le_refl _, by omega, rfl, Lib.hid HV.out.symm, by omega, HOx.out, HBx.out⟩
    case round =>
      obtain ⟨q, P, hjq, hqE, rfl, HE, hP, hownr, hbel⟩ := hrel
      have HB := Lib.hid hbel
      have hB := hbel.size
      by_cases hlt : q < E
      · have hqx : q < X.length := by omega
        obtain ⟨g', hga, hg', ⟨c0, c1, _, _⟩, _⟩ := (HR.out.below hbel) q hqx
        injection hga with hga
        injection hga with hga
        subst hga
        have HY := Lib.hid (fun h1 h2 => (locF_yes X P q E hqx hlt h1 h2).symm.trans HE.out)
        have HNO := Lib.hid (fun h => (locF_no X P q E hqx hlt h).symm.trans HE.out)
        have k3 : (0 : Int) ≤ (q : Int) := by omega
        have k4 : (q : Int) < (X.length : Int) := by omega
        obtain ⟨av, cv, rfl⟩ := owns_shape hownr
        have HIX := Lib.hid (s_l04Index av cv P X[q].name wr (reads_of hownr) (by omega))
        have HIL := Lib.hid (ixS_lt P X[q].name)
        have HOr := Lib.hid hownr
        generalize X[q].kind = kd at *
        generalize X[q].name = nm at *
        clear hbel hownr
        by_cases hk : kd = 1
        · subst hk
          obtain ⟨r, hr⟩ : ∃ r, ixS P nm = r := ⟨_, rfl⟩
          rw [hr] at HIX HIL
          clear hr
          obtain ⟨b, hb⟩ : ∃ b, memB P nm = b := ⟨_, rfl⟩
          rw [hb] at HIL HY HNO
          clear hb
          cases b
          · have hdr : decide (r < 0) = true := HIL.out
            have HN := Lib.hid (HY.out rfl rfl)
            have h63 : P.length + 1 ≤ maxLen := by unfold maxLen; omega
            have hby : (P.length + 1) * 16 ≤ 140737488355328 := by omega
            clear HY HNO HIL
            go_wp2_with fail
            refine HIX.out.mono ?_
            rintro _ w2 ⟨rfl, b2⟩
            have hown2 := owns_below HOr.out b2
            have HB2r : Hid (Below w.heap.size w w2) := Lib.hid (HB.out.trans (b2.mono hB))
            have z2 := HB2r.out.size
            have d1 : w2.cell? ⟨g, q * 4 + 1, none⟩ = some (.string nm) := (b2.cell (p := ⟨g, q * 4 + 1, none⟩) hg').trans c1
            clear b2 c0 c1
            go_wp2_with (at_builtin; refine wpList_append_own _ rfl _ _ 45 rfl w.heap.size 9 i0 (.string ⟨#[]⟩) 1 16 Tryd.underlying45 hi hz0 hz1 hz2 rfl (by decide) _ _ _ rfl (hown2.alloc _) ⟨w2.heap.size, 0, none⟩ 1 1 [.string nm] rfl rfl ?c1 ?c2 h63 hby ?c5 ?_)
            case c1 => exact cell_one_new _ _ _
            case c2 => intro u hu; simp at hu; subst hu; rfl
            case c5 => simp; omega
            intro v' w3 hown1 hgrow _
            have HO4 := Lib.hid (owns_strs (l := P ++ [nm]) hown1 (by rw [strV_append]; rfl))
            have HB3 := Lib.hid (below_app5 hown2 HB2r.out z2 hgrow)
            clear hown1 hgrow hown2 d1
            go_wp2
            go_roundw
            case rel => exact ⟨q + 1, P ++ [nm], by omega, by omega, by go_num, HN, by simp; omega, HO4.out, HB3.out⟩
            case measure => simp [RowKit.intOf]; omega
          · have hdr : decide (r < 0) = false := HIL.out
            have HN := Lib.hid (HNO.out (not_and_mem (.inr rfl)))
            clear HY HNO HIL
            go_wp2_with fail
            refine HIX.out.mono ?_
            rintro _ w2 ⟨rfl, b2⟩
            have HOr2 := Lib.hid (owns_below HOr.out b2)
            have HB2r : Hid (Below w.heap.size w w2) := Lib.hid (HB.out.trans (b2.mono hB))
            clear b2 c0 c1
            go_wp2
            go_roundw
            case rel => exact ⟨q + 1, P, by omega, by omega, by go_num, HN, by omega, HOr2.out, HB2r.out⟩
            case measure => simp [RowKit.intOf]; omega
        · have HN := Lib.hid (HNO.out (not_and_mem (.inl hk)))
          have hdk : (kd == 1) = false := by simpa using hk
          clear HY HNO HIL HIX hk
          go_wp2
          go_roundw
          case rel => exact ⟨q + 1, P, by omega, by omega, by go_num, HN, by omega, HOr.out, HB.out⟩
          case measure => simp [RowKit.intOf]; omega
      · have hqq : q = E := by omega
        subst hqq
        have HE' : Hid (P = locZ (plL X) (j : Int)) := Lib.hid (by rw [← HE.out, seg_end]; rfl)
        have HOr := Lib.hid hownr
        clear hbel hownr
        go_wp2
        go_ret
        exact ⟨_, rfl, by rw [← HE'.out]; exact HOr.out, HB.out⟩
  · have HV := Lib.hid (locZ_other (plL X) j (by rw [lkZ_at _ _ hjp, pl_kind X j hj]; exact h0))
    have a0 : (X[j].kind != 0) = true := by simpa using h0
    generalize X[j].kind = kd at *
    clear hE h0 hneg hop c2 hm
    go_enter Tryd.func54, Tryd.ntmps54
    go_wp2_with fail
    refine S1.out.mono ?_
    rintro _ w1 ⟨rfl, b1⟩
    have HB1 := Lib.hid b1
    have z1 := b1.size
    have c0' := (b1.cell (p := ⟨g, j * 4, none⟩) hg).trans c0
    clear b1 c0
    go_wp2
    go_ret
    exact ⟨_, rfl, by rw [HV.out]; exact World.ownsRow_lit w1 #[] 0 z1 (by decide) rfl, HB1.out.alloc z1 _⟩
end Go.Proofs.YtcnnfhcpkbjolaaDoor
