/- The laws' own functions on rows of strings: the size, and the row made of the argument. -/
import Derived.Test.YtcnnfhcpkbjolaaDoorRows
import Derived.Test.YtcnnfhcpkbjolaaDoorPlainA
import Derived.Test.YtcnnfhcpkbjolaaDoorRowM
import Derived.Outline
import Derived.Lib.Hide
namespace Go.Proofs.YtcnnfhcpkbjolaaDoor
open Go.RowKit Go.Lib

def sumS (l : List ByteArray) : Nat := (l.map (·.size)).sum
theorem sumS_snoc (l : List ByteArray) (k : Nat) (h : k < l.length) : sumS (l.take (k + 1)) = sumS (l.take k) + l[k].size := by
  unfold sumS
  rw [List.take_succ_eq_append_getElem h, List.map_append, List.sum_append]; rfl
theorem sumS_all (l : List ByteArray) : sumS (l.take l.length) = sumS l := by rw [List.take_of_length_le (Nat.le_refl _)]
theorem sumS_mem (l : List ByteArray) (t : ByteArray) (h : t ∈ l) : t.size ≤ sumS l := by
  induction l with
  | nil => cases h
  | cons x r ih =>
    simp only [sumS, List.map_cons, List.sum_cons] at ih ⊢
    rcases List.mem_cons.1 h with rfl | h
    · omega
    · have := ih h; omega
/-- The measure that the laws take: -1, or all is small. -/
def SzS (l : List ByteArray) (left : Int) (w : World) (e : Ending) (w' : World) : Prop :=
  ∃ r : Int, e = .returned (.int .i64 r) ∧ w = w' ∧ (r = -1 ∨ (0 ≤ r ∧ r + ((l.length : Int) + (sumS l : Int)) ≤ left))

set_option maxHeartbeats 1000000 in
theorem l_szStrS (a : Option Addr) (cap : Nat) (l : List ByteArray) (left : Int) (w : World) (hm : l.length ≤ maxLen) (ha : ArgS w a l) (h0 : 0 ≤ left) (h1 : left ≤ 1048576) :
    Calls Tryd.prog 71 #[.slice a l.length cap, .int .i64 left] w (SzS l left w) := by
  have HA := Lib.hid ha
  clear ha
  unfold maxLen at hm
  by_cases hbig : left < (l.length : Int)
  · have hd : decide (left - (l.length : Int) < 0) = true := by simp; omega
    go_enter Tryd.func71, Tryd.ntmps71
    go_wp2
    all_goals go_ret
    all_goals exact ⟨-1, rfl, rfl, .inl rfl⟩
  have hd : decide (left - (l.length : Int) < 0) = false := by simp; omega
  have g0 : 0 ≤ left - (l.length : Int) := by omega
  go_enter Tryd.func71, Tryd.ntmps71
  go_wp2_with fail
  clear hd
  go_loop [1, 5] (fun x i => ∃ k : Nat, k ≤ l.length ∧ i = .int .i64 (k : Int) ∧ x = .int .i64 (left - (l.length : Int) - (sumS (l.take k) : Int)) ∧ (l.length : Int) + (sumS (l.take k) : Int) ≤ left) (fun _ i => l.length - (intOf i).toNat)
  case atStart => exact ⟨0, Nat.zero_le _, rfl, by simp [sumS], by simp [sumS]; omega⟩
  case round =>
    obtain ⟨k, hk, rfl, rfl, hle⟩ := hrel
    obtain ⟨r, hr⟩ : ∃ r : Int, left - (l.length : Int) - (sumS (l.take k) : Int) = r := ⟨_, rfl⟩
    have hr0 : 0 ≤ r := by omega
    have hr1 : r ≤ 1048576 := by omega
    by_cases hlt : k < l.length
    · obtain ⟨x, rfl, hx, c0, hsz⟩ := HA.out k hlt
      have HS := Lib.hid (sumS_snoc l k hlt)
      obtain ⟨t, ht⟩ : ∃ t, l[k] = t := ⟨_, rfl⟩
      rw [ht] at c0 hsz HS
      have hsz' := hsz
      unfold maxLen at hsz'
      have k0 : (0 : Int) ≤ (k : Int) := by omega
      have k1 : (k : Int) < (l.length : Int) := by omega
      have HR := Lib.hid hr
      rw [hr]
      clear hr ht hsz
      by_cases hs : (t.size : Int) ≤ r
      · have hd : decide (r - (t.size : Int) < 0) = false := by simp; omega
        go_wp2
        go_round
        case rel => exact ⟨k + 1, by omega, by go_num, by rw [HS.out, ← HR.out]; go_num, by rw [HS.out]; have := HR.out; omega⟩
        case measure => simp [intOf]; omega
      · have hd : decide (r - (t.size : Int) < 0) = true := by simp; omega
        go_wp2
        go_ret
        exact ⟨-1, rfl, rfl, .inl rfl⟩
    · have hkk : k = l.length := by omega
      subst hkk
      have HS := Lib.hid (sumS_all l)
      have HR := Lib.hid hr
      rw [hr]
      clear hr
      go_wp2
      go_ret
      exact ⟨r, rfl, rfl, .inr ⟨hr0, by have := HR.out; have := HS.out; omega⟩⟩

/-- A row of strings was returned. -/
def StrRes (T B : Nat) (l : List ByteArray) (w : World) (e : Ending) (w' : World) : Prop :=
  ∃ v, e = .returned v ∧ w'.ownsRow B T 1 v l.length (strV l) ∧ Below w.heap.size w w'
def headB (k : Nat) (l : List ByteArray) (R : List Value) : List Value := strV (l.take k) ++ R
theorem headB_set (k : Nat) (l : List ByteArray) (h : k < l.length) (a : Value) (R : List Value) : (headB k l (a :: R)).set k (.string l[k]) = headB (k + 1) l R := by
  have hl : (strV (l.take k)).length = k := by rw [strV_length, List.length_take]; omega
  have e : strV (l.take (k + 1)) = strV (l.take k) ++ [.string l[k]] := by
    rw [List.take_succ_eq_append_getElem h]
    unfold strV
    rw [List.map_append]
    rfl
  unfold headB
  rw [e, List.set_append_right _ _ (by omega), hl, Nat.sub_self, List.append_assoc]
  rfl
theorem infoSl : (Tryd.prog.info? 9).map (fun i => (i.zero, i.size, i.bytes)) = some (some (.string ⟨#[]⟩), 1, 16) := by kernel_rfl

set_option maxHeartbeats 1000000 in
theorem l_toStrS (a : Option Addr) (cap : Nat) (l : List ByteArray) (w : World) (hl : l.length ≤ 1048576) (ha : ArgS w a l) :
    Calls Tryd.prog 75 #[.slice a l.length cap] w (StrRes 9 w.heap.size l w) := by
  have HA := Lib.hid ha
  clear ha
  obtain ⟨i0, hi, hz0, hz1, hz2⟩ := info_parts infoSl
  have hmk := fun W => run_make_rowN (P := Tryd.prog) 45 9 i0 _ 1 16 Tryd.underlying45 hi hz0 hz1 hz2 .i64 .i64 l.length l.length (Nat.le_refl _) (by omega) (by omega) W
  obtain ⟨cs, hcs⟩ : ∃ cs, madeCells (Value.string ⟨#[]⟩).cells (l.length * 1) = cs := ⟨_, rfl⟩
  have hcsz : cs.size = l.length * 1 := by rw [← hcs, size_madeCells]
  rw [hcs] at hmk
  clear hcs hi hz0 hz1 hz2
  have HZ := Lib.hid hcsz
  clear hcsz
  go_enter Tryd.func75, Tryd.ntmps75
  go_wp2_with fail
  clear hmk
  go_loopw [4] (fun i wr => ∃ (k : Nat) (R : List Value), k ≤ l.length ∧ i = .int .i64 (k : Int) ∧ R.length = l.length - k ∧ wr.ownsRow w.heap.size 9 1 (.slice (some ⟨w.heap.size, 0, none⟩) l.length l.length) l.length (headB k l R) ∧ Below w.heap.size w wr) (fun i _ => l.length - (intOf i).toNat)
  case atStart => exact ⟨0, cs.toList, Nat.zero_le _, rfl, by have := HZ.out; simpa using this, World.ownsRow_lit _ _ _ (Nat.le_refl _) (by unfold maxLen; omega) HZ.out, (Below.refl _ _).alloc (Nat.le_refl _) _⟩
  case round =>
    obtain ⟨k, R, hk, rfl, hR, hown, hbel⟩ := hrel
    have HO := Lib.hid hown
    have HB := Lib.hid hbel
    have hB := hbel.size
    have hgl : w.heap.size < wr.heap.size := (hown.lt w.heap.size rfl).2
    clear hown
    by_cases hlt : k < l.length
    · obtain ⟨x, rfl, hx, c0, hsz⟩ := HA.out k hlt
      obtain ⟨y0, R', hRe⟩ : ∃ y R', R = y :: R' := by
        cases R with
        | nil => simp at hR; omega
        | cons y R' => exact ⟨y, R', rfl⟩
      subst hRe
      have HR' : Hid (R'.length = l.length - (k + 1)) := Lib.hid (by simp at hR; omega)
      have HS := Lib.hid (headB_set k l hlt y0 R')
      obtain ⟨t, ht⟩ : ∃ t, l[k] = t := ⟨_, rfl⟩
      rw [ht] at c0 HS
      have d0 : wr.cell? (x.add k) = some (.string t) := (hbel.cell (by rw [addr_block]; exact hx)).trans c0
      have k0 : (0 : Int) ≤ (k : Int) := by omega
      have k1 : (k : Int) < (l.length : Int) := by omega
      have hlen : (headB k l (y0 :: R')).length = l.length * 1 := HO.out.1
      obtain ⟨z0, e0⟩ : ∃ y, wr.cell? ⟨w.heap.size, k, none⟩ = some y := by
        rw [HO.out.cellAt k (by omega)]
        exact ⟨_, List.getElem?_eq_getElem (by omega)⟩
      have fr := HO.out.frozenAt
      have S1 := HO.out.stored k (.string t)
      have HO2 := Lib.hid (HS.out ▸ S1.1)
      have HB2 := Lib.hid (HB.out.grown S1.2 (by omega) (fun j hj => by injection hj with e; omega))
      clear c0 hbel ht hR hsz hlen S1
      go_wp2
      go_roundw
      case rel => exact ⟨k + 1, R', by omega, by go_num, HR'.out, HO2.out, HB2.out⟩
      case measure => simp [intOf]; omega
    · have hkk : k = l.length := by omega
      subst hkk
      have hR0 : R = [] := List.length_eq_zero_iff.1 (by rw [hR]; simp)
      subst hR0
      go_wp2
      go_ret
      exact ⟨_, rfl, by have := HO.out; unfold headB at this; rw [List.take_of_length_le (Nat.le_refl _), List.append_nil] at this; exact this, HB.out⟩
end Go.Proofs.YtcnnfhcpkbjolaaDoor
