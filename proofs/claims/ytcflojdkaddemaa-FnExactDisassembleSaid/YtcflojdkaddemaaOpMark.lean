/- The laws' own functions on rows of instructions: equality, marks. -/
import Derived.Test.YtcflojdkaddemaaOpDis
import Derived.Test.YtcflojdkaddemaaOpEq
namespace Go.Proofs.Ytcflojdkaddemaa
open Go.RowKit Go.Lib

def ReadP (w : World) (a : Option Addr) (l : List OpL) : Prop :=
  ∀ j (h : j < l.length), ∃ g, a = some ⟨g, 0, none⟩ ∧ g < w.heap.size ∧ w.cell? ⟨g, j * 2, none⟩ = some (.int .i64 l[j].code) ∧ w.cell? ⟨g, j * 2 + 1, none⟩ = some (.int .i64 l[j].arg)
theorem opV_get (L : List OpL) (j : Nat) (h : j < L.length) : (opV L)[j * 2]? = some (.int .i64 L[j].code) ∧ (opV L)[j * 2 + 1]? = some (.int .i64 L[j].arg) := by
  have e : L = L.take j ++ (L[j] :: L.drop (j + 1)) := by rw [← List.drop_eq_getElem_cons h, List.take_append_drop]
  have hl : (opV (L.take j)).length = j * 2 := by rw [opV_length, List.length_take]; omega
  have h2 : opV L = opV (L.take j) ++ (.int .i64 L[j].code :: .int .i64 L[j].arg :: opV (L.drop (j + 1))) := by
    conv => lhs; rw [e]
    rw [opV_append]
    rfl
  rw [h2, List.getElem?_append_right (by omega), List.getElem?_append_right (by omega), hl, Nat.sub_self, Nat.add_sub_cancel_left]
  exact ⟨rfl, rfl⟩
theorem readP_of {B T c : Nat} {w : World} {a : Option Addr} {l : List OpL} (h : w.ownsRow B T 2 (.slice a l.length c) l.length (opV l)) : ReadP w a l := by
  intro j hj
  rcases h.2 with ⟨he, h0⟩ | ⟨g, cap, cur, he, hB, hg, _⟩
  · omega
  · have ha : a = some ⟨g, 0, none⟩ := by injection he
    subst ha
    have hlt : g < w.heap.size := by
      rcases Nat.lt_or_ge g w.heap.size with h | h
      · exact h
      · rw [Array.getElem?_eq_none h] at hg; cases hg
    refine ⟨g, rfl, hlt, ?_, ?_⟩
    · rw [h.cellAt _ (by omega)]; exact (opV_get l j hj).1
    · rw [h.cellAt _ (by omega)]; exact (opV_get l j hj).2
theorem ReadP.below {w w' : World} {a : Option Addr} {l : List OpL} (h : ReadP w a l) (hb : Below w.heap.size w w') : ReadP w' a l := by
  intro j hj
  obtain ⟨g, e, hg, c0, c1⟩ := h j hj
  exact ⟨g, e, Nat.lt_of_lt_of_le hg hb.size, (hb.cell (p := ⟨g, _, none⟩) hg).trans c0, (hb.cell (p := ⟨g, _, none⟩) hg).trans c1⟩
/-- The marks. -/
def mkOp (m j : Nat) : OpL := ⟨((m + 2 * j : Nat) : Int), ((m + 2 * j + 1 : Nat) : Int)⟩
def mkOps (m n : Nat) : List OpL := (List.range n).map (mkOp m)
theorem mkOps_length (m n : Nat) : (mkOps m n).length = n := by simp [mkOps]
theorem mkOps_get (m n j : Nat) (h : j < (mkOps m n).length) : (mkOps m n)[j] = mkOp m j := by simp [mkOps]
def headO (k : Nat) (l : List OpL) (R : List Value) : List Value := opV (l.take k) ++ R
theorem headO_set (k : Nat) (l : List OpL) (h : k < l.length) (a b : Value) (R : List Value) :
    ((headO k l (a :: b :: R)).set (k * 2) (.int .i64 l[k].code)).set (k * 2 + 1) (.int .i64 l[k].arg) = headO (k + 1) l R := by
  have hl : (opV (l.take k)).length = k * 2 := by rw [opV_length, List.length_take]; omega
  have e : opV (l.take (k + 1)) = opV (l.take k) ++ [.int .i64 l[k].code, .int .i64 l[k].arg] := by
    rw [List.take_succ_eq_append_getElem h, opV_append]; rfl
  unfold headO
  rw [e, List.set_append_right _ _ (by omega), List.set_append_right _ _ (by omega), hl, List.append_assoc]
  congr 1
  rw [Nat.sub_self, Nat.add_sub_cancel_left]
  rfl
theorem twoO (R : List Value) (n : Nat) (h : R.length = (n + 1) * 2) : ∃ a b R', R = a :: b :: R' ∧ R'.length = n * 2 := by
  match R, h with
  | a :: b :: R', h => exact ⟨a, b, R', rfl, by simp at h; omega⟩
  | [], h => simp at h
  | [_], h => simp at h; omega

set_option maxHeartbeats 1000000 in
theorem l_eqOpS (a b : Option Addr) (c d : Nat) (l : List OpL) (w : World) (ha : ReadP w a l) (hb : ReadP w b l) (hl : l.length ≤ 1048576) :
    Calls Try.prog 19 #[.slice a l.length c, .slice b l.length d] w fun e w' => e = .returned (.bool true) ∧ Below w.heap.size w w' := by
  have HA := Lib.hid ha
  have HB := Lib.hid hb
  clear ha hb
  go_enter Try.func19, Try.ntmps19
  go_wp2_with fail
  go_loopw [5] (fun i wr => ∃ (k : Nat), k ≤ l.length ∧ i = .int .i64 (k : Int) ∧ Below w.heap.size w wr) (fun i _ => l.length - (intOf i).toNat)
  case atStart => exact ⟨0, Nat.zero_le _, rfl, Below.refl _ _⟩
  case round =>
    obtain ⟨k, hk, rfl, hbel⟩ := hrel
    have HBE := Lib.hid hbel
    have hB := hbel.size
    by_cases hlt : k < l.length
    · obtain ⟨g, rfl, hg, c0, c1⟩ := HA.out k hlt
      obtain ⟨g', rfl, hg', c0', c1'⟩ := HB.out k hlt
      have k0 : (0 : Int) ≤ (k : Int) := by omega
      have k1 : (k : Int) < (l.length : Int) := by omega
      obtain ⟨t, ht⟩ : ∃ t, l[k] = t := ⟨_, rfl⟩
      rw [ht] at c0 c1 c0' c1'
      have d0 : wr.cell? ⟨g, k * 2, none⟩ = some (.int .i64 t.code) := (hbel.cell (p := ⟨g, _, none⟩) hg).trans c0
      have d1 : wr.cell? ⟨g, k * 2 + 1, none⟩ = some (.int .i64 t.arg) := (hbel.cell (p := ⟨g, _, none⟩) hg).trans c1
      have d0' : wr.cell? ⟨g', k * 2, none⟩ = some (.int .i64 t.code) := (hbel.cell (p := ⟨g', _, none⟩) hg').trans c0'
      have d1' : wr.cell? ⟨g', k * 2 + 1, none⟩ = some (.int .i64 t.arg) := (hbel.cell (p := ⟨g', _, none⟩) hg').trans c1'
      have gw : g < wr.heap.size := by omega
      have gw' : g' < wr.heap.size := by omega
      clear HA HB c0 c1 c0' c1' ht hbel
      go_wp2_with fail
      go_region_held3 (fun w' => w'.cell? ⟨g, k * 2, none⟩ = some (.int .i64 t.code) ∧ w'.cell? ⟨g, k * 2 + 1, none⟩ = some (.int .i64 t.arg) ∧
          w'.cell? ⟨g', k * 2, none⟩ = some (.int .i64 t.code) ∧ w'.cell? ⟨g', k * 2 + 1, none⟩ = some (.int .i64 t.arg))
        (first
          | go_keep
          | (go_split_ands
             refine ⟨(b1.cell (p := ⟨g, _, none⟩) gw).trans ?_, (b1.cell (p := ⟨g, _, none⟩) gw).trans ?_, (b1.cell (p := ⟨g', _, none⟩) gw').trans ?_, (b1.cell (p := ⟨g', _, none⟩) gw').trans ?_⟩ <;> assumption))
        (first
        | (go_at_call 17; refine (l_eqOp _ _ _).mono ?_; rintro e w1 ⟨rfl, b1⟩))
      all_goals
        have HB1 := Lib.hid (HBE.out.drew.trans (b1.mono hB))
        clear b1
        go_wp2
        go_roundw
        case rel => exact ⟨k + 1, by omega, by go_num, HB1.out⟩
        case measure => simp [intOf]; omega
    · go_wp2
      go_ret
      exact ⟨rfl, HBE.out⟩

set_option maxHeartbeats 1000000 in
theorem l_markOpS (a : Option Addr) (c n : Nat) (xs : List Value) (m B : Nat) (w : World) (hown : w.ownsRow B 28 2 (.slice a n c) n xs) (hl : n ≤ 1048576) (h1 : m ≤ 1048576) :
    Calls Try.prog 20 #[.slice a n c, .int .i64 (m : Int)] w fun e w' => e = .returned (.int .i64 ((m + 2 * n : Nat) : Int)) ∧ w'.ownsRow B 28 2 (.slice a n c) n (opV (mkOps m n)) ∧ w.grownBy w' (Value.slice a n c).ownBlock := by
  have HO := Lib.hid hown
  clear hown
  go_enter Try.func20, Try.ntmps20
  go_wp2_with fail
  go_loopw [1, 5] (fun x i wr => ∃ (k : Nat) (R : List Value), k ≤ n ∧ i = .int .i64 (k : Int) ∧ x = .int .i64 ((m + 2 * k : Nat) : Int) ∧ R.length = (n - k) * 2 ∧ wr.ownsRow B 28 2 (.slice a n c) n (headO k (mkOps m n) R) ∧ w.grownBy wr (Value.slice a n c).ownBlock) (fun _ i _ => n - (intOf i).toNat)
  case atStart => exact ⟨0, xs, Nat.zero_le _, rfl, rfl, by simpa using HO.out.1, HO.out, World.grownBy.refl _ _⟩
  case round =>
    obtain ⟨k, R, hk, rfl, rfl, hR, hown, hg⟩ := hrel
    have HOW := Lib.hid hown
    have HG := Lib.hid hg
    clear hown hg
    by_cases hlt : k < n
    · obtain ⟨g, cap, cur, he, hgB, hgw⟩ : ∃ g cap cur, Value.slice a n c = .slice (some ⟨g, 0, none⟩) n cap ∧ B ≤ g ∧ wr.heap[g]? = some (.cells cur 28 (0, 0)) := by
        rcases HOW.out.2 with ⟨_, h0⟩ | ⟨g, cap, cur, he, h1, h2, _⟩
        · omega
        · exact ⟨g, cap, cur, he, h1, h2⟩
      injection he with ha _ hc
      subst ha hc
      clear hgw
      obtain ⟨y0, y1, R', hRe, hR'⟩ := twoO R (n - (k + 1)) (by rw [hR]; congr 1; omega)
      subst hRe
      have HR' := Lib.hid hR'
      have hkl : k < (mkOps m n).length := by rw [mkOps_length]; exact hlt
      have HS := Lib.hid (headO_set k (mkOps m n) hkl y0 y1 R')
      rw [mkOps_get] at HS
      have hlen : (headO k (mkOps m n) (y0 :: y1 :: R')).length = n * 2 := HOW.out.1
      have cellk : ∀ i, i < 2 → ∃ y, wr.cell? ⟨g, k * 2 + i, none⟩ = some y := fun i hi => by
        have := HOW.out.cellAt (k * 2 + i) (by omega)
        rw [this]
        exact ⟨_, List.getElem?_eq_getElem (by omega)⟩
      obtain ⟨z0, e0⟩ := cellk 0 (by omega)
      rw [Nat.add_zero] at e0
      obtain ⟨z1, e1⟩ := cellk 1 (by omega)
      have fr := HOW.out.frozenAt
      have S1 := HOW.out.stored (k * 2) (.int .i64 ((m + 2 * k : Nat) : Int))
      have S2 := S1.1.stored (k * 2 + 1) (.int .i64 ((m + 2 * k + 1 : Nat) : Int))
      rw [show ((m + 2 * k : Nat) : Int) = (m : Int) + 2 * (k : Int) from by omega] at S1 S2
      rw [show ((m + 2 * k + 1 : Nat) : Int) = (m : Int) + 2 * (k : Int) + 1 from by omega] at S2
      have HE : Hid (((headO k (mkOps m n) (y0 :: y1 :: R')).set (k * 2) (.int .i64 ((m : Int) + 2 * (k : Int)))).set (k * 2 + 1) (.int .i64 ((m : Int) + 2 * (k : Int) + 1)) = headO (k + 1) (mkOps m n) R') := Lib.hid (by
        have := HS.out
        simp only [mkOp] at this
        rw [show ((m + 2 * k : Nat) : Int) = (m : Int) + 2 * (k : Int) from by omega, show ((m + 2 * k + 1 : Nat) : Int) = (m : Int) + 2 * (k : Int) + 1 from by omega] at this
        exact this)
      have HO2 := Lib.hid (HE.out ▸ S2.1)
      have HG2 := Lib.hid ((HG.out.trans S1.2).trans S2.2)
      have k0 : (0 : Int) ≤ (k : Int) := by omega
      have k1 : (k : Int) < (n : Int) := by omega
      clear cellk hlen S1 S2 hR hR' hkl
      go_wp2
      go_roundw
      case rel => exact ⟨k + 1, R', by omega, by go_num, by go_num, HR'.out, HO2.out, HG2.out⟩
      case measure => simp [intOf]; omega
    · have hkk : k = n := by omega
      subst hkk
      have hR0 : R = [] := List.length_eq_zero_iff.1 (by rw [hR]; simp)
      subst hR0
      go_wp2
      go_ret
      exact ⟨rfl, by have := HOW.out; unfold headO at this; rw [List.take_of_length_le (by rw [mkOps_length]; exact Nat.le_refl _), List.append_nil] at this; exact this, HG.out⟩

set_option maxHeartbeats 1000000 in
theorem l_heldOpS (a : Option Addr) (c n : Nat) (m : Nat) (w : World) (hr : ReadP w a (mkOps m n)) (hl : n ≤ 1048576) (h1 : m ≤ 1048576) :
    Calls Try.prog 21 #[.slice a n c, .int .i64 (m : Int)] w fun e w' => e = .returned (.int .i64 ((m + 2 * n : Nat) : Int)) ∧ Below w.heap.size w w' := by
  have HR := Lib.hid hr
  clear hr
  go_enter Try.func21, Try.ntmps21
  go_wp2_with fail
  go_loopw [1, 5] (fun x i wr => ∃ k : Nat, k ≤ n ∧ i = .int .i64 (k : Int) ∧ x = .int .i64 ((m + 2 * k : Nat) : Int) ∧ Below w.heap.size w wr) (fun _ i _ => n - (intOf i).toNat)
  case atStart => exact ⟨0, Nat.zero_le _, rfl, rfl, Below.refl _ _⟩
  case round =>
    obtain ⟨k, hk, rfl, rfl, hbel⟩ := hrel
    have HB := Lib.hid hbel
    have hsz := hbel.size
    by_cases hlt : k < n
    · obtain ⟨g, rfl, hg, c0, c1⟩ := HR.out k (by rw [mkOps_length]; exact hlt)
      rw [mkOps_get] at c0 c1
      simp only [mkOp] at c0 c1
      rw [show ((m + 2 * k : Nat) : Int) = (m : Int) + 2 * (k : Int) from by omega] at c0
      rw [show ((m + 2 * k + 1 : Nat) : Int) = (m : Int) + 2 * (k : Int) + 1 from by omega] at c1
      have d0 := (hbel.cell (p := ⟨g, k * 2, none⟩) hg).trans c0
      have d1 := (hbel.cell (p := ⟨g, k * 2 + 1, none⟩) hg).trans c1
      have k0 : (0 : Int) ≤ (k : Int) := by omega
      have k1 : (k : Int) < (n : Int) := by omega
      clear c0 c1 hbel
      go_wp2
      go_roundw
      case rel => exact ⟨k + 1, by omega, by go_num, by go_num, HB.out⟩
      case measure => simp [intOf]; omega
    · have hkk : k = n := by omega
      subst hkk
      go_wp2
      go_ret
      exact ⟨rfl, HB.out⟩
end Go.Proofs.Ytcflojdkaddemaa
