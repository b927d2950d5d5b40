/- Instructions, plain: their widths, which are valid, their bytes, and what is read from bytes. Nothing of the program. -/
import Derived.Test.YtakgjlpgcepnkaaPlainA
namespace Go.Proofs.Ytakgjlpgcepnkaa
open Go.RowKit Go.Lib

structure OpL where
  code : Int
  arg : Int
/-- How many bytes an argument has; whether it has a sign. -/
def widN (c : Int) : Nat := if c = 0 then 4 else if c = 1 ∨ c = 2 ∨ c = 3 ∨ c = 4 ∨ c = 10 ∨ c = 11 ∨ c = 16 then 2 else if c = 12 ∨ c = 13 ∨ c = 14 ∨ c = 15 then 1 else 0
def sgnB (c : Int) : Bool := decide (0 ≤ c) && decide (c ≤ 4) || decide (c = 10) || decide (c = 11)
def codeB (c : Int) : Bool := decide (0 ≤ c) && decide (c ≤ 17)
def sizZ (c : Int) : Int := if codeB c = true then 1 + (widN c : Int) else 0
/-- The smallest and the greatest argument. -/
def loZ (c : Int) : Int := if sgnB c = true then -((256 ^ widN c : Nat) : Int) / 2 else 0
def hiZ (c : Int) : Int := if sgnB c = true then ((256 ^ widN c : Nat) : Int) / 2 - 1 else ((256 ^ widN c : Nat) : Int) - 1
def insB (x : OpL) : Bool := codeB x.code && (decide (loZ x.code ≤ x.arg) && decide (x.arg ≤ hiZ x.code))
/-- A byte of an argument; the first w of them. -/
def bytA (a : Int) (k : Nat) : UInt8 := UInt8.ofNat ((a / (256 ^ k : Nat)) % 256).toNat
def argB (a : Int) (w : Nat) : List UInt8 := (List.range w).map (bytA a)
def opBytes (x : OpL) : List UInt8 := UInt8.ofNat x.code.toNat :: argB x.arg (widN x.code)
def encL (x : OpL) : List UInt8 := if insB x = true then opBytes x else []
/-- The number that bytes stand for, the lowest first. -/
def valB : List UInt8 → Nat
  | [] => 0
  | b :: r => b.toNat + 256 * valB r
/-- With the sign. -/
def sgnV (c : Int) (v : Nat) : Int := if sgnB c = true ∧ 256 ^ widN c ≤ 2 * v then (v : Int) - ((256 ^ widN c : Nat) : Int) else (v : Int)
/-- The instruction at the beginning of bytes, and its size. -/
def dec1 : List UInt8 → Option (OpL × Nat)
  | [] => none
  | b :: r => if (b.toNat : Int) ≤ 17 ∧ widN (b.toNat : Int) ≤ r.length then some (⟨(b.toNat : Int), sgnV (b.toNat : Int) (valB (r.take (widN (b.toNat : Int))))⟩, 1 + widN (b.toNat : Int)) else none
def decZ (l : List UInt8) (a : Int) : Option (OpL × Nat) := if a < 0 then none else dec1 (l.drop a.toNat)
theorem widN_le (c : Int) : widN c ≤ 4 := by unfold widN; split <;> (try split) <;> (try split) <;> omega
theorem widN_cases (c : Int) : widN c = 0 ∨ widN c = 1 ∨ widN c = 2 ∨ widN c = 4 := by unfold widN; split <;> (try split) <;> (try split) <;> simp
theorem sgn_wid (c : Int) (h : sgnB c = true) : widN c = 2 ∨ widN c = 4 := by
  unfold sgnB at h
  simp only [Bool.or_eq_true, Bool.and_eq_true, decide_eq_true_eq] at h
  unfold widN
  split
  · exact .inr rfl
  · rw [if_pos (by omega)]; exact .inl rfl
theorem bytA_zero (a : Int) : bytA a 0 = UInt8.ofNat (a % 256).toNat := by
  unfold bytA
  rw [Nat.pow_zero]
  simp
theorem bytA_succ (a : Int) (k : Nat) : bytA a (k + 1) = bytA (a / 256) k := by
  unfold bytA
  have h : a / ((256 ^ (k + 1) : Nat) : Int) = a / 256 / ((256 ^ k : Nat) : Int) := by
    rw [Int.ediv_ediv, if_neg (by omega), Int.sub_zero, Nat.pow_succ, Nat.mul_comm, Int.natCast_mul]
    rfl
  rw [h]
theorem argB_succ (a : Int) (w : Nat) : argB a (w + 1) = UInt8.ofNat (a % 256).toNat :: argB (a / 256) w := by
  unfold argB
  rw [List.range_succ_eq_map, List.map_cons, List.map_map, bytA_zero]
  congr 1
  exact List.map_congr_left fun k _ => bytA_succ a k
theorem argB_length (a : Int) (w : Nat) : (argB a w).length = w := by simp [argB]
theorem argB_snoc (a : Int) (w : Nat) : argB a (w + 1) = argB a w ++ [bytA a w] := by
  unfold argB
  rw [List.range_succ, List.map_append]
  rfl
theorem byte_of (n : Int) (h0 : 0 ≤ n) (h1 : n < 256) : ((UInt8.ofNat n.toNat).toNat : Int) = n := by
  have : (UInt8.ofNat n.toNat).toNat = n.toNat % 256 := by simp
  rw [this]
  omega
/-- The bytes of an argument stand for it, but for multiples. -/
theorem valB_arg (w : Nat) : ∀ a : Int, (valB (argB a w) : Int) = a % ((256 ^ w : Nat) : Int) := by
  induction w with
  | zero => intro a; simp [argB, valB, Int.emod_one]
  | succ w ih =>
    intro a
    rw [argB_succ, valB]
    have h1 := byte_of (a % 256) (Int.emod_nonneg _ (by decide)) (Int.emod_lt_of_pos _ (by decide))
    have h2 := ih (a / 256)
    have hN : (0 : Int) < ((256 ^ w : Nat) : Int) := by exact Int.natCast_pos.2 (Nat.pow_pos (by decide))
    obtain ⟨N, hNe⟩ : ∃ N : Int, ((256 ^ w : Nat) : Int) = N := ⟨_, rfl⟩
    have hp : ((256 ^ (w + 1) : Nat) : Int) = 256 * N := by rw [Nat.pow_succ, Nat.mul_comm, Int.natCast_mul, hNe]; rfl
    rw [hNe] at h2 hN
    rw [hp]
    have e1 : a = 256 * (a / 256) + a % 256 := (Int.mul_ediv_add_emod a 256).symm
    have e2 : a / 256 = N * (a / 256 / N) + a / 256 % N := (Int.mul_ediv_add_emod (a / 256) N).symm
    have h3 := Int.emod_nonneg (a / 256) (show N ≠ 0 by omega)
    have h4 := Int.emod_lt_of_pos (a / 256) hN
    have h5 := Int.emod_nonneg a (show (256 : Int) ≠ 0 by decide)
    have h6 := Int.emod_lt_of_pos a (show (0 : Int) < 256 by decide)
    have e3 : a = (256 * (a / 256 % N) + a % 256) + 256 * N * (a / 256 / N) := by
      have e5 : 256 * N * (a / 256 / N) = 256 * (N * (a / 256 / N)) := Int.mul_assoc _ _ _
      obtain ⟨Y, hY⟩ : ∃ Y, N * (a / 256 / N) = Y := ⟨_, rfl⟩
      rw [e5, hY]
      rw [hY] at e2
      omega
    have e4 : a % (256 * N) = (256 * (a / 256 % N) + a % 256) % (256 * N) := by
      conv => lhs; rw [e3]
      exact Int.add_mul_emod_self_left _ _ _
    have e6 : (256 * (a / 256 % N) + a % 256) % (256 * N) = 256 * (a / 256 % N) + a % 256 := Int.emod_eq_of_lt (by omega) (by omega)
    rw [e4, e6, Int.natCast_add, Int.natCast_mul, h1, h2]
    show a % 256 + 256 * _ = _
    omega
theorem valB_take (l : List UInt8) : ∀ (k : Nat) (h : k < l.length), valB (l.take (k + 1)) = valB (l.take k) + l[k].toNat * 256 ^ k := by
  induction l with
  | nil => intro k h; simp at h
  | cons b r ih =>
    intro k h
    cases k with
    | zero => rw [List.take_succ_cons, List.take_zero, List.take_zero, valB]; simp [valB]
    | succ k =>
      have h' : k < r.length := by simpa using h
      rw [List.take_succ_cons, List.take_succ_cons, valB, valB, ih k h', List.getElem_cons_succ, Nat.pow_succ]
      rw [Nat.mul_add]
      have : 256 * (r[k].toNat * 256 ^ k) = r[k].toNat * (256 ^ k * 256) := by rw [Nat.mul_comm 256, Nat.mul_assoc]
      omega
theorem valB_lt (l : List UInt8) : valB l < 256 ^ l.length := by
  induction l with
  | nil => simp [valB]
  | cons b r ih =>
    rw [valB, List.length_cons, Nat.pow_succ]
    have := b.toNat_lt
    omega
theorem insB_parts (x : OpL) (h : insB x = true) : (0 ≤ x.code ∧ x.code ≤ 17) ∧ loZ x.code ≤ x.arg ∧ x.arg ≤ hiZ x.code := by
  unfold insB codeB at h
  simp only [Bool.and_eq_true, decide_eq_true_eq] at h
  exact h
/-- The argument comes back. -/
theorem sgnV_arg (x : OpL) (h : insB x = true) : sgnV x.code (valB (argB x.arg (widN x.code))) = x.arg := by
  obtain ⟨_, h1, h2⟩ := insB_parts x h
  have hv := valB_arg (widN x.code) x.arg
  obtain ⟨V, hV⟩ : ∃ V, valB (argB x.arg (widN x.code)) = V := ⟨_, rfl⟩
  rw [hV] at hv ⊢
  unfold sgnV
  unfold loZ at h1
  unfold hiZ at h2
  cases hs : sgnB x.code with
  | true =>
    rw [hs] at h1 h2
    rw [if_pos rfl] at h1 h2
    rcases sgn_wid _ hs with hw | hw
    · rw [hw] at hv h1 h2 ⊢
      have : ((256 ^ 2 : Nat) : Int) = 65536 := by decide
      rw [this] at hv h1 h2
      split
      · rename_i hc; have := hc.2; omega
      · rename_i hc; have : ¬ 256 ^ 2 ≤ 2 * V := fun h => hc ⟨rfl, h⟩; omega
    · rw [hw] at hv h1 h2 ⊢
      have : ((256 ^ 4 : Nat) : Int) = 4294967296 := by decide
      rw [this] at hv h1 h2
      split
      · rename_i hc; have := hc.2; omega
      · rename_i hc; have : ¬ 256 ^ 4 ≤ 2 * V := fun h => hc ⟨rfl, h⟩; omega
  | false =>
    rw [hs] at h1 h2
    rw [if_neg (by decide)] at h1 h2
    rw [if_neg (by simp)]
    rw [hv]
    exact Int.emod_eq_of_lt h1 (by omega)
theorem opBytes_length (x : OpL) : (opBytes x).length = 1 + widN x.code := by unfold opBytes; rw [List.length_cons, argB_length]; omega
/-- What is read from an instruction's bytes, whatever follows. -/
theorem dec1_enc (x : OpL) (h : insB x = true) (tl : List UInt8) : dec1 (opBytes x ++ tl) = some (x, 1 + widN x.code) := by
  obtain ⟨h0, _, _⟩ := insB_parts x h
  have hc : ((UInt8.ofNat x.code.toNat).toNat : Int) = x.code := byte_of x.code h0.1 (by omega)
  unfold opBytes
  rw [List.cons_append, dec1, hc]
  rw [if_pos ⟨h0.2, by rw [List.length_append, argB_length]; omega⟩, List.take_left' (argB_length _ _), sgnV_arg x h]
theorem decZ_at (p : List UInt8) (x : OpL) (h : insB x = true) (tl : List UInt8) : decZ (p ++ (opBytes x ++ tl)) (p.length : Int) = some (x, 1 + widN x.code) := by
  unfold decZ
  rw [if_neg (by omega), Int.toNat_natCast, List.drop_left' rfl, dec1_enc x h tl]
/-- Instructions one behind the other, with a bound on their number. -/
def disF : Nat → List UInt8 → Option (List OpL)
  | _, [] => some []
  | 0, _ :: _ => none
  | n + 1, b :: r => match dec1 (b :: r) with
    | none => none
    | some (x, k) => (disF n ((b :: r).drop k)).map (x :: ·)
def disZ (l : List UInt8) : Option (List OpL) := disF l.length l
theorem dec1_size (l : List UInt8) (x : OpL) (k : Nat) (h : dec1 l = some (x, k)) : 1 ≤ k ∧ k ≤ l.length := by
  cases l with
  | nil => cases h
  | cons b r =>
    rw [dec1] at h
    split at h
    · rename_i hc
      injection h with h
      injection h with _ h
      subst h
      rw [List.length_cons]
      omega
    · cases h
theorem disF_more : ∀ (n m : Nat) (l : List UInt8), l.length ≤ n → l.length ≤ m → disF n l = disF m l := by
  intro n
  induction n with
  | zero =>
    intro m l h _
    have : l = [] := List.length_eq_zero_iff.1 (by omega)
    subst this
    cases m <;> rfl
  | succ n ih =>
    intro m l h1 h2
    cases l with
    | nil => cases m <;> rfl
    | cons b r =>
      cases m with
      | zero => simp at h2
      | succ m =>
        rw [disF, disF]
        cases hd : dec1 (b :: r) with
        | none => rfl
        | some y =>
          obtain ⟨x, k⟩ := y
          have hk := dec1_size _ _ _ hd
          simp only
          rw [ih m ((b :: r).drop k) (by rw [List.length_drop]; omega) (by rw [List.length_drop]; omega)]
theorem disZ_nil : disZ [] = some [] := rfl
theorem disZ_next (l : List UInt8) (x : OpL) (k : Nat) (h : dec1 l = some (x, k)) : disZ l = (disZ (l.drop k)).map (x :: ·) := by
  have hk := dec1_size l x k h
  cases l with
  | nil => cases h
  | cons b r =>
    unfold disZ
    rw [List.length_cons, disF, h]
    simp only
    rw [disF_more r.length ((b :: r).drop k).length _ (by rw [List.length_drop, List.length_cons]; omega) (Nat.le_refl _)]
theorem disZ_bad (l : List UInt8) (hl : l ≠ []) (h : dec1 l = none) : disZ l = none := by
  cases l with
  | nil => exact absurd rfl hl
  | cons b r => unfold disZ; rw [List.length_cons, disF, h]
/-- Instructions can be read from their bytes, and from nothing that ends otherwise. -/
theorem disZ_enc (L : List OpL) (h : ∀ x ∈ L, insB x = true) (tl : List UInt8) : disZ (L.flatMap opBytes ++ tl) = (disZ tl).map (L ++ ·) := by
  induction L with
  | nil => simp
  | cons x r ih =>
    have hx := h x (List.mem_cons_self ..)
    rw [List.flatMap_cons, List.append_assoc, disZ_next _ x _ (dec1_enc x hx _), List.drop_left' (opBytes_length x), ih (fun y hy => h y (List.mem_cons_of_mem _ hy)), Option.map_map]
    congr 1
theorem disZ_end : disZ [255] = none := disZ_bad _ (by simp) (by decide)
end Go.Proofs.Ytakgjlpgcepnkaa
