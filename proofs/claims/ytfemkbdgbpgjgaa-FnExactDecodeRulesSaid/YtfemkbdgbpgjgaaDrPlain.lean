/- Plain facts on rules out of numbers. -/
import Derived.Test.YtfemkbdgbpgjgaaVruPlain
namespace Go.Proofs.Ytfemkbdgbpgjgaa
open Go.RowKit Go.Lib

theorem rdN_take4 (n : List Int) (k : Nat) (h4 : k % 4 = 0) (h : k + 3 < n.length) :
    rdN 0 (n.take (k + 4)) = rdN 0 (n.take k) ++ [⟨lastE 0 (rdN 0 (n.take k)) + n[k], lastE 0 (rdN 0 (n.take k)) + n[k] + n[k + 1], decide (n[k + 2] = 1), n[k + 3]⟩] := by
  obtain ⟨j, rfl⟩ : ∃ j, k = 4 * j := ⟨k / 4, by omega⟩
  have := rdN_take n j (by omega)
  rw [show 4 * (j + 1) = 4 * j + 4 from by omega] at this
  exact this
theorem rdN_len4 (n : List Int) (k : Nat) (h4 : k % 4 = 0) (h : k ≤ n.length) : (rdN 0 (n.take k)).length = k / 4 := rdN_length (k / 4) _ 0 (by rw [List.length_take]; omega)
theorem upN_bd (s : List UInt8) (p : Nat) : ∀ (k : Nat) (l : List Int) (q : Nat), upN s p k = some (l, q) → ∀ x ∈ l, -549755813888 ≤ x ∧ x ≤ 549755813887 := by
  intro k
  induction k with
  | zero => intro l q h; unfold upN at h; injection h with h; injection h with h1 h2; subst h1; simp
  | succ k ih =>
    intro l q h
    cases hc : upN s p k with
    | none => rw [upN_none s p k hc] at h; cases h
    | some lq =>
      obtain ⟨l', q'⟩ := lq
      have hi := ih l' q' hc
      rcases dcV_cases (s.drop q') with e | ⟨n, z, e, h1, h2, h3, h4, h5⟩
      · rw [upN_no s p k q' l' hc e] at h; cases h
      · rw [upN_ok s p k n z q' l' hc e] at h
        injection h with h
        injection h with ha hb
        subst ha
        intro x hx
        rcases List.mem_append.1 hx with hx | hx
        · exact hi x hx
        · obtain rfl : x = sgdZ (n : Int) := by simpa using hx
          exact sgd_bd _
theorem unZ_bd (s : List UInt8) (a : Int) : ∀ x ∈ (unZ s a).1, -549755813888 ≤ x ∧ x ≤ 549755813887 := by
  rcases dvZ_cases s a with e | ⟨i, n, z, rfl, e, h1, h2, h3, h4⟩
  · rw [unZ_no s a e]; simp
  · cases hc : upN s (i + z) n with
    | none => rw [unZ_none s i n z e hc]; simp
    | some lq =>
      rw [unZ_some s i n z lq.2 lq.1 e hc]
      exact upN_bd s (i + z) n lq.1 lq.2 hc
/-- The sums stay small. -/
theorem rdN_end (n : List Int) (hb : ∀ x ∈ n, -549755813888 ≤ x ∧ x ≤ 549755813887) : ∀ j, 4 * j ≤ n.length → -(j : Int) * 1099511627776 ≤ lastE 0 (rdN 0 (n.take (4 * j))) ∧ lastE 0 (rdN 0 (n.take (4 * j))) ≤ (j : Int) * 1099511627776 := by
  intro j
  induction j with
  | zero => intro _; simp [rdN, lastE]
  | succ j ih =>
    intro h
    have hi := ih (by omega)
    have e := rdN_take n j (by omega)
    have b0 := hb _ (List.getElem_mem (show 4 * j < n.length by omega))
    have b1 := hb _ (List.getElem_mem (show 4 * j + 1 < n.length by omega))
    rw [e, lastE_snoc]
    simp only
    omega
theorem rdN_end4 (n : List Int) (hb : ∀ x ∈ n, -549755813888 ≤ x ∧ x ≤ 549755813887) (k : Nat) (h4 : k % 4 = 0) (h : k ≤ n.length) (hl : n.length ≤ 1048576) :
    -576460752303423488 ≤ lastE 0 (rdN 0 (n.take k)) ∧ lastE 0 (rdN 0 (n.take k)) ≤ 576460752303423488 := by
  obtain ⟨j, rfl⟩ : ∃ j, k = 4 * j := ⟨k / 4, by omega⟩
  have := rdN_end n hb j h
  omega
theorem below_appD {B e n s : Nat} {w0 wr w1 : World} {X : Obj} {v : Value} {xs : List Value} (hown : wr.ownsRow B e s v n xs) (hbel : Below B w0 wr) (hB : B ≤ wr.heap.size)
    (hg : (wr.alloc X).grownBy w1 v.ownBlock) : Below B w0 w1 :=
  (hbel.alloc hB X).grown hg (by simp; omega) (fun k hk => (hown.lt k hk).1)
theorem owns_lowD {B B' T n s : Nat} {w : World} {v : Value} {xs : List Value} (h : w.ownsRow B T s v n xs) (hb : B' ≤ B) : w.ownsRow B' T s v n xs := by
  refine ⟨h.1, ?_⟩
  rcases h.2 with hn | ⟨g, cap, cur, e, hB, r⟩
  · exact .inl hn
  · exact .inr ⟨g, cap, cur, e, Nat.le_trans hb hB, r⟩
/-- What DecodeRules returns: rules in a row of their own from block B on, and whether there are any. -/
def DrR (T B : Nat) (r : List RuL × Bool) (w : World) (e : Ending) (w' : World) : Prop :=
  ∃ v, e = .returned (.tuple #[v, .bool r.2]) ∧ w'.ownsRow B T 4 v r.1.length (rusV r.1) ∧ Below w.heap.size w w'
theorem ret_nD {r q : List RuL × Bool} (h : r = q) {T B : Nat} {w : World} {e : Ending} {w' : World} (hu : DrR T B r w e w') : DrR T B q w e w' := h ▸ hu
end Go.Proofs.Ytfemkbdgbpgjgaa
