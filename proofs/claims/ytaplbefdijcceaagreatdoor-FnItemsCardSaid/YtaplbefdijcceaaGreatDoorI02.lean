/- Runs of programs, plain: how much is put out, how large values are, where expressions end, and which loops are around a line; Instructions, plain: their widths, which are valid, their bytes, and what is read from bytes; Compiling, plain: the items of a function, made one behind the other; what they come to does not hang on the bound; What holds of the items whatever is compiled: jumps stay inside, chains are short, lines are the program's, what was made stays; What is compiled: jumps stay inside, each line with an expression has a start, and there is a result for every program; Each job of compiling comes to an end, whatever the program is; Plain facts on numbers of 32 bits; Folding, plain: the folded segments of a list of tokens, from the right to the left; Runs of programs, plain: what a run that is known says of its parts; Folding, plain: what a run of a folded program is; Folding, plain: what hangs on the lines' kinds, names and arguments alone; Folding, plain: what is folded is folded for good, and it is no longer than it was; Without replaced calls: each call is one instruction, and chains are empty; How many items there are at most; A function compiled: twice, for the words of its variables first; Runs of programs, plain: the variables of a function, by place and by name; Plain facts: What ParseLine hands back; Rows of lines that a call has made: each line's slices lie in rows of their own, apart from one another; and a text cut at its line feeds; Plain facts: Plain facts on the marks that the laws write into lists of strings; The marks that the laws write into rows of tokens; Marks that the laws write into lines in memory: which line holds which marks, and that the lines stay apart; Rows of numbers, in rows of their own, within a row: what a call has made, and their marks. -/
import Derived.Test.YtaplbefdijcceaaGreatDoorI01
import Derived.Test.YtaplbefdijcceaaGreatDoorI00
import Derived.WalkKit
import Derived.IntWalk
namespace Go.Proofs.YtaplbefdijcceaaGreatDoor
open Go.RowKit Go.Lib
def exprAt (p : List PLine) (k : Nat) : List TokL := match p[k]? with
  | none => []
  | some x => x.expr
theorem tokAt_getD (p : List PLine) (k i : Nat) : tokAt p k i = ((exprAt p k)[i]?).getD ⟨0, 0, ⟨#[]⟩⟩ := by
  unfold tokAt exprAt
  cases p[k]? with
  | none => simp
  | some x => rfl
theorem tokAt_get (p : List PLine) (k i : Nat) (h : i < (exprAt p k).length) : tokAt p k i = (exprAt p k)[i] := by
  rw [tokAt_getD, List.getElem?_eq_getElem h]
  rfl
theorem exprAt_get (p : List PLine) (k : Nat) (h : k < p.length) : exprAt p k = p[k].expr := by unfold exprAt; rw [List.getElem?_eq_getElem h]
def arN (t : TokL) : Nat := (arZ t).toNat
theorem arN_zero : arN ⟨0, 0, ⟨#[]⟩⟩ = 0 := by decide
theorem scan_one (l : List TokL) (i q : Nat) (h : scanN (l.drop i) 1 = some q) : ∃ hi : i < l.length, tokB l[i] = true ∧ ∃ q', q = q' + 1 ∧ scanN (l.drop (i + 1)) (arN l[i]) = some q' := by
  by_cases hi : i < l.length
  · rw [List.drop_eq_getElem_cons hi, scanN] at h
    split at h
    · rename_i hb
      refine ⟨hi, hb, ?_⟩
      rw [Nat.zero_add] at h
      simp only [Option.map_eq_some_iff] at h
      obtain ⟨q', h1, h2⟩ := h
      exact ⟨q', h2.symm, h1⟩
    · cases h
  · rw [List.drop_eq_nil_of_le (by omega)] at h
    simp [scanN] at h
theorem scan_next (l : List TokL) (i m q : Nat) (h : scanN (l.drop i) (m + 1) = some q) : ∃ q1 q2, scanN (l.drop i) 1 = some q1 ∧ scanN (l.drop (i + q1)) m = some q2 ∧ q = q1 + q2 := by
  rw [Nat.add_comm, scan_add] at h
  cases h1 : scanN (l.drop i) 1 with
  | none => rw [h1] at h; cases h
  | some q1 =>
    rw [h1] at h
    simp only [Option.bind_some, Option.map_eq_some_iff, List.drop_drop] at h
    obtain ⟨q2, h2, h3⟩ := h
    exact ⟨q1, q2, rfl, h2, by omega⟩
theorem end_is7 (p : List PLine) (l : List PLine) : ∀ (o : Int) (i : Nat), p.drop i = l → 1 ≤ o → 0 ≤ endF o i l → lkZ p (endF o i l) = 7 := by
  induction l with
  | nil => intro o i _ _ h; rw [endF] at h; omega
  | cons x r ih =>
    intro o i hd ho h
    have hl : i < p.length := by
      rcases Nat.lt_or_ge i p.length with h' | h'
      · exact h'
      · rw [List.drop_eq_nil_of_le h'] at hd; cases hd
    have hx := List.drop_eq_getElem_cons hl
    rw [hd] at hx
    injection hx with hx hr
    have hc := opn_cases x.kind
    rw [endF] at h ⊢
    by_cases h0 : o + opn x.kind = 0
    · rw [if_pos h0, lkZ_at p i hl, ← hx]
      omega
    · rw [if_neg h0] at h ⊢
      exact ih _ _ hr.symm (by omega) h
theorem beZ_7 (p : List PLine) (k : Int) (h : 0 ≤ beZ p k) : lkZ p (beZ p k) = 7 := by
  obtain ⟨j, rfl, hj, hop, _, _⟩ := beZ_is p k h
  rw [beZ_at p j hj hop] at h ⊢
  exact end_is7 p _ 1 (j + 1) rfl (by decide) h
theorem elseF_level (p : List PLine) (k : Int) (hk0 : 0 ≤ beZ p k) : ∀ (f i : Nat) (w : Nat), k < (i : Int) → i ≤ w → (w : Int) < elseF p (beZ p k) f i → (lkZ p (w : Int) = 3 ∨ lkZ p (w : Int) = 5) → beZ p (w : Int) < elseF p (beZ p k) f i := by
  intro f
  induction f with
  | zero => intro i w _ _ h; rw [elseF] at h; omega
  | succ f ih =>
    intro i w hki hiw h hw
    rw [elseF] at h ⊢
    by_cases hi : beZ p k ≤ (i : Int)
    · rw [if_pos hi] at h; omega
    · rw [if_neg hi] at h ⊢
      have hl := (beZ_lt p k).2
      have hil : i < p.length := by omega
      by_cases h4 : lkZ p i = 4
      · rw [if_pos h4] at h; omega
      · rw [if_neg h4] at h ⊢
        by_cases h35 : lkZ p i = 3 ∨ lkZ p i = 5
        · rw [if_pos h35] at h ⊢
          have hop : isOp p[i].kind = true := by
            rw [lkZ_at p i hil] at h35
            unfold isOp
            rcases h35 with h | h <;> rw [h] <;> rfl
          have hb := beZ_in p k i hk0 hki (by omega) hil hop
          by_cases hwi : (beZ p (i : Int)).toNat + 1 ≤ w
          · exact ih _ w (by omega) hwi h hw
          · have hge : (((beZ p (i : Int)).toNat + 1 : Nat) : Int) ≤ elseF p (beZ p k) f ((beZ p (i : Int)).toNat + 1) := by
              rcases elseF_ge p k hk0 f ((beZ p (i : Int)).toNat + 1) (by omega) with h' | h' <;> omega
            by_cases e : w = i
            · subst e; omega
            · by_cases e2 : (w : Int) = beZ p (i : Int)
              · have := beZ_7 p (i : Int) (by omega)
                rw [← e2] at this
                omega
              · have hwl : w < p.length := by omega
                have := beZ_in p (i : Int) w (by omega) (by omega) (by omega) hwl (by
                  rw [lkZ_at p w hwl] at hw
                  unfold isOp
                  rcases hw with h | h <;> rw [h] <;> rfl)
                omega
        · rw [if_neg h35] at h ⊢
          by_cases e : w = i
          · subst e; exact absurd hw h35
          · exact ih _ w (by omega) (by omega) h hw
theorem else_level {p : List PLine} {k e w : Nat} (h : elseZ p (k : Int) = (e : Int)) (h1 : k < w) (h2 : w < e) (h5 : lkZ p (w : Int) = 3 ∨ lkZ p (w : Int) = 5) : beZ p (w : Int) < (e : Int) := by
  unfold elseZ at h
  split at h
  · rename_i hc
    rw [← h]
    rw [Int.toNat_natCast] at h ⊢
    exact elseF_level p (k : Int) hc.1 p.length (k + 1) w (by omega) (by omega) (by omega) h5
  · omega
theorem elseF_4 (p : List PLine) (e : Int) : ∀ (f i : Nat), 0 ≤ elseF p e f i → lkZ p (elseF p e f i) = 4 := by
  intro f
  induction f with
  | zero => intro i h; rw [elseF] at h; omega
  | succ f ih =>
    intro i h
    rw [elseF] at h ⊢
    split at h
    · omega
    · rename_i h1
      rw [if_neg h1]
      split at h
      · rename_i h4; rw [if_pos h4]; exact h4
      · rename_i h4
        rw [if_neg h4]
        split at h
        · rename_i h35; rw [if_pos h35]; exact ih _ h
        · rename_i h35; rw [if_neg h35]; exact ih _ h
theorem elseZ_4 {p : List PLine} {k e : Nat} (h : elseZ p (k : Int) = (e : Int)) : lkZ p (e : Int) = 4 := by
  unfold elseZ at h
  split at h
  · rw [← h]
    exact elseF_4 p _ _ _ (by omega)
  · omega
section
variable {p : List PLine} {f k : Nat}
theorem end_one {w : Nat} (hw : w < k) (hb : beZ p (w : Int) = (k : Int)) : endOpen p k = w := by
  have hne : endOpen p k ≠ k := fun e => by
    have := List.findIdx_eq_length.1 (show (List.range k).findIdx (fun (i : Nat) => decide (beZ p (i : Int) = (k : Int))) = (List.range k).length by rw [List.length_range]; exact e) w (by simpa using hw)
    simp only [decide_eq_false_iff_not] at this
    exact this hb
  obtain ⟨h1, h2⟩ := end_open hne
  rcases Nat.lt_trichotomy (endOpen p k) w with h | h | h
  · have := beZ_apart p (endOpen p k) w (by omega) h (by omega) (by omega); omega
  · exact h
  · have := beZ_apart p w (endOpen p k) (by omega) h (by omega) (by omega); omega
end
end Go.Proofs.YtaplbefdijcceaaGreatDoor

namespace Go.Proofs.YtaplbefdijcceaaGreatDoor
open Go.RowKit Go.Lib
structure OpL where
  code : Int
  arg : Int
end Go.Proofs.YtaplbefdijcceaaGreatDoor

namespace Go.Proofs.YtaplbefdijcceaaGreatDoor
open Go.RowKit Go.Lib
structure ItL where
  code : Int
  arg : Int
  line : Nat
  start : Bool
  chain : List Nat
  depth : Int
  ent : Bool
structure CmpE where
  p : List PLine
  inl : Nat
  framed : Bool
  words : Int
  args : Nat
structure ScL where
  f : Nat
  chain : List Nat
  locs : List ByteArray
  first : Nat
  outer : Bool
structure CmpS where
  items : List ItL
  depth : Int
  start : Bool
  most : Nat
  leaves : List Nat
inductive CJob where
  | expr (scs : List ScL) (k i : Nat)
  | args (scs : List ScL) (k i m : Nat)
  | lines (scs : List ScL) (k : Nat) (heads : List Int) (exits : List (Int × Nat))
abbrev CmpO := Option (Nat × CmpS)
def curS (scs : List ScL) : ScL := scs.headD ⟨0, [], [], 0, true⟩
def emitI (E : CmpE) (s : CmpS) (code arg : Int) (line : Nat) (chain : List Nat) : CmpS :=
  { s with items := s.items ++ [⟨code, arg, line, s.start, chain, if E.framed && !s.items.isEmpty then 0 else s.depth, E.framed && !s.items.isEmpty⟩], start := false }
def placeZ (E : CmpE) (d : Int) (sc : ScL) (i : Nat) : Int × Int :=
  if sc.outer = true ∧ i < E.args then (if E.framed = true then (1, 1 + ((E.args - i : Nat) : Int)) else (3, d + ((E.args - i : Nat) : Int)))
  else let above : Nat := if sc.outer = true then i - E.args else sc.first + i
    if E.framed = true then (1, -1 - (above : Int)) else (3, d - 1 - (above : Int))
def incD (s : CmpS) (d : Int) : CmpS := { s with depth := s.depth + d }
def loadI (E : CmpE) (s : CmpS) (sc : ScL) (i k : Nat) : CmpS := incD (emitI E s (placeZ E s.depth sc i).1 (placeZ E s.depth sc i).2 k sc.chain) 1
def storeI (E : CmpE) (s : CmpS) (sc : ScL) (i k : Nat) (chain : List Nat) : CmpS := incD (emitI E s ((placeZ E s.depth sc i).1 + 1) (placeZ E s.depth sc i).2 k chain) (-1)
def numI (E : CmpE) (s : CmpS) (v : Int) (k : Nat) (chain : List Nat) : CmpS := incD (emitI E s 0 v k chain) 1
def replB (E : CmpE) (scs : List ScL) (s : CmpS) (g : Nat) : Bool :=
  !(decide (E.inl ≤ scs.length - 1) || (decide (9 < beZ E.p (g : Int) - (g : Int)) || decide (200 ≤ s.items.length))) && scs.all fun sc => decide (sc.f ≠ g)
def setArg (l : List ItL) (j : Nat) (v : Int) : List ItL := l.modify j fun x => { x with arg := v }
def patchL (js : List Nat) (v : Int) (l : List ItL) : List ItL := js.foldl (fun l j => setArg l j v) l
def patchX (ex : List (Int × Nat)) (to : Int) (l : List ItL) : List ItL := patchL ((ex.filter fun e => decide (e.1 = to)).map (·.2)) (l.length : Int) l
def patchI (s : CmpS) (ex : List (Int × Nat)) (to : Int) : CmpS := { s with items := patchX ex to s.items }
def newSc (E : CmpE) (sc : ScL) (g k : Nat) : ScL := ⟨g, sc.chain ++ [k], locZ E.p (g : Int), (if sc.outer = true then sc.locs.length - E.args else sc.first + sc.locs.length), false⟩
def storesI (E : CmpE) (x : ScL) (k : Nat) (chain : List Nat) : Nat → CmpS → CmpS
  | 0, s => s
  | i + 1, s => storesI E x k chain i (storeI E s x i k chain)
def zerosI (E : CmpE) (x : ScL) (k : Nat) (chain : List Nat) : Nat → Nat → CmpS → CmpS
  | 0, _, s => s
  | m + 1, i, s => zerosI E x k chain m (i + 1) (storeI E (numI E s 0 k chain) x i k chain)
def enterI (E : CmpE) (sc x : ScL) (k : Nat) (s : CmpS) : CmpS :=
  let n := (argsZ E.p (x.f : Int)).length
  let s1 := zerosI E x k sc.chain (x.locs.length - n) n (storesI E x k sc.chain n { s with most := max s.most (x.first + x.locs.length) })
  if s1.start = true then emitI E s1 15 0 k sc.chain else s1
def exitI (s0 : CmpS) (base : Int) (s : CmpS) : CmpS := { s with items := patchL s.leaves (s.items.length : Int) s.items, depth := base + 1, leaves := s0.leaves }
def leaveI (E : CmpE) (s : CmpS) (sc : ScL) (k : Nat) (last : Bool) : CmpS :=
  if sc.outer = false then (if last = true then incD s (-1) else incD (emitI E { s with leaves := s.leaves ++ [s.items.length] } 10 0 k sc.chain) (-1))
  else if E.framed = true then incD (emitI E s 14 (E.args : Int) k sc.chain) (-1)
  else incD (emitI E s 16 ((E.args : Int) + 16 * E.words) k sc.chain) (-1)
def funNo (p : List PLine) (g : Nat) : Int := (((p.take g).filter fun x => decide (x.kind = 0)).length : Int)
def backsI (E : CmpE) (sc : ScL) (k : Nat) (heads : List Int) : List Nat → CmpS → CmpS
  | [], s => s
  | i :: r, s => backsI E sc k heads r (emitI E s 10 ((heads[i]?).getD 0) k sc.chain)
def elseEx (p : List PLine) (f k len : Nat) : List (Int × Nat) := ((List.range' f (k - f)).filter fun (i : Nat) => decide (elseZ p (i : Int) = (k : Int))).map fun (i : Nat) => (beZ p (i : Int) + 1, len)
def backIx (p : List PLine) (f k : Nat) : List Nat := (List.range' (f + 1) (k - (f + 1))).filter fun (i : Nat) => decide (beZ p (i : Int) = (k : Int) ∧ lkZ p (i : Int) = 5)
def cmpF (E : CmpE) : Nat → CJob → CmpS → CmpO
  | 0, _, _ => none
  | n + 1, .args scs k i 0, s => some (i, s)
  | n + 1, .args scs k i (m + 1), s => (cmpF E n (.expr scs k i) s).bind fun y => cmpF E n (.args scs k y.1 m) y.2
  | n + 1, .expr scs k i, s =>
    let t := tokAt E.p k i
    let sc := curS scs
    (cmpF E n (.args scs k (i + 1) (arN t)) s).bind fun y =>
      if t.kind = 0 then some (y.1, numI E y.2 t.num k sc.chain)
      else if t.kind = 1 then some (y.1, loadI E y.2 sc (varIx sc.locs t.name) k)
      else if t.kind = 7 then
        let g := (findZ E.p t.name).toNat
        if replB E scs y.2 g = true then
          let x := newSc E sc g k
          let s1 := enterI E sc x k y.2
          (cmpF E n (.lines (x :: scs) (g + 1) (List.replicate E.p.length 0) []) { s1 with leaves := [] }).map fun z => (y.1, exitI y.2 s1.depth z.2)
        else some (y.1, incD (emitI E y.2 12 (funNo E.p g) k sc.chain) (1 - t.num))
      else some (y.1, incD (emitI E y.2 (5 + t.kind - 2) 0 k sc.chain) (-1))
  | n + 1, .lines scs k heads exits, s =>
    let sc := curS scs
    let e := beZ E.p (sc.f : Int)
    if e < (k : Int) then some (0, s)
    else
      let s1 := patchI s exits (k : Int)
      if lkZ E.p (k : Int) = 4 then
        let ex := exits ++ elseEx E.p sc.f k s1.items.length
        cmpF E n (.lines scs (k + 1) heads ex) (patchI (emitI E s1 10 0 k sc.chain) ex (-(k : Int)))
      else if lkZ E.p (k : Int) = 7 then
        if (k : Int) = e then cmpF E n (.lines scs (k + 1) heads exits) (leaveI E (numI E s1 0 k sc.chain) sc k true)
        else cmpF E n (.lines scs (k + 1) heads exits) (backsI E sc k heads (backIx E.p sc.f k) s1)
      else
        let heads1 := heads.set k (s1.items.length : Int)
        (cmpF E n (.expr scs k 0) { s1 with start := true }).bind fun y =>
          if lkZ E.p (k : Int) = 1 then cmpF E n (.lines scs (k + 1) heads1 exits) (storeI E y.2 sc (varIx sc.locs (nameAt E.p k)) k sc.chain)
          else if lkZ E.p (k : Int) = 2 then cmpF E n (.lines scs (k + 1) heads1 exits) (incD (emitI E y.2 17 0 k sc.chain) (-1))
          else if lkZ E.p (k : Int) = 6 then cmpF E n (.lines scs (k + 1) heads1 exits) (leaveI E y.2 sc k false)
          else
            let to := if lkZ E.p (k : Int) = 3 ∧ 0 ≤ elseZ E.p (k : Int) then -(elseZ E.p (k : Int)) else beZ E.p (k : Int) + 1
            cmpF E n (.lines scs (k + 1) heads1 (exits ++ [(to, y.2.items.length)])) (incD (emitI E y.2 11 0 k sc.chain) (-1))
theorem cmpF_succ (E : CmpE) : ∀ (n : Nat) (j : CJob) (s : CmpS) (z : Nat × CmpS), cmpF E n j s = some z → cmpF E (n + 1) j s = some z := by
  intro n
  induction n with
  | zero => intro j s z h; cases j <;> simp [cmpF] at h
  | succ n ih =>
    have hb : ∀ {x x' : CmpO} {f f' : Nat × CmpS → CmpO} {z : Nat × CmpS}, (∀ y, x = some y → x' = some y) → (∀ y z, f y = some z → f' y = some z) → x.bind f = some z → x'.bind f' = some z := by
      intro x x' f f' z hx hf h
      cases hxx : x with
      | none => rw [hxx] at h; cases h
      | some y => rw [hxx] at h; rw [hx y hxx]; exact hf y z h
    have hi : ∀ {c : Prop} [Decidable c] {a b a' b' : CmpO} {z : Nat × CmpS}, (a = some z → a' = some z) → (b = some z → b' = some z) → (if c then a else b) = some z → (if c then a' else b') = some z := by
      intro c _ a b a' b' z ha hb h
      by_cases hc : c
      · rw [if_pos hc] at h ⊢; exact ha h
      · rw [if_neg hc] at h ⊢; exact hb h
    have hm : ∀ {x x' : CmpO} {f : Nat × CmpS → Nat × CmpS} {z : Nat × CmpS}, (∀ y, x = some y → x' = some y) → x.map f = some z → x'.map f = some z := by
      intro x x' f z hx h
      cases hxx : x with
      | none => rw [hxx] at h; cases h
      | some y => rw [hxx] at h; rw [hx y hxx]; exact h
    intro j s z h
    cases j with
    | args scs k i m =>
      cases m with
      | zero => simpa [cmpF] using h
      | succ m =>
        rw [cmpF] at h ⊢
        exact hb (fun y => ih _ _ y) (fun y z => ih _ _ z) h
    | expr scs k i =>
      rw [cmpF] at h ⊢
      refine hb (fun y => ih _ _ y) (fun y z => ?_) h
      exact hi id (hi id (hi (hi (hm (fun y => ih _ _ y)) id) id))
    | lines scs k heads exits =>
      rw [cmpF] at h ⊢
      refine hi id (hi (ih _ _ _) (hi (hi (ih _ _ _) (ih _ _ _)) (hb (fun y => ih _ _ y) (fun y z => ?_)))) h
      exact hi (ih _ _ _) (hi (ih _ _ _) (hi (ih _ _ _) (ih _ _ _)))
theorem cmpF_le (E : CmpE) (n m : Nat) (h : n ≤ m) (j : CJob) (s : CmpS) (z : Nat × CmpS) (hz : cmpF E n j s = some z) : cmpF E m j s = some z := by
  induction h with
  | refl => exact hz
  | step _ ih => exact cmpF_succ E _ j s z ih
end Go.Proofs.YtaplbefdijcceaaGreatDoor

namespace Go.Proofs.YtaplbefdijcceaaGreatDoor
open Go.RowKit Go.Lib
def PrC (Q : Nat × CmpS → Prop) (x : CmpO) : Prop := ∀ y, x = some y → Q y
theorem prc_none {Q : Nat × CmpS → Prop} : PrC Q none := fun y h => by cases h
theorem prc_some {Q : Nat × CmpS → Prop} {y : Nat × CmpS} (h : Q y) : PrC Q (some y) := fun y' h' => by injection h' with h'; rw [← h']; exact h
theorem prc_bind {Q1 Q : Nat × CmpS → Prop} {x : CmpO} {f : Nat × CmpS → CmpO} (hx : PrC Q1 x) (hf : ∀ y, Q1 y → PrC Q (f y)) : PrC Q (x.bind f) := fun z h => by
  cases hxx : x with
  | none => rw [hxx] at h; cases h
  | some y => rw [hxx] at h; exact hf y (hx y hxx) z h
theorem prc_map {Q1 Q : Nat × CmpS → Prop} {x : CmpO} {f : Nat × CmpS → Nat × CmpS} (hx : PrC Q1 x) (hf : ∀ y, Q1 y → Q (f y)) : PrC Q (x.map f) := fun z h => by
  cases hxx : x with
  | none => rw [hxx] at h; cases h
  | some y => rw [hxx] at h; injection h with h; rw [← h]; exact hf y (hx y hxx)
theorem prc_ite {Q : Nat × CmpS → Prop} {c : Prop} [Decidable c] {a b : CmpO} (ha : c → PrC Q a) (hb : ¬ c → PrC Q b) : PrC Q (if c then a else b) := by
  by_cases h : c
  · rw [if_pos h]; exact ha h
  · rw [if_neg h]; exact hb h
theorem prc_mono {Q1 Q : Nat × CmpS → Prop} {x : CmpO} (h : PrC Q1 x) (hq : ∀ y, Q1 y → Q y) : PrC Q x := fun y e => hq y (h y e)
structure Kept (E : CmpE) (J : List ItL → Prop) : Prop where
  emit : ∀ l x, J l → x.line < E.p.length → x.chain.length ≤ E.inl → (x.code = 10 ∨ x.code = 11 → 0 ≤ x.arg ∧ x.arg ≤ (l.length : Int)) → J (l ++ [x])
  set : ∀ l j, J l → J (setArg l j (l.length : Int))
theorem setArg_length (l : List ItL) (j : Nat) (v : Int) : (setArg l j v).length = l.length := by unfold setArg; rw [List.length_modify]
theorem patchL_length (js : List Nat) (v : Int) : ∀ l : List ItL, (patchL js v l).length = l.length := by
  unfold patchL
  induction js with
  | nil => intro l; rfl
  | cons j r ih => intro l; rw [List.foldl_cons, ih, setArg_length]
theorem patchX_length (ex : List (Int × Nat)) (to : Int) (l : List ItL) : (patchX ex to l).length = l.length := patchL_length _ _ l
section
variable {E : CmpE} {J : List ItL → Prop} (K : Kept E J)
include K
theorem Kept.pL (js : List Nat) : ∀ (l : List ItL), J l → J (patchL js (l.length : Int) l) := by
  have key : ∀ (n : Nat) (l : List ItL), l.length = n → J l → J (patchL js (n : Int) l) := by
    unfold patchL
    induction js with
    | nil => intro n l _ h; exact h
    | cons j r ih =>
      intro n l hl h
      rw [List.foldl_cons]
      refine ih n _ (by rw [setArg_length, hl]) ?_
      rw [← hl]
      exact K.set l j h
  intro l h
  exact key l.length l rfl h
theorem Kept.pX (ex : List (Int × Nat)) (to : Int) (l : List ItL) (h : J l) : J (patchX ex to l) := K.pL _ l h
theorem Kept.em (s : CmpS) (code arg : Int) (k : Nat) (chain : List Nat) (hk : k < E.p.length) (hc : chain.length ≤ E.inl) (ha : code = 10 ∨ code = 11 → 0 ≤ arg ∧ arg ≤ (s.items.length : Int)) (h : J s.items) : J (emitI E s code arg k chain).items ∧ s.items.length ≤ (emitI E s code arg k chain).items.length := by
  unfold emitI
  refine ⟨K.emit _ _ h hk hc ha, ?_⟩
  simp
end
theorem placeZ_code (E : CmpE) (d : Int) (sc : ScL) (i : Nat) : (placeZ E d sc i).1 = 1 ∨ (placeZ E d sc i).1 = 3 := by
  unfold placeZ
  split
  · split
    · exact .inl rfl
    · exact .inr rfl
  · dsimp only
    split
    · exact .inl rfl
    · exact .inr rfl
section
variable {E : CmpE} {J : List ItL → Prop} (K : Kept E J) {k : Nat} (hk : k < E.p.length) {chain : List Nat} (hc : chain.length ≤ E.inl)
include K hk hc
theorem Kept.num (s : CmpS) (v : Int) (h : J s.items) : J (numI E s v k chain).items ∧ s.items.length ≤ (numI E s v k chain).items.length := K.em s 0 v k chain hk hc (by omega) h
theorem Kept.sto (s : CmpS) (sc : ScL) (i : Nat) (h : J s.items) : J (storeI E s sc i k chain).items ∧ s.items.length ≤ (storeI E s sc i k chain).items.length :=
  K.em s _ _ k chain hk hc (fun e => by have := placeZ_code E s.depth sc i; omega) h
theorem Kept.stos (x : ScL) : ∀ (n : Nat) (s : CmpS), J s.items → J (storesI E x k chain n s).items ∧ s.items.length ≤ (storesI E x k chain n s).items.length := by
  intro n
  induction n with
  | zero => intro s h; exact ⟨h, Nat.le_refl _⟩
  | succ n ih =>
    intro s h
    have h1 := K.sto hk hc s x n h
    have h2 := ih _ h1.1
    exact ⟨h2.1, Nat.le_trans h1.2 h2.2⟩
theorem Kept.zers (x : ScL) : ∀ (m i : Nat) (s : CmpS), J s.items → J (zerosI E x k chain m i s).items ∧ s.items.length ≤ (zerosI E x k chain m i s).items.length := by
  intro m
  induction m with
  | zero => intro i s h; exact ⟨h, Nat.le_refl _⟩
  | succ m ih =>
    intro i s h
    have h0 := K.num hk hc s 0 h
    have h1 := K.sto hk hc _ x i h0.1
    have h2 := ih (i + 1) _ h1.1
    exact ⟨h2.1, Nat.le_trans h0.2 (Nat.le_trans h1.2 h2.2)⟩
end
section
variable {E : CmpE} {J : List ItL → Prop} (K : Kept E J) {k : Nat} (hk : k < E.p.length)
include K hk
theorem Kept.ent (sc x : ScL) (hc : sc.chain.length ≤ E.inl) (s : CmpS) (h : J s.items) : J (enterI E sc x k s).items ∧ s.items.length ≤ (enterI E sc x k s).items.length := by
  unfold enterI
  dsimp only
  have h1 := K.stos hk hc x (argsZ E.p (x.f : Int)).length { s with most := max s.most (x.first + x.locs.length) } h
  have h2 := K.zers hk hc x (x.locs.length - (argsZ E.p (x.f : Int)).length) (argsZ E.p (x.f : Int)).length _ h1.1
  split
  · have h3 := K.em _ 15 0 k sc.chain hk hc (by omega) h2.1
    exact ⟨h3.1, Nat.le_trans h1.2 (Nat.le_trans h2.2 h3.2)⟩
  · exact ⟨h2.1, Nat.le_trans h1.2 h2.2⟩
theorem Kept.lea (s : CmpS) (sc : ScL) (last : Bool) (hc : sc.chain.length ≤ E.inl) (h : J s.items) : J (leaveI E s sc k last).items ∧ s.items.length ≤ (leaveI E s sc k last).items.length := by
  unfold leaveI
  split
  · split
    · exact ⟨h, Nat.le_refl _⟩
    · exact K.em { s with leaves := s.leaves ++ [s.items.length] } 10 0 k sc.chain hk hc (fun _ => ⟨Int.le_refl _, by omega⟩) h
  · split
    · exact K.em s 14 _ k sc.chain hk hc (by omega) h
    · exact K.em s 16 _ k sc.chain hk hc (by omega) h
theorem Kept.bks (sc : ScL) (heads : List Int) (hc : sc.chain.length ≤ E.inl) : ∀ (L : List Nat) (s : CmpS), (∀ v ∈ heads, 0 ≤ v ∧ v ≤ (s.items.length : Int)) → J s.items → J (backsI E sc k heads L s).items ∧ s.items.length ≤ (backsI E sc k heads L s).items.length := by
  intro L
  induction L with
  | nil => intro s _ h; exact ⟨h, Nat.le_refl _⟩
  | cons i r ih =>
    intro s hh h
    have hv : 0 ≤ (heads[i]?).getD 0 ∧ (heads[i]?).getD 0 ≤ (s.items.length : Int) := by
      cases hi : heads[i]? with
      | none => exact ⟨Int.le_refl _, by simp⟩
      | some v => exact hh v (List.mem_of_getElem? hi)
    have h1 := K.em s 10 ((heads[i]?).getD 0) k sc.chain hk hc (fun _ => hv) h
    have h2 := ih _ (fun v hv => by have := hh v hv; have := h1.2; omega) h1.1
    exact ⟨h2.1, Nat.le_trans h1.2 h2.2⟩
end
def ScOk (E : CmpE) (scs : List ScL) : Prop := (curS scs).chain.length + 1 = scs.length ∧ scs.length ≤ E.inl + 1
def JobOk (E : CmpE) : CJob → CmpS → Prop
  | .expr scs k _, _ => ScOk E scs ∧ k < E.p.length
  | .args scs k _ _, _ => ScOk E scs ∧ k < E.p.length
  | .lines scs _ heads _, s => ScOk E scs ∧ ∀ v ∈ heads, 0 ≤ v ∧ v ≤ (s.items.length : Int)
theorem ScOk.chain {E : CmpE} {scs : List ScL} (h : ScOk E scs) : (curS scs).chain.length ≤ E.inl := by have := h.1; have := h.2; omega
theorem ScOk.new {E : CmpE} {scs : List ScL} (h : ScOk E scs) {s : CmpS} {g k : Nat} (hr : replB E scs s g = true) : ScOk E (newSc E (curS scs) g k :: scs) := by
  unfold replB at hr
  simp only [Bool.and_eq_true, Bool.not_eq_true', Bool.or_eq_false_iff, decide_eq_false_iff_not] at hr
  have h1 := hr.1.1
  have h2 := h.1
  refine ⟨?_, by rw [List.length_cons]; omega⟩
  show ((curS scs).chain ++ [k]).length + 1 = scs.length + 1
  rw [List.length_append, List.length_singleton]
  omega
theorem cmp_kept {E : CmpE} {J : List ItL → Prop} (K : Kept E J) : ∀ (n : Nat) (j : CJob) (s : CmpS), JobOk E j s → J s.items → PrC (fun y => J y.2.items ∧ s.items.length ≤ y.2.items.length) (cmpF E n j s) := by
  intro n
  induction n with
  | zero => intro j s _ _; cases j <;> exact prc_none
  | succ n ih =>
    intro j s hj h
    cases j with
    | args scs k i m =>
      cases m with
      | zero => rw [cmpF]; exact prc_some ⟨h, Nat.le_refl _⟩
      | succ m =>
        rw [cmpF]
        exact prc_bind (ih (.expr scs k i) s hj h) fun y hy => prc_mono (ih (.args scs k y.1 m) y.2 hj hy.1) fun z hz => ⟨hz.1, Nat.le_trans hy.2 hz.2⟩
    | expr scs k i =>
      rw [cmpF]
      obtain ⟨hs, hk⟩ := hj
      refine prc_bind (ih (.args scs k (i + 1) _) s ⟨hs, hk⟩ h) fun y hy => ?_
      have up : ∀ {l : Nat} {J' : Prop}, J' ∧ y.2.items.length ≤ l → J' ∧ s.items.length ≤ l := fun q => ⟨q.1, Nat.le_trans hy.2 q.2⟩
      refine prc_ite (fun _ => prc_some (up (K.num hk hs.chain y.2 _ hy.1))) fun h0 => prc_ite (fun _ => prc_some (up ?_)) fun h1 => prc_ite (fun _ => prc_ite (fun hr => ?_) fun _ => prc_some (up ?_)) fun h7 => prc_some (up ?_)
      · exact K.em y.2 _ _ k _ hk hs.chain (fun e => by have := placeZ_code E y.2.depth (curS scs) (varIx (curS scs).locs (tokAt E.p k i).name); omega) hy.1
      · have h1 := K.ent hk (curS scs) (newSc E (curS scs) (findZ E.p (tokAt E.p k i).name).toNat k) hs.chain y.2 hy.1
        refine prc_map (ih (.lines _ _ _ _) _ ⟨hs.new hr, fun v hv => ?_⟩ h1.1) fun z hz => ?_
        · rw [(List.mem_replicate.1 hv).2]
          exact ⟨Int.le_refl _, by omega⟩
        · refine ⟨K.pL _ _ hz.1, ?_⟩
          show s.items.length ≤ (patchL z.2.leaves (z.2.items.length : Int) z.2.items).length
          rw [patchL_length]
          exact Nat.le_trans hy.2 (Nat.le_trans h1.2 hz.2)
      · exact K.em y.2 12 _ k _ hk hs.chain (by omega) hy.1
      · exact K.em y.2 _ 0 k _ hk hs.chain (fun _ => ⟨Int.le_refl _, by omega⟩) hy.1
    | lines scs k heads exits =>
      rw [cmpF]
      obtain ⟨hs, hh⟩ := hj
      refine prc_ite (fun _ => prc_some ⟨h, Nat.le_refl _⟩) fun he => ?_
      have hk : k < E.p.length := by have := (beZ_lt E.p ((curS scs).f : Int)).2; omega
      have p1 : J (patchI s exits (k : Int)).items ∧ (patchI s exits (k : Int)).items.length = s.items.length := ⟨K.pX _ _ _ h, patchX_length _ _ _⟩
      have go : ∀ (hd : List Int) (ex : List (Int × Nat)) (s' : CmpS), (∀ v ∈ hd, 0 ≤ v ∧ v ≤ (s'.items.length : Int)) → J s'.items → s.items.length ≤ s'.items.length → PrC (fun y => J y.2.items ∧ s.items.length ≤ y.2.items.length) (cmpF E n (.lines scs (k + 1) hd ex) s') :=
        fun hd ex s' h1 h2 h3 => prc_mono (ih (.lines scs (k + 1) hd ex) s' ⟨hs, h1⟩ h2) fun z hz => ⟨hz.1, Nat.le_trans h3 hz.2⟩
      have hmono : ∀ {m : Nat}, s.items.length ≤ m → ∀ v ∈ heads, 0 ≤ v ∧ v ≤ (m : Int) := fun hm v hv => by have := hh v hv; omega
      refine prc_ite (fun _ => ?_) fun h4 => prc_ite (fun _ => prc_ite (fun _ => ?_) fun _ => ?_) fun h7 => ?_
      · have q := K.em (patchI s exits (k : Int)) 10 0 k (curS scs).chain hk hs.chain (fun _ => ⟨Int.le_refl _, by omega⟩) p1.1
        have hl : s.items.length ≤ (patchI (emitI E (patchI s exits (k : Int)) 10 0 k (curS scs).chain) (exits ++ elseEx E.p (curS scs).f k (patchI s exits (k : Int)).items.length) (-(k : Int))).items.length := by
          show _ ≤ (patchX _ _ _).length
          rw [patchX_length]
          have := q.2
          omega
        exact go _ _ _ (hmono hl) (K.pX _ _ _ q.1) hl
      · have q := K.num hk hs.chain (patchI s exits (k : Int)) 0 p1.1
        have q2 := K.lea hk (numI E (patchI s exits (k : Int)) 0 k (curS scs).chain) (curS scs) true hs.chain q.1
        have hl := Nat.le_trans (Nat.le_of_eq p1.2.symm) (Nat.le_trans q.2 q2.2)
        exact go _ _ _ (hmono hl) q2.1 hl
      · have q := K.bks hk (curS scs) heads hs.chain (backIx E.p (curS scs).f k) (patchI s exits (k : Int)) (hmono (Nat.le_of_eq p1.2.symm)) p1.1
        have hl := Nat.le_trans (Nat.le_of_eq p1.2.symm) q.2
        exact go _ _ _ (hmono hl) q.1 hl
      · refine prc_bind (ih (.expr scs k 0) { patchI s exits (k : Int) with start := true } ⟨hs, hk⟩ p1.1) fun y hy => ?_
        have hy2 : s.items.length ≤ y.2.items.length := Nat.le_trans (Nat.le_of_eq p1.2.symm) hy.2
        have hd1 : ∀ {m : Nat}, y.2.items.length ≤ m → ∀ v ∈ heads.set k ((patchI s exits (k : Int)).items.length : Int), 0 ≤ v ∧ v ≤ (m : Int) := fun hm v hv => by
          rcases List.mem_or_eq_of_mem_set hv with h | h
          · have := hh v h; omega
          · rw [h]
            have := p1.2
            omega
        have st : ∀ (s' : CmpS), J s'.items ∧ y.2.items.length ≤ s'.items.length → ∀ ex, PrC (fun y => J y.2.items ∧ s.items.length ≤ y.2.items.length) (cmpF E n (.lines scs (k + 1) (heads.set k ((patchI s exits (k : Int)).items.length : Int)) ex) s') :=
          fun s' hs' ex => go _ ex s' (hd1 hs'.2) hs'.1 (Nat.le_trans hy2 hs'.2)
        refine prc_ite (fun _ => st _ (K.sto hk hs.chain y.2 _ _ hy.1) _) fun _ => prc_ite (fun _ => st _ ?_ _) fun _ => prc_ite (fun _ => st _ (K.lea hk y.2 _ _ hs.chain hy.1) _) fun _ => st _ ?_ _
        · exact K.em y.2 17 0 k _ hk hs.chain (by omega) hy.1
        · exact K.em y.2 11 0 k _ hk hs.chain (fun _ => ⟨Int.le_refl _, by omega⟩) hy.1
end Go.Proofs.YtaplbefdijcceaaGreatDoor

namespace Go.Proofs.YtaplbefdijcceaaGreatDoor
open Go.RowKit Go.Lib
theorem mem_setArg {l : List ItL} {j : Nat} {v : Int} {x : ItL} (h : x ∈ setArg l j v) : x ∈ l ∨ ∃ y ∈ l, x = { y with arg := v } := by
  unfold setArg at h
  obtain ⟨i, hi, rfl⟩ := List.mem_iff_getElem.1 h
  rw [List.length_modify] at hi
  rw [List.getElem_modify]
  split
  · exact .inr ⟨_, List.getElem_mem hi, rfl⟩
  · exact .inl (List.getElem_mem hi)
def InOk (E : CmpE) (l : List ItL) : Prop := ∀ x ∈ l, (x.code = 10 ∨ x.code = 11 → 0 ≤ x.arg ∧ x.arg ≤ (l.length : Int)) ∧ x.chain.length ≤ E.inl ∧ x.line < E.p.length
theorem inOk_kept (E : CmpE) : Kept E (InOk E) := ⟨fun l x h hk hc ha y hy => by
    rw [List.length_append, List.length_singleton]
    rcases List.mem_append.1 hy with hy | hy
    · have h1 := h y hy
      exact ⟨fun e => by have := h1.1 e; omega, h1.2⟩
    · rw [List.mem_singleton] at hy
      rw [hy]
      exact ⟨fun e => by have := ha e; omega, hc, hk⟩,
  fun l j h x hx => by
    rw [setArg_length]
    rcases mem_setArg hx with hx | ⟨y, hy, rfl⟩
    · exact h x hx
    · exact ⟨fun _ => ⟨by show 0 ≤ (l.length : Int); omega, Int.le_refl _⟩, (h y hy).2⟩⟩
def SameIt (x y : ItL) : Prop := x.code = y.code ∧ x.line = y.line ∧ x.start = y.start ∧ x.chain = y.chain ∧ x.depth = y.depth ∧ x.ent = y.ent
def Ext (l0 l : List ItL) : Prop := ∀ (j : Nat) (x : ItL), l0[j]? = some x → ∃ y, l[j]? = some y ∧ SameIt x y
theorem Ext.refl (l : List ItL) : Ext l l := fun _ x h => ⟨x, h, rfl, rfl, rfl, rfl, rfl, rfl⟩
theorem SameIt.trans {x y z : ItL} (h : SameIt x y) (h' : SameIt y z) : SameIt x z := ⟨h.1.trans h'.1, h.2.1.trans h'.2.1, h.2.2.1.trans h'.2.2.1, h.2.2.2.1.trans h'.2.2.2.1, h.2.2.2.2.1.trans h'.2.2.2.2.1, h.2.2.2.2.2.trans h'.2.2.2.2.2⟩
theorem Ext.trans {l0 l1 l2 : List ItL} (h : Ext l0 l1) (h' : Ext l1 l2) : Ext l0 l2 := fun j x hx => by
  obtain ⟨y, hy, e⟩ := h j x hx
  obtain ⟨z, hz, e'⟩ := h' j y hy
  exact ⟨z, hz, e.trans e'⟩
theorem Ext.set (l : List ItL) (j : Nat) (v : Int) : Ext l (setArg l j v) := fun i x hx => by
  unfold setArg
  rw [List.getElem?_modify]
  split
  · rw [hx]; exact ⟨_, rfl, rfl, rfl, rfl, rfl, rfl, rfl⟩
  · rw [hx]; exact ⟨_, rfl, rfl, rfl, rfl, rfl, rfl, rfl⟩
theorem Ext.app (l : List ItL) (x : ItL) : Ext l (l ++ [x]) := fun i y hy => ⟨y, by
  have := (List.getElem?_eq_some_iff.1 hy).1
  rw [List.getElem?_append_left this]; exact hy, rfl, rfl, rfl, rfl, rfl, rfl⟩
theorem ext_kept (E : CmpE) (l0 : List ItL) : Kept E (Ext l0) := ⟨fun l x h _ _ _ => h.trans (Ext.app l x), fun l j h => h.trans (Ext.set l j _)⟩
theorem cmp_ext {E : CmpE} (n : Nat) (j : CJob) (s : CmpS) (hj : JobOk E j s) : PrC (fun y => Ext s.items y.2.items ∧ s.items.length ≤ y.2.items.length) (cmpF E n j s) := cmp_kept (ext_kept E s.items) n j s hj (Ext.refl _)
def First (k : Nat) (chain : List Nat) (s s' : CmpS) : Prop := ∃ x, s'.items[s.items.length]? = some x ∧ x.line = k ∧ x.start = true ∧ x.chain = chain
def Soon (k : Nat) (chain : List Nat) (s s' : CmpS) : Prop := (s'.items.length = s.items.length ∧ s'.start = true) ∨ First k chain s s'
theorem First.ext {k : Nat} {chain : List Nat} {s s1 s2 : CmpS} (h : First k chain s s1) (he : Ext s1.items s2.items) : First k chain s s2 := by
  obtain ⟨x, h1, h2, h3, h4⟩ := h
  obtain ⟨y, g1, g2⟩ := he _ _ h1
  exact ⟨y, g1, g2.2.1.symm.trans h2, g2.2.2.1.symm.trans h3, g2.2.2.2.1.symm.trans h4⟩
theorem emit_at (E : CmpE) (s : CmpS) (code arg : Int) (k : Nat) (chain : List Nat) : (emitI E s code arg k chain).items[s.items.length]? = some ⟨code, arg, k, s.start, chain, if E.framed && !s.items.isEmpty then 0 else s.depth, E.framed && !s.items.isEmpty⟩ := by
  unfold emitI
  simp
theorem Soon.emit {E : CmpE} {k : Nat} {chain : List Nat} {s s1 : CmpS} (h : Soon k chain s s1) (code arg : Int) : First k chain s (emitI E s1 code arg k chain) := by
  rcases h with ⟨hl, hs⟩ | h
  · exact ⟨_, by rw [← hl]; exact emit_at E s1 code arg k chain, rfl, hs, rfl⟩
  · exact h.ext (Ext.app _ _)
theorem First.emit {E : CmpE} {k k' : Nat} {chain chain' : List Nat} {s s1 : CmpS} (h : First k chain s s1) (code arg : Int) : First k chain s (emitI E s1 code arg k' chain') := h.ext (Ext.app _ _)
theorem Soon.stores {E : CmpE} {k : Nat} {chain : List Nat} {s : CmpS} (x : ScL) : ∀ (n : Nat) (s1 : CmpS), Soon k chain s s1 → Soon k chain s (storesI E x k chain n s1) := by
  intro n
  induction n with
  | zero => intro s1 h; exact h
  | succ n ih =>
    intro s1 h
    exact ih _ (.inr (h.emit _ _))
theorem Soon.zeros {E : CmpE} {k : Nat} {chain : List Nat} {s : CmpS} (x : ScL) : ∀ (m i : Nat) (s1 : CmpS), Soon k chain s s1 → Soon k chain s (zerosI E x k chain m i s1) := by
  intro m
  induction m with
  | zero => intro i s1 h; exact h
  | succ m ih =>
    intro i s1 h
    have h1 : First k chain s (numI E s1 0 k chain) := h.emit (E := E) 0 0
    have h2 : First k chain s (storeI E (numI E s1 0 k chain) x i k chain) := First.emit (E := E) (k' := k) (chain' := chain) h1 ((placeZ E (numI E s1 0 k chain).depth x i).1 + 1) (placeZ E (numI E s1 0 k chain).depth x i).2
    exact ih _ _ (.inr h2)
theorem Soon.enter {E : CmpE} {k : Nat} {s s1 : CmpS} (sc x : ScL) (h : Soon k sc.chain s s1) : First k sc.chain s (enterI E sc x k s1) := by
  unfold enterI
  dsimp only
  have h1 := Soon.zeros (E := E) x (x.locs.length - (argsZ E.p (x.f : Int)).length) (argsZ E.p (x.f : Int)).length _ (Soon.stores (E := E) x (argsZ E.p (x.f : Int)).length { s1 with most := max s1.most (x.first + x.locs.length) } h)
  split
  · exact h1.emit _ _
  · rename_i hc
    rcases h1 with ⟨_, hs⟩ | h1
    · exact absurd hs hc
    · exact h1
theorem cmp_first {E : CmpE} : ∀ (n : Nat), (∀ scs k i s, ScOk E scs → k < E.p.length → s.start = true → PrC (fun y => First k (curS scs).chain s y.2) (cmpF E n (.expr scs k i) s)) ∧
    (∀ scs k i m s s0, ScOk E scs → k < E.p.length → Soon k (curS scs).chain s0 s → PrC (fun y => Soon k (curS scs).chain s0 y.2) (cmpF E n (.args scs k i m) s)) := by
  intro n
  induction n with
  | zero => exact ⟨fun _ _ _ _ _ _ _ => prc_none, fun _ _ _ _ _ _ _ _ _ => prc_none⟩
  | succ n ih =>
    refine ⟨fun scs k i s hs hk hst => ?_, fun scs k i m s s0 hs hk h => ?_⟩
    · rw [cmpF]
      refine prc_bind (ih.2 scs k (i + 1) _ s s hs hk (.inl ⟨rfl, hst⟩)) fun y hy => ?_
      refine prc_ite (fun _ => prc_some (hy.emit _ _)) fun _ => prc_ite (fun _ => prc_some (hy.emit _ _)) fun _ => prc_ite (fun _ => prc_ite (fun hr => ?_) fun _ => prc_some (hy.emit _ _)) fun _ => prc_some (hy.emit _ _)
      have h1 := Soon.enter (E := E) (curS scs) (newSc E (curS scs) (findZ E.p (tokAt E.p k i).name).toNat k) hy
      refine prc_map (cmp_ext n (.lines _ _ _ _) _ ⟨hs.new hr, fun v hv => ?_⟩) fun z hz => ?_
      · rw [(List.mem_replicate.1 hv).2]
        exact ⟨Int.le_refl _, by omega⟩
      · have hp : Ext z.2.items (patchL z.2.leaves (z.2.items.length : Int) z.2.items) := (ext_kept E z.2.items).pL _ _ (Ext.refl _)
        exact (h1.ext hz.1).ext hp
    · cases m with
      | zero => rw [cmpF]; exact prc_some h
      | succ m =>
        rw [cmpF]
        rcases h with ⟨hl, hst⟩ | h
        · refine prc_bind (ih.1 scs k i s hs hk hst) fun y hy => ih.2 scs k y.1 m y.2 s0 hs hk (.inr ?_)
          unfold First at hy ⊢
          rw [← hl]
          exact hy
        · refine prc_bind (cmp_ext n (.expr scs k i) s ⟨hs, hk⟩) fun y hy => ih.2 scs k y.1 m y.2 s0 hs hk (.inr (h.ext hy.1))
def Has (j : Nat) (chain : List Nat) (l : List ItL) : Prop := ∃ x ∈ l, x.line = j ∧ x.start = true ∧ x.chain = chain
theorem Has.ext {j : Nat} {chain : List Nat} {l l' : List ItL} (h : Has j chain l) (he : Ext l l') : Has j chain l' := by
  obtain ⟨x, hx, h1, h2, h3⟩ := h
  obtain ⟨i, hi, rfl⟩ := List.mem_iff_getElem.1 hx
  obtain ⟨y, g1, g2⟩ := he i _ (List.getElem?_eq_getElem hi)
  exact ⟨y, List.mem_of_getElem? g1, g2.2.1.symm.trans h1, g2.2.2.1.symm.trans h2, g2.2.2.2.1.symm.trans h3⟩
theorem First.has {k : Nat} {chain : List Nat} {s s' : CmpS} (h : First k chain s s') : Has k chain s'.items := by
  obtain ⟨x, h1, h2, h3, h4⟩ := h
  exact ⟨x, List.mem_of_getElem? h1, h2, h3, h4⟩
theorem cmp_starts {E : CmpE} : ∀ (n : Nat) (scs : List ScL) (k : Nat) (heads : List Int) (exits : List (Int × Nat)) (s : CmpS), JobOk E (.lines scs k heads exits) s →
    PrC (fun y => ∀ j : Nat, k ≤ j → (j : Int) ≤ beZ E.p ((curS scs).f : Int) → lkZ E.p (j : Int) ≠ 4 → lkZ E.p (j : Int) ≠ 7 → Has j (curS scs).chain y.2.items) (cmpF E n (.lines scs k heads exits) s) := by
  intro n
  induction n with
  | zero => intro scs k heads exits s _; exact prc_none
  | succ n ih =>
    intro scs k heads exits s hj0
    have hj := hj0
    obtain ⟨hs, hh⟩ := hj
    have hall := cmp_kept (inOk_kept E)
    rw [cmpF]
    refine prc_ite (fun he => prc_some fun j h1 h2 => by omega) fun he => ?_
    have hk : k < E.p.length := by have := (beZ_lt E.p ((curS scs).f : Int)).2; omega
    have pl : (patchI s exits (k : Int)).items.length = s.items.length := patchX_length _ _ _
    have hm0 : ∀ {m : Nat}, s.items.length ≤ m → ∀ v ∈ heads, 0 ≤ v ∧ v ≤ (m : Int) := fun hm v hv => by have := hh v hv; omega
    -- a line without an expression
    have no : (lkZ E.p (k : Int) = 4 ∨ lkZ E.p (k : Int) = 7) → ∀ (hd : List Int) (ex : List (Int × Nat)) (s' : CmpS), (∀ v ∈ hd, 0 ≤ v ∧ v ≤ (s'.items.length : Int)) →
        PrC (fun y => ∀ j : Nat, k ≤ j → (j : Int) ≤ beZ E.p ((curS scs).f : Int) → lkZ E.p (j : Int) ≠ 4 → lkZ E.p (j : Int) ≠ 7 → Has j (curS scs).chain y.2.items) (cmpF E n (.lines scs (k + 1) hd ex) s') :=
      fun hc hd ex s' h1 => prc_mono (ih scs (k + 1) hd ex s' ⟨hs, h1⟩) fun y hy j h1 h2 h3 h4 => by
        rcases Nat.lt_or_ge k j with h | h
        · exact hy j h h2 h3 h4
        · obtain rfl : j = k := by omega
          rcases hc with hc | hc
          · exact absurd hc h3
          · exact absurd hc h4
    have K := ext_kept E []
    refine prc_ite (fun h4 => no (.inl h4) _ _ _ (hm0 ?_)) fun h4 => prc_ite (fun h7 => prc_ite (fun _ => no (.inr h7) _ _ _ (hm0 ?_)) fun _ => no (.inr h7) _ _ _ (hm0 ?_)) fun h7 => ?_
    · show _ ≤ (patchX _ _ _).length
      rw [patchX_length]
      have := (K.em (patchI s exits (k : Int)) 10 0 k (curS scs).chain hk hs.chain (fun _ => ⟨Int.le_refl _, by omega⟩) (fun _ _ h => by simp at h)).2
      omega
    · have q := K.num hk hs.chain (patchI s exits (k : Int)) 0 (fun _ _ h => by simp at h)
      have q2 := K.lea hk (numI E (patchI s exits (k : Int)) 0 k (curS scs).chain) (curS scs) true hs.chain q.1
      have := q.2
      have := q2.2
      omega
    · have q := K.bks hk (curS scs) heads hs.chain (backIx E.p (curS scs).f k) (patchI s exits (k : Int)) (hm0 (Nat.le_of_eq pl.symm)) (fun _ _ h => by simp at h)
      have := q.2
      omega
    · refine prc_bind (fun y hy => ⟨(cmp_first n).1 scs k 0 { patchI s exits (k : Int) with start := true } hs hk rfl y hy, cmp_ext n (.expr scs k 0) { patchI s exits (k : Int) with start := true } ⟨hs, hk⟩ y hy⟩ : PrC (fun y => First k (curS scs).chain { patchI s exits (k : Int) with start := true } y.2 ∧ (Ext (patchI s exits (k : Int)).items y.2.items ∧ (patchI s exits (k : Int)).items.length ≤ y.2.items.length)) _) fun y hy => ?_
      have hy2 : s.items.length ≤ y.2.items.length := Nat.le_trans (Nat.le_of_eq pl.symm) hy.2.2
      have st : ∀ (s' : CmpS), Ext y.2.items s'.items → y.2.items.length ≤ s'.items.length → ∀ ex, PrC (fun y => ∀ j : Nat, k ≤ j → (j : Int) ≤ beZ E.p ((curS scs).f : Int) → lkZ E.p (j : Int) ≠ 4 → lkZ E.p (j : Int) ≠ 7 → Has j (curS scs).chain y.2.items) (cmpF E n (.lines scs (k + 1) (heads.set k ((patchI s exits (k : Int)).items.length : Int)) ex) s') := by
        intro s' he' hl' ex
        have hd : ∀ v ∈ heads.set k ((patchI s exits (k : Int)).items.length : Int), 0 ≤ v ∧ v ≤ (s'.items.length : Int) := fun v hv => by
          rcases List.mem_or_eq_of_mem_set hv with h | h
          · have := hh v h; omega
          · rw [h]; omega
        exact fun z hz j h1 h2 h3 h4 => by
          rcases Nat.lt_or_ge k j with h | h
          · exact ih scs (k + 1) _ ex s' ⟨hs, hd⟩ z hz j h h2 h3 h4
          · obtain rfl : j = k := by omega
            exact (hy.1.has.ext he').ext (cmp_ext n (.lines scs (j + 1) _ ex) s' ⟨hs, hd⟩ z hz).1
      have KE := ext_kept E y.2.items
      have em : ∀ code arg, (code = 10 ∨ code = 11 → 0 ≤ arg ∧ arg ≤ (y.2.items.length : Int)) → Ext y.2.items (emitI E y.2 code arg k (curS scs).chain).items ∧ y.2.items.length ≤ (emitI E y.2 code arg k (curS scs).chain).items.length := fun code arg ha => KE.em y.2 code arg k _ hk hs.chain ha (Ext.refl _)
      have s1 := KE.sto hk hs.chain y.2 (curS scs) (varIx (curS scs).locs (nameAt E.p k)) (Ext.refl _)
      have s2 := KE.lea hk y.2 (curS scs) false hs.chain (Ext.refl _)
      have s3 := em 17 0 (by omega)
      have s4 := em 11 0 (fun _ => ⟨Int.le_refl _, by omega⟩)
      exact prc_ite (fun _ => st _ s1.1 s1.2 _) fun _ => prc_ite (fun _ => st (incD (emitI E y.2 17 0 k (curS scs).chain) (-1)) s3.1 s3.2 _) fun _ => prc_ite (fun _ => st _ s2.1 s2.2 _) fun _ => st (incD (emitI E y.2 11 0 k (curS scs).chain) (-1)) s4.1 s4.2 _
end Go.Proofs.YtaplbefdijcceaaGreatDoor

namespace Go.Proofs.YtaplbefdijcceaaGreatDoor
open Go.RowKit Go.Lib
def CmpTo (E : CmpE) (j : CJob) (s : CmpS) (z : Nat × CmpS) : Prop := ∃ n, cmpF E n j s = some z
theorem CmpTo.one {E : CmpE} {j : CJob} {s : CmpS} {z z' : Nat × CmpS} (h : CmpTo E j s z) (h' : CmpTo E j s z') : z = z' := by
  obtain ⟨n, hn⟩ := h
  obtain ⟨m, hm⟩ := h'
  have a := cmpF_le E n (max n m) (Nat.le_max_left ..) j s z hn
  have b := cmpF_le E m (max n m) (Nat.le_max_right ..) j s z' hm
  rw [a] at b
  exact Option.some.inj b
theorem to_args0 (E : CmpE) (scs : List ScL) (k i : Nat) (s : CmpS) : CmpTo E (.args scs k i 0) s (i, s) := ⟨1, rfl⟩
theorem to_args {E : CmpE} {scs : List ScL} {k i m : Nat} {s : CmpS} {y z : Nat × CmpS} (h1 : CmpTo E (.expr scs k i) s y) (h2 : CmpTo E (.args scs k y.1 m) y.2 z) : CmpTo E (.args scs k i (m + 1)) s z := by
  obtain ⟨n, hn⟩ := h1
  obtain ⟨m', hm⟩ := h2
  refine ⟨max n m' + 1, ?_⟩
  rw [cmpF, cmpF_le E n _ (Nat.le_max_left ..) _ _ _ hn]
  exact cmpF_le E m' _ (Nat.le_max_right ..) _ _ _ hm
theorem to_expr {E : CmpE} {scs : List ScL} {k i : Nat} {s : CmpS} {y : Nat × CmpS} (h : CmpTo E (.args scs k (i + 1) (arN (tokAt E.p k i))) s y)
    (hl : ∀ g x s1, replB E scs y.2 g = true → x = newSc E (curS scs) g k → s1 = enterI E (curS scs) x k y.2 → ∃ z, CmpTo E (.lines (x :: scs) (g + 1) (List.replicate E.p.length 0) []) { s1 with leaves := [] } z) :
    ∃ z, CmpTo E (.expr scs k i) s z ∧ z.1 = y.1 := by
  obtain ⟨n, hn⟩ := h
  by_cases h0 : (tokAt E.p k i).kind = 0
  · exact ⟨(y.1, numI E y.2 (tokAt E.p k i).num k (curS scs).chain), ⟨n + 1, by rw [cmpF]; simp only [hn, Option.bind_some]; rw [if_pos h0]⟩, rfl⟩
  by_cases h1 : (tokAt E.p k i).kind = 1
  · exact ⟨(y.1, loadI E y.2 (curS scs) (varIx (curS scs).locs (tokAt E.p k i).name) k), ⟨n + 1, by rw [cmpF]; simp only [hn, Option.bind_some]; rw [if_neg h0, if_pos h1]⟩, rfl⟩
  by_cases h7 : (tokAt E.p k i).kind = 7
  · by_cases hr : replB E scs y.2 (findZ E.p (tokAt E.p k i).name).toNat = true
    · obtain ⟨z, m, hm⟩ := hl _ _ _ hr rfl rfl
      have hn' := cmpF_le E n (max n m) (Nat.le_max_left ..) _ _ _ hn
      have hm' := cmpF_le E m (max n m) (Nat.le_max_right ..) _ _ _ hm
      exact ⟨(y.1, exitI y.2 (enterI E (curS scs) (newSc E (curS scs) (findZ E.p (tokAt E.p k i).name).toNat k) k y.2).depth z.2), ⟨max n m + 1, by rw [cmpF]; simp only [hn', Option.bind_some]; rw [if_neg h0, if_neg h1, if_pos h7, if_pos hr, hm']; rfl⟩, rfl⟩
    · exact ⟨(y.1, incD (emitI E y.2 12 (funNo E.p (findZ E.p (tokAt E.p k i).name).toNat) k (curS scs).chain) (1 - (tokAt E.p k i).num)), ⟨n + 1, by rw [cmpF]; simp only [hn, Option.bind_some]; rw [if_neg h0, if_neg h1, if_pos h7, if_neg hr]⟩, rfl⟩
  · exact ⟨(y.1, incD (emitI E y.2 (5 + (tokAt E.p k i).kind - 2) 0 k (curS scs).chain) (-1)), ⟨n + 1, by rw [cmpF]; simp only [hn, Option.bind_some]; rw [if_neg h0, if_neg h1, if_neg h7]⟩, rfl⟩
section
variable {E : CmpE} {scs : List ScL}
    (hl : ∀ k g x s1 s, replB E scs s g = true → x = newSc E (curS scs) g k → s1 = enterI E (curS scs) x k s → ∃ z, CmpTo E (.lines (x :: scs) (g + 1) (List.replicate E.p.length 0) []) { s1 with leaves := [] } z)
include hl
theorem tot_expr8 (k : Nat) : ∀ (d i : Nat) (s : CmpS), (exprAt E.p k).length ≤ i + d → ∃ z, CmpTo E (.expr scs k i) s z ∧ i + 1 ≤ z.1 := by
  intro d
  induction d with
  | zero =>
    intro i s hi
    have ht : tokAt E.p k i = ⟨0, 0, ⟨#[]⟩⟩ := by rw [tokAt_getD, List.getElem?_eq_none (by omega)]; rfl
    obtain ⟨z, h1, h2⟩ := to_expr (E := E) (scs := scs) (k := k) (i := i) (s := s) (y := (i + 1, s)) (by rw [ht, arN_zero]; exact to_args0 E scs k (i + 1) s) (fun g x s1 hr hx hs => hl k g x s1 s hr hx hs)
    exact ⟨z, h1, by rw [h2]; exact Nat.le_refl _⟩
  | succ d ih =>
    intro i s hi
    have ha : ∀ (m j : Nat) (s : CmpS), i + 1 ≤ j → ∃ z, CmpTo E (.args scs k j m) s z ∧ j ≤ z.1 := by
      intro m
      induction m with
      | zero => intro j s _; exact ⟨_, to_args0 E scs k j s, Nat.le_refl _⟩
      | succ m ihm =>
        intro j s hj
        obtain ⟨y, h1, h2⟩ := ih j s (by omega)
        obtain ⟨z, h3, h4⟩ := ihm y.1 y.2 (by omega)
        exact ⟨z, to_args h1 h3, by omega⟩
    obtain ⟨y, h1, h2⟩ := ha (arN (tokAt E.p k i)) (i + 1) s (Nat.le_refl _)
    obtain ⟨z, h3, h4⟩ := to_expr h1 (fun g x s1 hr hx hs => hl k g x s1 y.2 hr hx hs)
    exact ⟨z, h3, by omega⟩
theorem tot_lines8 : ∀ (d k : Nat) (heads : List Int) (exits : List (Int × Nat)) (s : CmpS), beZ E.p ((curS scs).f : Int) < (k : Int) + (d : Int) → ∃ z, CmpTo E (.lines scs k heads exits) s z := by
  intro d
  induction d with
  | zero =>
    intro k heads exits s h
    exact ⟨_, 1, by rw [cmpF]; rw [if_pos (by omega)]⟩
  | succ d ih =>
    intro k heads exits s h
    by_cases he : beZ E.p ((curS scs).f : Int) < (k : Int)
    · exact ⟨_, 1, by rw [cmpF]; rw [if_pos he]⟩
    have go : ∀ hd ex s', ∃ z, CmpTo E (.lines scs (k + 1) hd ex) s' z := fun hd ex s' => ih (k + 1) hd ex s' (by omega)
    by_cases h4 : lkZ E.p (k : Int) = 4
    · obtain ⟨z, n, hn⟩ := go heads (exits ++ elseEx E.p (curS scs).f k (patchI s exits (k : Int)).items.length) (patchI (emitI E (patchI s exits (k : Int)) 10 0 k (curS scs).chain) (exits ++ elseEx E.p (curS scs).f k (patchI s exits (k : Int)).items.length) (-(k : Int)))
      exact ⟨z, n + 1, by rw [cmpF]; rw [if_neg he, if_pos h4]; exact hn⟩
    by_cases h7 : lkZ E.p (k : Int) = 7
    · by_cases hk : (k : Int) = beZ E.p ((curS scs).f : Int)
      · obtain ⟨z, n, hn⟩ := go heads exits (leaveI E (numI E (patchI s exits (k : Int)) 0 k (curS scs).chain) (curS scs) k true)
        exact ⟨z, n + 1, by rw [cmpF]; rw [if_neg he, if_neg h4, if_pos h7, if_pos hk]; exact hn⟩
      · obtain ⟨z, n, hn⟩ := go heads exits (backsI E (curS scs) k heads (backIx E.p (curS scs).f k) (patchI s exits (k : Int)))
        exact ⟨z, n + 1, by rw [cmpF]; rw [if_neg he, if_neg h4, if_pos h7, if_neg hk]; exact hn⟩
    obtain ⟨y, ⟨n, hn⟩, _⟩ := tot_expr8 hl k (exprAt E.p k).length 0 { patchI s exits (k : Int) with start := true } (by omega)
    have fin : ∀ (hd : List Int) (ex : List (Int × Nat)) (s' : CmpS), ∃ z m, n ≤ m ∧ cmpF E m (.lines scs (k + 1) hd ex) s' = some z := fun hd ex s' => by
      obtain ⟨z, m, hm⟩ := go hd ex s'
      exact ⟨z, max n m, Nat.le_max_left .., cmpF_le E m _ (Nat.le_max_right ..) _ _ _ hm⟩
    by_cases h1 : lkZ E.p (k : Int) = 1
    · obtain ⟨z, m, hm1, hm⟩ := fin (heads.set k ((patchI s exits (k : Int)).items.length : Int)) exits (storeI E y.2 (curS scs) (varIx (curS scs).locs (nameAt E.p k)) k (curS scs).chain)
      exact ⟨z, m + 1, by rw [cmpF]; simp only [if_neg he, if_neg h4, if_neg h7, cmpF_le E n m hm1 _ _ _ hn, Option.bind_some, if_pos h1]; exact hm⟩
    by_cases h2 : lkZ E.p (k : Int) = 2
    · obtain ⟨z, m, hm1, hm⟩ := fin (heads.set k ((patchI s exits (k : Int)).items.length : Int)) exits (incD (emitI E y.2 17 0 k (curS scs).chain) (-1))
      exact ⟨z, m + 1, by rw [cmpF]; simp only [if_neg he, if_neg h4, if_neg h7, cmpF_le E n m hm1 _ _ _ hn, Option.bind_some, if_neg h1, if_pos h2]; exact hm⟩
    by_cases h6 : lkZ E.p (k : Int) = 6
    · obtain ⟨z, m, hm1, hm⟩ := fin (heads.set k ((patchI s exits (k : Int)).items.length : Int)) exits (leaveI E y.2 (curS scs) k false)
      exact ⟨z, m + 1, by rw [cmpF]; simp only [if_neg he, if_neg h4, if_neg h7, cmpF_le E n m hm1 _ _ _ hn, Option.bind_some, if_neg h1, if_neg h2, if_pos h6]; exact hm⟩
    · obtain ⟨z, m, hm1, hm⟩ := fin (heads.set k ((patchI s exits (k : Int)).items.length : Int)) (exits ++ [((if lkZ E.p (k : Int) = 3 ∧ 0 ≤ elseZ E.p (k : Int) then -(elseZ E.p (k : Int)) else beZ E.p (k : Int) + 1), y.2.items.length)]) (incD (emitI E y.2 11 0 k (curS scs).chain) (-1))
      exact ⟨z, m + 1, by rw [cmpF]; simp only [if_neg he, if_neg h4, if_neg h7, cmpF_le E n m hm1 _ _ _ hn, Option.bind_some, if_neg h1, if_neg h2, if_neg h6]; exact hm⟩
end
theorem replB_lt {E : CmpE} {scs : List ScL} {s : CmpS} {g : Nat} (h : replB E scs s g = true) : scs.length - 1 < E.inl := by
  unfold replB at h
  simp only [Bool.and_eq_true, Bool.not_eq_true', Bool.or_eq_false_iff, decide_eq_false_iff_not] at h
  omega
theorem cmp_total (E : CmpE) : ∀ (d : Nat) (scs : List ScL), E.inl ≤ d + (scs.length - 1) → 1 ≤ scs.length → ∀ (k : Nat) (heads : List Int) (exits : List (Int × Nat)) (s : CmpS), ∃ z, CmpTo E (.lines scs k heads exits) s z := by
  intro d
  induction d with
  | zero =>
    intro scs hd hsc k heads exits s
    exact tot_lines8 (fun k g x s1 s hr _ _ => by have := replB_lt hr; omega) ((beZ E.p ((curS scs).f : Int)).toNat + 1) k heads exits s (by omega)
  | succ d ih =>
    intro scs hd hsc k heads exits s
    refine tot_lines8 (fun k g x s1 s hr _ _ => ?_) ((beZ E.p ((curS scs).f : Int)).toNat + 1) k heads exits s (by omega)
    exact ih (x :: scs) (by rw [List.length_cons]; omega) (by rw [List.length_cons]; omega) _ _ _ _
end Go.Proofs.YtaplbefdijcceaaGreatDoor

namespace Go.Proofs.YtaplbefdijcceaaGreatDoor
open Go.RowKit
def W32 (x : Int) : Int := (x + 2147483648) % 4294967296 - 2147483648
theorem W32_lo (x : Int) : -2147483648 ≤ W32 x := by unfold W32; omega
theorem W32_hi (x : Int) : W32 x ≤ 2147483647 := by unfold W32; omega
theorem W32_wrap (x : Int) : wrap32 x = W32 x := by
  unfold W32 wrap32
  omega
def appZ (k a b : Int) : Int :=
  if k = 2 then W32 (W32 a + W32 b) else if k = 3 then W32 (W32 a - W32 b) else if k = 4 then W32 (W32 a * W32 b)
  else if k = 5 then (if W32 a < W32 b then 1 else 0) else if k = 6 then (if W32 a = W32 b then 1 else 0) else 0
theorem appZ_add (a b : Int) : appZ 2 a b = W32 (W32 a + W32 b) := rfl
theorem appZ_sub (a b : Int) : appZ 3 a b = W32 (W32 a - W32 b) := rfl
theorem appZ_mul (a b : Int) : appZ 4 a b = W32 (W32 a * W32 b) := rfl
theorem appZ_other (k a b : Int) (h2 : k ≠ 2) (h3 : k ≠ 3) (h4 : k ≠ 4) (h5 : k ≠ 5) (h6 : k ≠ 6) : appZ k a b = 0 := by
  unfold appZ; rw [if_neg h2, if_neg h3, if_neg h4, if_neg h5, if_neg h6]
theorem mul_bd (a b : Int) : -4611686018427387904 ≤ W32 a * W32 b ∧ W32 a * W32 b ≤ 4611686018427387904 := by
  have h1 := W32_lo a; have h2 := W32_hi a; have h3 := W32_lo b; have h4 := W32_hi b
  have e : (W32 a * W32 b).natAbs ≤ 2147483648 * 2147483648 := by
    rw [Int.natAbs_mul]
    exact Nat.mul_le_mul (by omega) (by omega)
  omega
end Go.Proofs.YtaplbefdijcceaaGreatDoor

namespace Go.Proofs.YtaplbefdijcceaaGreatDoor
open Go.RowKit Go.Lib
def foldT (v : Int) : TokL := ⟨0, v, ⟨#[]⟩⟩
def seg1 (t : TokL) (ops : List (List TokL)) : List TokL := match ops.flatten with
  | [a, b] => if 2 ≤ t.kind ∧ t.kind ≤ 6 ∧ a.kind = 0 ∧ b.kind = 0 ∧ 0 ≤ appZ t.kind a.num b.num ∧ appZ t.kind a.num b.num ≤ 999 then [foldT (appZ t.kind a.num b.num)] else [t, a, b]
  | o => t :: o
def segs : List TokL → List (List TokL)
  | [] => []
  | t :: r => seg1 t ((segs r).take (arN t)) :: (segs r).drop (arN t)
def foldE (l : List TokL) : List TokL := (segs l).headD []
theorem seg1_cases (t : TokL) (ops : List (List TokL)) : seg1 t ops = t :: ops.flatten ∨ ∃ a b, ops.flatten = [a, b] ∧ (2 ≤ t.kind ∧ t.kind ≤ 6) ∧ a.kind = 0 ∧ b.kind = 0 ∧ 0 ≤ appZ t.kind a.num b.num ∧ appZ t.kind a.num b.num ≤ 999 ∧ seg1 t ops = [foldT (appZ t.kind a.num b.num)] := by
  unfold seg1
  split
  · rename_i a b h
    split
    · rename_i hc
      exact .inr ⟨a, b, h, ⟨hc.1, hc.2.1⟩, hc.2.2.1, hc.2.2.2.1, hc.2.2.2.2.1, hc.2.2.2.2.2, rfl⟩
    · exact .inl (by rw [h])
  · exact .inl rfl
theorem seg1_pos (t : TokL) (ops : List (List TokL)) : 0 < (seg1 t ops).length := by
  rcases seg1_cases t ops with h | ⟨_, _, _, _, _, _, _, _, h⟩ <;> rw [h] <;> simp
theorem segs_scan (l : List TokL) : ∀ m q, scanN l m = some q → m ≤ (segs l).length ∧ (segs l).drop m = segs (l.drop q) := by
  induction l with
  | nil =>
    intro m q h
    cases m with
    | zero => rw [scanN] at h; injection h with h; subst h; exact ⟨Nat.zero_le _, rfl⟩
    | succ m => rw [scanN] at h; cases h
  | cons t r ih =>
    intro m q h
    cases m with
    | zero => rw [scanN] at h; injection h with h; subst h; exact ⟨Nat.zero_le _, rfl⟩
    | succ m =>
      rw [scanN] at h
      split at h
      · cases hr : scanN r (m + (arZ t).toNat) with
        | none => rw [hr] at h; cases h
        | some q' =>
          rw [hr] at h
          injection h with h
          subst h
          obtain ⟨h1, h2⟩ := ih _ _ hr
          refine ⟨?_, ?_⟩
          · have : arN t = (arZ t).toNat := rfl
            simp only [segs, List.length_cons, List.length_drop]
            omega
          · have : arN t = (arZ t).toNat := rfl
            simp only [segs, List.drop_succ_cons, List.drop_drop]
            rw [this, Nat.add_comm (arZ t).toNat m]
            exact h2
      · cases h
theorem scan_num (v : Int) (h0 : 0 ≤ v) (h1 : v ≤ 999) (tl : List TokL) (k : Nat) : scanN (foldT v :: tl) (k + 1) = (scanN tl k).map (· + 1) := by
  have hb : tokB (foldT v) = true := by
    show tokB ⟨0, v, ⟨#[]⟩⟩ = true
    rw [tokB_0, decide_eq_true h0, decide_eq_true h1]
    rfl
  rw [scanN, if_pos hb]
  have : arZ (foldT v) = 0 := arZ_0 _ _ hb
  rw [this]
  rfl
def OneE (x : List TokL) : Prop := ∀ tl k, scanN (x ++ tl) (k + 1) = (scanN tl k).map (· + x.length)
theorem one_flat (L : List (List TokL)) (h : ∀ x ∈ L, OneE x) : ∀ tl k, scanN (L.flatten ++ tl) (k + L.length) = (scanN tl k).map (· + L.flatten.length) := by
  induction L with
  | nil => intro tl k; simp
  | cons x r ih =>
    intro tl k
    rw [List.flatten_cons, List.append_assoc, List.length_cons, ← Nat.add_assoc, h x (List.mem_cons_self ..), ih (fun y hy => h y (List.mem_cons_of_mem _ hy))]
    cases scanN tl k with
    | none => rfl
    | some z => simp; omega
theorem one_seg (t : TokL) (ops : List (List TokL)) (hb : tokB t = true) (hl : ops.length = arN t) (h : ∀ x ∈ ops, OneE x) : OneE (seg1 t ops) := fun tl k => by
  rcases seg1_cases t ops with hs | ⟨a, b, hab, hk, ha, hb0, h0, h1, hs⟩
  · rw [hs, List.cons_append, scanN, if_pos hb]
    have := one_flat ops h tl k
    rw [hl] at this
    have e : (arZ t).toNat = arN t := rfl
    rw [e, this]
    cases scanN tl k with
    | none => rfl
    | some z => simp; omega
  · rw [hs]
    exact scan_num _ h0 h1 tl k
theorem segs_one (l : List TokL) : ∀ m q, scanN l m = some q → ∀ x ∈ (segs l).take m, OneE x := by
  induction l with
  | nil =>
    intro m q h x hx
    cases m with
    | zero => simp at hx
    | succ m => rw [scanN] at h; cases h
  | cons t r ih =>
    intro m q h x hx
    cases m with
    | zero => simp at hx
    | succ m =>
      rw [scanN] at h
      split at h
      · rename_i hb
        cases hr : scanN r (m + (arZ t).toNat) with
        | none => rw [hr] at h; cases h
        | some q' =>
          have hr' : scanN r (arN t + m) = some q' := by rw [Nat.add_comm]; exact hr
          have hle := (segs_scan r _ _ hr').1
          have hsplit : (segs r).take (arN t + m) = (segs r).take (arN t) ++ ((segs r).drop (arN t)).take m := List.take_add
          have hall := ih _ _ hr'
          rw [hsplit] at hall
          have hT : (segs (t :: r)).take (m + 1) = seg1 t ((segs r).take (arN t)) :: ((segs r).drop (arN t)).take m := by simp [segs]
          rw [hT] at hx
          rcases List.mem_cons.1 hx with rfl | hx
          · exact one_seg t _ hb (by rw [List.length_take]; omega) (fun y hy => hall y (List.mem_append_left _ hy))
          · exact hall x (List.mem_append_right _ hx)
      · cases h
theorem segs_expr (l : List TokL) (h : scanN l 1 = some l.length) : segs l = [foldE l] ∧ OneE (foldE l) := by
  obtain ⟨h1, h2⟩ := segs_scan l 1 _ h
  rw [List.drop_length] at h2
  have h3 := segs_one l 1 _ h
  unfold foldE
  cases hs : segs l with
  | nil => rw [hs] at h1; simp at h1
  | cons x r =>
    rw [hs] at h2 h3
    simp only [List.drop_succ_cons, List.drop_zero] at h2
    have : r = [] := h2
    subst this
    exact ⟨rfl, h3 x (by simp)⟩
end Go.Proofs.YtaplbefdijcceaaGreatDoor

namespace Go.Proofs.YtaplbefdijcceaaGreatDoor
open Go.RowKit Go.Lib
def pre (acc : List Int) : RunRes → RunRes
  | .vals ws i => .vals (acc ++ ws) i
  | r => r
section
variable {p : List PLine} {ap : Int → Int → Int → Int} {ar : TokL → Nat} {lim n : Nat} {c : List Int} {f k i m : Nat} {L : List ByteArray} {vs : List Int} {s : RunS} {z : RunRes × RunS}
end
end Go.Proofs.YtaplbefdijcceaaGreatDoor

namespace Go.Proofs.YtaplbefdijcceaaGreatDoor
open Go.RowKit Go.Lib
theorem segs_pos (l : List TokL) : ∀ z ∈ segs l, 0 < z.length := by
  induction l with
  | nil => intro z h; cases h
  | cons t r ih =>
    intro z h
    rcases List.mem_cons.1 h with rfl | h
    · exact seg1_pos _ _
    · exact ih z (List.mem_of_mem_drop h)
end Go.Proofs.YtaplbefdijcceaaGreatDoor

namespace Go.Proofs.YtaplbefdijcceaaGreatDoor
open Go.RowKit Go.Lib
def foldL (x : PLine) : PLine := ⟨x.kind, x.name, x.args, foldE x.expr⟩
def foldP (p : List PLine) : List PLine := p.map foldL
theorem foldP_length (p : List PLine) : (foldP p).length = p.length := by simp [foldP]
theorem foldP_get (p : List PLine) (k : Nat) (h : k < (foldP p).length) (h' : k < p.length) : (foldP p)[k] = foldL p[k] := by simp [foldP]
theorem foldP_at (p : List PLine) (k : Nat) : (foldP p)[k]? = (p[k]?).map foldL := by simp [foldP]
theorem foldP_drop (p : List PLine) (k : Nat) : (foldP p).drop k = foldP (p.drop k) := by simp [foldP, List.map_drop]
theorem foldP_take (p : List PLine) (k : Nat) : (foldP p).take k = foldP (p.take k) := by simp [foldP, List.map_take]
theorem endF_fold (l : List PLine) : ∀ o i, endF o i (foldP l) = endF o i l := by
  induction l with
  | nil => intro o i; rfl
  | cons x r ih =>
    intro o i
    have e : foldP (x :: r) = foldL x :: foldP r := rfl
    have hk : (foldL x).kind = x.kind := rfl
    rw [e, endF, endF, hk, ih]
theorem lkZ_fold (p : List PLine) (k : Int) : lkZ (foldP p) k = lkZ p k := by
  unfold lkZ
  rw [foldP_at]
  cases p[k.toNat]? <;> rfl
theorem beZ_fold (p : List PLine) (k : Int) : beZ (foldP p) k = beZ p k := by
  unfold beZ
  rw [foldP_length, lkZ_fold, foldP_drop, endF_fold]
theorem elseF_fold (p : List PLine) (e : Int) : ∀ n i, elseF (foldP p) e n i = elseF p e n i := by
  intro n
  induction n with
  | zero => intro i; rfl
  | succ n ih => intro i; rw [elseF, elseF, lkZ_fold]; simp only [beZ_fold, ih]
theorem elseZ_fold (p : List PLine) (k : Int) : elseZ (foldP p) k = elseZ p k := by
  unfold elseZ
  rw [beZ_fold, lkZ_fold, elseF_fold, foldP_length]
theorem funF_fold (l : List PLine) : ∀ i, funF i (foldP l) = funF i l := by
  induction l with
  | nil => intro i; rfl
  | cons x r ih =>
    intro i
    have e : foldP (x :: r) = foldL x :: foldP r := rfl
    have hk : (foldL x).kind = x.kind := rfl
    rw [e, funF, funF, hk, ih]
theorem funs_fold (p : List PLine) : funs (foldP p) = funs p := funF_fold p 0
theorem findF_fold (n : ByteArray) (l : List PLine) : ∀ i, findF n i (foldP l) = findF n i l := by
  induction l with
  | nil => intro i; rfl
  | cons x r ih =>
    intro i
    have e : foldP (x :: r) = foldL x :: foldP r := rfl
    have hk : (foldL x).kind = x.kind := rfl
    have hn : (foldL x).name = x.name := rfl
    rw [e, findF, findF, hk, hn, ih]
theorem findZ_fold (p : List PLine) (n : ByteArray) : findZ (foldP p) n = findZ p n := findF_fold n p 0
theorem locF_fold (l : List PLine) : ∀ v, locF v (foldP l) = locF v l := by
  induction l with
  | nil => intro v; rfl
  | cons x r ih =>
    intro v
    have e : foldP (x :: r) = foldL x :: foldP r := rfl
    have hk : (foldL x).kind = x.kind := rfl
    have hn : (foldL x).name = x.name := rfl
    rw [e, locF, locF, hk, hn]
    simp only [ih]
theorem argsZ_fold (p : List PLine) (k : Int) : argsZ (foldP p) k = argsZ p k := by
  unfold argsZ
  rw [foldP_at]
  cases p[k.toNat]? <;> rfl
theorem locZ_fold (p : List PLine) (k : Int) : locZ (foldP p) k = locZ p k := by
  unfold locZ
  rw [beZ_fold, lkZ_fold, argsZ_fold, foldP_drop, foldP_take, locF_fold]
theorem knownP_fold (p : List PLine) (v : List ByteArray) (t : TokL) : knownP (foldP p) v t ↔ knownP p v t := by
  unfold knownP
  rw [findZ_fold, argsZ_fold]
end Go.Proofs.YtaplbefdijcceaaGreatDoor

namespace Go.Proofs.YtaplbefdijcceaaGreatDoor
open Go.RowKit Go.Lib
theorem seg1_len (t : TokL) (ops : List (List TokL)) : (seg1 t ops).length ≤ ops.flatten.length + 1 := by
  rcases seg1_cases t ops with h | ⟨_, _, _, _, _, _, _, _, h⟩ <;> rw [h] <;> simp
theorem segs_len (l : List TokL) : (segs l).flatten.length ≤ l.length := by
  induction l with
  | nil => simp [segs]
  | cons t r ih =>
    have h1 := seg1_len t ((segs r).take (arN t))
    have h2 : (segs r).flatten.length = ((segs r).take (arN t)).flatten.length + ((segs r).drop (arN t)).flatten.length := by
      rw [← List.length_append, ← List.flatten_append, List.take_append_drop]
    rw [segs, List.flatten_cons, List.length_append, List.length_cons]
    omega
theorem foldE_len (l : List TokL) : (foldE l).length ≤ l.length := by
  have := segs_len l
  unfold foldE
  cases hs : segs l with
  | nil => simp
  | cons x r =>
    rw [hs, List.flatten_cons, List.length_append] at this
    simp only [List.headD_cons]
    omega
theorem seg1_mem (t : TokL) (ops : List (List TokL)) : ∀ x ∈ seg1 t ops, x = t ∨ x ∈ ops.flatten ∨ ∃ v, 0 ≤ v ∧ v ≤ 999 ∧ x = foldT v := by
  intro x hx
  rcases seg1_cases t ops with h | ⟨_, _, _, _, _, _, h0, h1, h⟩
  · rw [h] at hx
    rcases List.mem_cons.1 hx with rfl | hx
    · exact .inl rfl
    · exact .inr (.inl hx)
  · rw [h] at hx
    exact .inr (.inr ⟨_, h0, h1, List.mem_singleton.1 hx⟩)
theorem segs_mem (l : List TokL) : ∀ z ∈ segs l, ∀ x ∈ z, x ∈ l ∨ ∃ v, 0 ≤ v ∧ v ≤ 999 ∧ x = foldT v := by
  induction l with
  | nil => intro z h; cases h
  | cons t r ih =>
    intro z h x hx
    have hr : ∀ z ∈ segs r, ∀ x ∈ z, x ∈ t :: r ∨ ∃ v, 0 ≤ v ∧ v ≤ 999 ∧ x = foldT v := fun z hz x hx => by
      rcases ih z hz x hx with h | h
      · exact .inl (List.mem_cons_of_mem _ h)
      · exact .inr h
    rcases List.mem_cons.1 h with rfl | h
    · rcases seg1_mem _ _ x hx with rfl | h | h
      · exact .inl (List.mem_cons_self ..)
      · obtain ⟨z, hz, hx⟩ := List.mem_flatten.1 h
        exact hr z (List.mem_of_mem_take hz) x hx
      · exact .inr h
    · exact hr z (List.mem_of_mem_drop h) x hx
theorem foldE_mem (l : List TokL) : ∀ x ∈ foldE l, x ∈ l ∨ ∃ v, 0 ≤ v ∧ v ≤ 999 ∧ x = foldT v := by
  intro x hx
  unfold foldE at hx
  cases hs : segs l with
  | nil => rw [hs] at hx; cases hx
  | cons z r =>
    rw [hs] at hx
    exact segs_mem l z (by rw [hs]; exact List.mem_cons_self ..) x hx
theorem exprB_scan (l : List TokL) : exprB l = true ↔ l.length ≤ 20 ∧ scanN l 1 = some l.length := by
  unfold exprB endZ
  rw [Bool.and_eq_true, decide_eq_true_eq, decide_eq_true_eq, if_neg (by decide)]
  refine and_congr_right fun _ => ?_
  simp only [Int.toNat_zero, List.drop_zero]
  cases scanN l 1 with
  | none => simp [resZ] <;> omega
  | some q => simp [resZ] <;> omega
theorem exprB_fold (l : List TokL) (h : exprB l = true) : exprB (foldE l) = true := by
  rw [exprB_scan] at h ⊢
  refine ⟨by have := foldE_len l; omega, ?_⟩
  have := (segs_expr l h.2).2 [] 0
  rw [List.append_nil] at this
  rw [this]
  simp [scanN]
theorem lineB_fold (x : PLine) (h : lineB x = true) : lineB (foldL x) = true := by
  rw [lineB_iff] at h ⊢
  refine ⟨h.1, h.2.1, h.2.2.1, ?_⟩
  have h4 := h.2.2.2
  show efB (exprK x.kind) (foldE x.expr) = true
  unfold efB at h4 ⊢
  split at h4
  · rw [if_pos (by assumption)]; exact exprB_fold _ h4
  · rw [if_neg (by assumption)]
    rw [decide_eq_true_eq] at h4 ⊢
    rw [List.length_eq_zero_iff.1 h4]
    rfl
theorem followF_fold (p : List PLine) (l : List Nat) : ∀ n, followF (foldP p) n l ↔ followF p n l := by
  induction l with
  | nil => intro n; show n = ((foldP p).length : Int) ↔ n = (p.length : Int); rw [foldP_length]
  | cons k r ih => intro n; rw [followF, followF, beZ_fold, ih]
theorem nestF_fold (l : List PLine) : ∀ o, nestF o (foldP l) ↔ nestF o l := by
  induction l with
  | nil => intro o; exact Iff.rfl
  | cons x r ih =>
    intro o
    have e : foldP (x :: r) = foldL x :: foldP r := rfl
    have hk : (foldL x).kind = x.kind := rfl
    rw [e, nestF, nestF, hk, ih]
theorem elsesF_fold (p : List PLine) (l : List PLine) : ∀ i, elsesF (foldP p) i (foldP l) ↔ elsesF p i l := by
  induction l with
  | nil => intro i; exact Iff.rfl
  | cons x r ih =>
    intro i
    have e : foldP (x :: r) = foldL x :: foldP r := rfl
    have hk : (foldL x).kind = x.kind := rfl
    rw [e, elsesF, elsesF, hk, ih]
    simp only [elseZ_fold]
theorem ok_fold {p : List PLine} (h : OkI p) : OkI (foldP p) := by
  obtain ⟨⟨h1, h2⟩, ⟨h3, h4, h5, h6⟩, h7, h8, h9, h10⟩ := h
  refine ⟨⟨by rw [foldP_length]; exact h1, fun x hx => ?_⟩, ⟨by rw [funs_fold]; exact h3, by rw [findZ_fold]; exact h4, by rw [argsZ_fold]; exact h5, fun k hk hl => ?_⟩, by rw [followF_fold, funs_fold]; exact h7, (nestF_fold p 0).2 h8, (elsesF_fold p p 0).2 h9, fun k hk => ?_⟩
  · obtain ⟨y, hy, rfl⟩ := List.mem_map.1 hx
    exact lineB_fold y (h2 y hy)
  · rw [funs_fold] at hk
    have hl' : k < p.length := by rw [foldP_length] at hl; exact hl
    rw [findZ_fold, foldP_get p k hl hl']
    exact h6 k hk hl'
  · rw [funs_fold] at hk
    obtain ⟨a, b⟩ := h10 k hk
    refine ⟨by rw [locZ_fold]; exact a, fun x hx t ht => ?_⟩
    rw [beZ_fold] at hx
    rw [knownP_fold, locZ_fold]
    have hx' : x ∈ foldP (segZ p k (beZ p k).toNat) := by
      unfold segZ at hx ⊢
      rw [← foldP_take, ← foldP_drop]
      exact hx
    obtain ⟨y, hy, rfl⟩ := List.mem_map.1 hx'
    rcases foldE_mem y.expr t ht with h | ⟨v, _, _, rfl⟩
    · exact b y hy t h
    · exact ⟨fun h => absurd h (by show ¬ (0 : Int) = 1; decide), fun h => absurd h (by show ¬ (0 : Int) = 7; decide)⟩
end Go.Proofs.YtaplbefdijcceaaGreatDoor

namespace Go.Proofs.YtaplbefdijcceaaGreatDoor
open Go.RowKit Go.Lib
def isC (x : ItL) : Bool := decide (x.code = 12)
def callI (l : List ItL) : Nat := l.countP isC
def isK (t : TokL) : Bool := decide (t.kind = 7)
def callT (l : List TokL) : Nat := l.countP isK
theorem tok_kind {t : TokL} (h : tokB t = true) : 0 ≤ t.kind ∧ t.kind ≤ 7 := by
  by_cases hk : t.kind < 0 ∨ 7 < t.kind
  · have := tokB_out t.kind t.num t.name hk
    rw [show (⟨t.kind, t.num, t.name⟩ : TokL) = t from rfl, h] at this
    cases this
  · omega
def callL (p : List PLine) (a e : Nat) : Nat := ((segZ p a e).map fun x => callT x.expr).sum
end Go.Proofs.YtaplbefdijcceaaGreatDoor

namespace Go.Proofs.YtaplbefdijcceaaGreatDoor
open Go.RowKit Go.Lib
theorem locF_len (l : List PLine) : ∀ v, (locF v l).length ≤ v.length + l.length := by
  induction l with
  | nil => intro v; exact Nat.le_refl _
  | cons x r ih =>
    intro v
    unfold locF
    split
    · have := ih (v ++ [x.name])
      rw [List.length_append, List.length_singleton] at this
      rw [List.length_cons]
      omega
    · have := ih v
      rw [List.length_cons]
      omega
theorem args_len {p : List PLine} (hv : ∀ x ∈ p, lineB x = true) (k : Int) : (argsZ p k).length ≤ 4 := by
  unfold argsZ
  split
  · exact Nat.zero_le _
  · cases hx : p[k.toNat]? with
    | none => exact Nat.zero_le _
    | some x => exact line_args x (hv x (List.mem_of_getElem? hx))
theorem loc_len64 {p : List PLine} (h60 : p.length ≤ 60) (hv : ∀ x ∈ p, lineB x = true) (k : Int) : (locZ p k).length ≤ 64 := by
  unfold locZ
  split
  · have h1 := locF_len ((p.drop k.toNat).take ((beZ p k).toNat - k.toNat)) (argsZ p k)
    have h2 := args_len hv k
    have h3 : ((p.drop k.toNat).take ((beZ p k).toNat - k.toNat)).length ≤ 60 := by rw [List.length_take, List.length_drop]; omega
    omega
  · exact Nat.zero_le _
section
variable {E : CmpE} (h60 : E.p.length ≤ 60) (hv : ∀ x ∈ E.p, lineB x = true)
include h60 hv
end
end Go.Proofs.YtaplbefdijcceaaGreatDoor

namespace Go.Proofs.YtaplbefdijcceaaGreatDoor
open Go.RowKit Go.Lib
def compE (p : List PLine) (fr : Bool) (inl : Nat) (words : Int) (g : Nat) : CmpE := ⟨p, inl, fr, words, (argsZ p (g : Int)).length⟩
def topSc (p : List PLine) (g : Nat) : ScL := ⟨g, [], locZ p (g : Int), 0, true⟩
def topS (E : CmpE) (g : Nat) : CmpS := { emitI E ⟨[], 0, false, (locZ E.p (g : Int)).length - E.args, []⟩ (if E.framed = true then 13 else 15) E.words g [] with depth := E.words }
def TopTo (E : CmpE) (g : Nat) (s : CmpS) : Prop := ∃ r, CmpTo E (.lines [topSc E.p g] (g + 1) (List.replicate E.p.length 0) []) (topS E g) (r, s)
theorem TopTo.one {E : CmpE} {g : Nat} {s s' : CmpS} (h : TopTo E g s) (h' : TopTo E g s') : s = s' := by
  obtain ⟨r, hr⟩ := h
  obtain ⟨r', hr'⟩ := h'
  exact congrArg Prod.snd (hr.one hr')
theorem top_total (E : CmpE) (g : Nat) : ∃ s, TopTo E g s := by
  obtain ⟨z, hz⟩ := cmp_total E E.inl [topSc E.p g] (by simp) (Nat.le_refl _) (g + 1) (List.replicate E.p.length 0) [] (topS E g)
  exact ⟨z.2, z.1, hz⟩
def CompTo (p : List PLine) (fr : Bool) (inl g : Nat) (L : List ItL) : Prop := ∃ s0 s1, TopTo (compE p fr inl 0 g) g s0 ∧ TopTo (compE p fr inl (s0.most : Int) g) g s1 ∧ L = s1.items
theorem comp_total (p : List PLine) (fr : Bool) (inl g : Nat) : ∃ L, CompTo p fr inl g L := by
  obtain ⟨s0, h0⟩ := top_total (compE p fr inl 0 g) g
  obtain ⟨s1, h1⟩ := top_total (compE p fr inl (s0.most : Int) g) g
  exact ⟨_, s0, s1, h0, h1, rfl⟩
theorem CompTo.one {p : List PLine} {fr : Bool} {inl g : Nat} {L L' : List ItL} (h : CompTo p fr inl g L) (h' : CompTo p fr inl g L') : L = L' := by
  obtain ⟨s0, s1, a, b, rfl⟩ := h
  obtain ⟨t0, t1, c, d, rfl⟩ := h'
  obtain rfl := a.one c
  obtain rfl := b.one d
  rfl
theorem top_ok (E : CmpE) (g : Nat) : JobOk E (.lines [topSc E.p g] (g + 1) (List.replicate E.p.length 0) []) (topS E g) := ⟨⟨rfl, by simp⟩, fun v hv => by rw [(List.mem_replicate.1 hv).2]; exact ⟨Int.le_refl _, by omega⟩⟩
theorem cmp_last {E : CmpE} {scs : List ScL} (ho : (curS scs).outer = true) (h7 : lkZ E.p (beZ E.p ((curS scs).f : Int)) = 7) : ∀ (n : Nat) (k : Nat) (heads : List Int) (exits : List (Int × Nat)) (s : CmpS), JobOk E (.lines scs k heads exits) s → InOk E s.items → (k : Int) ≤ beZ E.p ((curS scs).f : Int) →
    PrC (fun y => ∃ l a b, y.2.items = l ++ [a, b] ∧ InOk E l ∧ a.code = 0 ∧ (b.code = 14 ∨ b.code = 16)) (cmpF E n (.lines scs k heads exits) s) := by
  intro n
  induction n with
  | zero => intro k heads exits s _ _ _; exact prc_none
  | succ n ih =>
    intro k heads exits s hj0 hin hke
    have hj := hj0
    obtain ⟨hs, hh⟩ := hj
    have K := inOk_kept E
    have hk : k < E.p.length := by have := (beZ_lt E.p ((curS scs).f : Int)).2; omega
    have pl : (patchI s exits (k : Int)).items.length = s.items.length := patchX_length _ _ _
    have hp1 : InOk E (patchI s exits (k : Int)).items := K.pX _ _ _ hin
    have hmono : ∀ {m : Nat}, s.items.length ≤ m → ∀ v ∈ heads, 0 ≤ v ∧ v ≤ (m : Int) := fun hm v hv => by have := hh v hv; omega
    rw [cmpF]
    refine prc_ite (fun he => by omega) fun _ => ?_
    by_cases hlast : (k : Int) = beZ E.p ((curS scs).f : Int)
    · have hk7 : lkZ E.p (k : Int) = 7 := by rw [hlast]; exact h7
      refine prc_ite (fun h4 => by omega) fun _ => prc_ite (fun _ => prc_ite (fun _ => ?_) fun h => absurd hlast h) fun h => absurd hk7 h
      intro z hz
      have hz0 : z = (0, leaveI E (numI E (patchI s exits (k : Int)) 0 k (curS scs).chain) (curS scs) k true) := by
        cases n with
        | zero => simp [cmpF] at hz
        | succ n => rw [cmpF, if_pos (by omega)] at hz; exact (Option.some.inj hz).symm
      rw [hz0]
      have hap : ∀ (s' : CmpS) code arg, (emitI E (numI E s' 0 k (curS scs).chain) code arg k (curS scs).chain).items = s'.items ++ [⟨0, 0, k, s'.start, (curS scs).chain, if E.framed && !s'.items.isEmpty then 0 else s'.depth, E.framed && !s'.items.isEmpty⟩, ⟨code, arg, k, false, (curS scs).chain, if E.framed && !(numI E s' 0 k (curS scs).chain).items.isEmpty then 0 else (numI E s' 0 k (curS scs).chain).depth, E.framed && !(numI E s' 0 k (curS scs).chain).items.isEmpty⟩] := fun s' code arg => by
        show (s'.items ++ [_]) ++ [_] = _
        rw [List.append_assoc]
        rfl
      unfold leaveI
      rw [if_neg (by rw [ho]; decide)]
      split
      · exact ⟨_, _, _, hap _ _ _, hp1, rfl, .inl rfl⟩
      · exact ⟨_, _, _, hap _ _ _, hp1, rfl, .inr rfl⟩
    · have go : ∀ (hd : List Int) (ex : List (Int × Nat)) (s' : CmpS), (∀ v ∈ hd, 0 ≤ v ∧ v ≤ (s'.items.length : Int)) → InOk E s'.items → PrC (fun y => ∃ l a b, y.2.items = l ++ [a, b] ∧ InOk E l ∧ a.code = 0 ∧ (b.code = 14 ∨ b.code = 16)) (cmpF E n (.lines scs (k + 1) hd ex) s') := fun hd ex s' h1 h2 => ih (k + 1) hd ex s' ⟨hs, h1⟩ h2 (by omega)
      refine prc_ite (fun _ => ?_) fun h4 => prc_ite (fun _ => prc_ite (fun h => absurd h hlast) fun _ => ?_) fun _ => ?_
      · have q := K.em (patchI s exits (k : Int)) 10 0 k (curS scs).chain hk hs.chain (fun _ => ⟨Int.le_refl _, by omega⟩) hp1
        refine go _ _ _ (hmono ?_) (K.pX _ _ _ q.1)
        show _ ≤ (patchX _ _ _).length
        rw [patchX_length]
        have := q.2
        omega
      · have q := K.bks hk (curS scs) heads hs.chain (backIx E.p (curS scs).f k) (patchI s exits (k : Int)) (hmono (Nat.le_of_eq pl.symm)) hp1
        exact go _ _ _ (hmono (by have := q.2; omega)) q.1
      · refine prc_bind (cmp_kept K n (.expr scs k 0) { patchI s exits (k : Int) with start := true } ⟨hs, hk⟩ hp1) fun y hy => ?_
        have hy2 : s.items.length ≤ y.2.items.length := Nat.le_trans (Nat.le_of_eq pl.symm) hy.2
        have st : ∀ (s' : CmpS), InOk E s'.items ∧ y.2.items.length ≤ s'.items.length → ∀ ex, PrC (fun y => ∃ l a b, y.2.items = l ++ [a, b] ∧ InOk E l ∧ a.code = 0 ∧ (b.code = 14 ∨ b.code = 16)) (cmpF E n (.lines scs (k + 1) (heads.set k ((patchI s exits (k : Int)).items.length : Int)) ex) s') := fun s' hs' ex => go _ ex s' (fun v hv => by
            have := hs'.2
            rcases List.mem_or_eq_of_mem_set hv with h | h
            · have := hh v h; omega
            · rw [h]; omega) hs'.1
        refine prc_ite (fun _ => st _ (K.sto hk hs.chain y.2 _ _ hy.1) _) fun _ => prc_ite (fun _ => st _ ?_ _) fun _ => prc_ite (fun _ => st _ (K.lea hk y.2 _ _ hs.chain hy.1) _) fun _ => st _ ?_ _
        · exact K.em y.2 17 0 k _ hk hs.chain (by omega) hy.1
        · exact K.em y.2 11 0 k _ hk hs.chain (fun _ => ⟨Int.le_refl _, by omega⟩) hy.1
def HeadOk (l : List ItL) : Prop := ∃ x r, l = x :: r ∧ (x.code = 13 ∨ x.code = 15) ∧ 0 ≤ x.arg
theorem headOk_kept (E : CmpE) : Kept E HeadOk := ⟨fun l x h _ _ _ => by
    obtain ⟨y, r, rfl, h1⟩ := h
    exact ⟨y, r ++ [x], rfl, h1⟩,
  fun l j h => by
    obtain ⟨y, r, rfl, h1, h2⟩ := h
    cases j with
    | zero => exact ⟨{ y with arg := ((y :: r).length : Int) }, r, by simp [setArg], h1, by show (0 : Int) ≤ ((y :: r).length : Int); omega⟩
    | succ j => exact ⟨y, r.modify j fun x => { x with arg := ((y :: r).length : Int) }, by simp [setArg], h1, h2⟩⟩
theorem comp_items {p : List PLine} {fr : Bool} {inl g : Nat} {L : List ItL} (h : CompTo p fr inl g L) (hg : 0 ≤ beZ p (g : Int)) :
    (∀ x ∈ L, (x.code = 10 ∨ x.code = 11 → 0 ≤ x.arg ∧ x.arg < (L.length : Int)) ∧ x.chain.length ≤ inl ∧ x.line < p.length) ∧
    (∀ j : Nat, g < j → (j : Int) ≤ beZ p (g : Int) → lkZ p (j : Int) ≠ 4 → lkZ p (j : Int) ≠ 7 → Has j [] L) ∧ HeadOk L ∧ 3 ≤ L.length := by
  obtain ⟨s0, s1, _, ⟨r, n, hn⟩, rfl⟩ := h
  obtain ⟨E, hE⟩ : ∃ E, compE p fr inl (s0.most : Int) g = E := ⟨_, rfl⟩
  have hEp : E.p = p := by rw [← hE]; rfl
  have hEi : E.inl = inl := by rw [← hE]; rfl
  rw [hE] at hn
  have hj := top_ok E g
  obtain ⟨q, hq, hq1, hq2, hq3⟩ := beZ_is p (g : Int) hg
  have hgl : g < p.length := by omega
  have hin0 : InOk E (topS E g).items := by
    intro x hx
    have hx' : x = ⟨if E.framed = true then 13 else 15, E.words, g, false, [], if E.framed && !([] : List ItL).isEmpty then 0 else 0, E.framed && !([] : List ItL).isEmpty⟩ := by
      have : x ∈ ([] ++ [_] : List ItL) := hx
      simpa using this
    rw [hx']
    refine ⟨fun e => ?_, Nat.zero_le _, by rw [hEp]; exact hgl⟩
    dsimp only at e
    split at e <;> omega
  have hlast := cmp_last (E := E) (scs := [topSc E.p g]) rfl (by show lkZ E.p (beZ E.p (g : Int)) = 7; rw [hEp]; exact beZ_7 p _ hg) n (g + 1) _ _ _ hj hin0 (by show _ ≤ beZ E.p (g : Int); rw [hEp]; omega) _ hn
  have hin := cmp_kept (inOk_kept E) n _ _ hj hin0 _ hn
  have hst := cmp_starts n [topSc E.p g] (g + 1) _ _ _ hj _ hn
  have hhd := cmp_kept (headOk_kept E) n _ _ hj (⟨_, [], rfl, by
    show (if E.framed = true then (13 : Int) else 15) = 13 ∨ (if E.framed = true then (13 : Int) else 15) = 15
    split
    · exact .inl rfl
    · exact .inr rfl, by show 0 ≤ E.words; rw [← hE]; exact Int.natCast_nonneg _⟩ : HeadOk (topS E g).items) _ hn
  obtain ⟨l, a, b, e, hl, ha, hb⟩ := hlast
  have hlen : s1.items.length = l.length + 2 := by
    have := congrArg List.length e
    rw [List.length_append] at this
    exact this
  refine ⟨fun x hx => ⟨fun hc => ?_, ?_⟩, fun j h1 h2 h3 h4 => ?_, hhd.1, ?_⟩
  · have e' : s1.items = l ++ [a, b] := e
    rw [e'] at hx
    rcases List.mem_append.1 hx with hx | hx
    · have := (hl x hx).1 hc
      omega
    · simp only [List.mem_cons, List.not_mem_nil, or_false] at hx
      rcases hx with rfl | rfl <;> omega
  · have := hin.1 x hx
    rw [hEi, hEp] at this
    exact this.2
  · exact hst j h1 (by show _ ≤ beZ E.p (g : Int); rw [hEp]; exact h2) (by rw [hEp]; exact h3) (by rw [hEp]; exact h4)
  · have h1 : 1 ≤ (topS E g).items.length := Nat.le_refl _
    obtain ⟨y, rr, e2, h13, _⟩ := hhd.1
    have e' : s1.items = l ++ [a, b] := e
    rcases l with _ | ⟨l0, lr⟩
    · have e3 : a = y := by
        have : (a :: [b]) = y :: rr := by rw [← e2]; exact e'.symm
        injection this
      rw [e3] at ha
      omega
    · rw [hlen, List.length_cons]
      omega
end Go.Proofs.YtaplbefdijcceaaGreatDoor

namespace Go.Proofs.YtaplbefdijcceaaGreatDoor
open Go.RowKit Go.Lib
theorem locF_pre (l : List PLine) : ∀ v, v <+: locF v l := by
  induction l with
  | nil => intro v; exact List.prefix_refl _
  | cons x r ih =>
    intro v
    unfold locF
    split
    · exact (List.prefix_append v [x.name]).trans (ih _)
    · exact ih v
theorem memB_mem (v : List ByteArray) (n : ByteArray) (h : memB v n = true) : n ∈ v := by
  unfold memB at h
  simpa using h
theorem locF_set (l : List PLine) : ∀ v, ∀ x ∈ l, x.kind = 1 → x.name ∈ locF v l := by
  induction l with
  | nil => intro v x h; cases h
  | cons y r ih =>
    intro v x hx h1
    unfold locF
    rcases List.mem_cons.1 hx with rfl | hx
    · by_cases hm : memB v x.name = false
      · rw [if_pos ⟨h1, hm⟩]
        exact (locF_pre r _).subset (by simp)
      · rw [if_neg (fun h => hm h.2)]
        exact (locF_pre r _).subset (memB_mem v _ (by simpa using hm))
    · split
      · exact ih _ x hx h1
      · exact ih _ x hx h1
section
variable {p : List PLine} (ho : OkI p) {f : Nat} (hf : f ∈ funs p)
include ho hf
theorem fun_parts : ∃ hl : f < p.length, p[f].kind = 0 ∧ (f : Int) < beZ p (f : Int) ∧ beZ p (f : Int) < (p.length : Int) ∧ locZ p (f : Int) = locF p[f].args (segZ p f (beZ p (f : Int)).toNat) := by
  obtain ⟨hl, h0⟩ := funs_at p f hf
  have hb : 0 ≤ beZ p (f : Int) := by
    have key : ∀ (l : List Nat) (n : Int), followF p n l → f ∈ l → 0 ≤ beZ p (f : Int) := by
      intro l
      induction l with
      | nil => intro n _ h; cases h
      | cons x r ih =>
        intro n h hm
        rcases List.mem_cons.1 hm with e | hm
        · rw [e]; exact h.2.1
        · exact ih _ h.2.2 hm
    exact key _ _ ho.2.2.1 hf
  refine ⟨hl, h0, beZ_gt p _ hb, (beZ_lt p _).2, ?_⟩
  unfold locZ argsZ segZ
  rw [if_pos ⟨hb, by rw [lkZ_at p f hl]; exact h0⟩, if_neg (by omega), Int.toNat_natCast, List.getElem?_eq_getElem hl]
theorem loc_args : ∃ hl : f < p.length, argsZ p (f : Int) = p[f].args ∧ p[f].args <+: locZ p (f : Int) ∧ p[f].args.length ≤ 4 ∧ p[f].args.Nodup := by
  obtain ⟨hl, h0, _, _, hloc⟩ := fun_parts ho hf
  refine ⟨hl, ?_, by rw [hloc]; exact locF_pre _ _, ?_⟩
  · unfold argsZ
    rw [if_neg (by omega), Int.toNat_natCast, List.getElem?_eq_getElem hl]
  · have h := ((lineB_iff _).1 (ho.1.2 _ (List.getElem_mem hl))).2.2.1
    have h2 := af_small _ _ h
    exact ⟨h2.1, ((diffB_iff _).1 h2.2).2⟩
theorem loc_len : (locZ p (f : Int)).length ≤ 8 := (ho.2.2.2.2.2 f hf).1
theorem loc_set {k : Nat} (h1 : f < k) (h2 : (k : Int) < beZ p (f : Int)) (hl : k < p.length) (hk : p[k].kind = 1) : p[k].name ∈ locZ p (f : Int) := by
  obtain ⟨_, _, _, _, hloc⟩ := fun_parts ho hf
  rw [hloc]
  refine locF_set _ _ _ ?_ hk
  unfold segZ
  rw [List.mem_iff_getElem?]
  refine ⟨k - f, ?_⟩
  rw [List.getElem?_take, if_pos (by omega), List.getElem?_drop, show f + (k - f) = k from by omega, List.getElem?_eq_getElem hl]
end
theorem var_at (L : List ByteArray) (n : ByteArray) (h : n ∈ L) : ∃ hl : varIx L n < L.length, L[varIx L n] = n := by
  have hlt : varIx L n < L.length := List.findIdx_lt_length_of_exists ⟨n, h, by simp⟩
  exact ⟨hlt, of_decide_eq_true (List.findIdx_getElem (w := hlt))⟩
theorem follow_around (p : List PLine) (l : List Nat) : ∀ n : Int, followF p n l → ∀ o : Nat, n ≤ (o : Int) → o < p.length → ∃ g ∈ l, g ≤ o ∧ (o : Int) ≤ beZ p (g : Int) := by
  induction l with
  | nil => intro n h o h1 h2; have : n = (p.length : Int) := h; omega
  | cons x r ih =>
    intro n h o h1 h2
    obtain ⟨hx, hb, hr⟩ := h
    by_cases ho : (o : Int) ≤ beZ p (x : Int)
    · exact ⟨x, List.mem_cons_self .., by omega, ho⟩
    · obtain ⟨g, hg, h3⟩ := ih _ hr o (by omega) h2
      exact ⟨g, List.mem_cons_of_mem _ hg, h3⟩
theorem else_in {p : List PLine} (ho : OkI p) {f k : Nat} (hf : f ∈ funs p) (h1 : f < k) (h2 : (k : Int) < beZ p (f : Int)) (hl : k < p.length) (h4 : p[k].kind = 4) : f < elseOpen p k := by
  obtain ⟨j1, j2, j3⟩ := else_jump ho hl h4
  generalize elseOpen p k = o at *
  have h3 : lkZ p (o : Int) = 3 := by
    unfold elseZ at j2
    split at j2
    · rename_i hc; exact hc.2
    · omega
  have hob : 0 ≤ beZ p (o : Int) := by omega
  obtain ⟨g, hg, hgo, hob2⟩ := follow_around p (funs p) 0 ho.2.2.1 o (by omega) (by omega)
  obtain ⟨hgl, hg0⟩ := funs_at p g hg
  have hne : g ≠ o := fun e => by
    subst e
    rw [lkZ_at p g hgl, hg0] at h3
    exact absurd h3 (by decide)
  have hne2 : (o : Int) ≠ beZ p (g : Int) := fun e => by
    have := beZ_7 p (g : Int) (by omega)
    rw [← e, h3] at this
    exact absurd this (by decide)
  rcases Nat.lt_trichotomy g f with h | h | h
  · have a1 := follow_apart p (funs p) 0 ho.2.2.1 g hg f hf h
    have a2 := beZ_apart p g o (by omega) (by omega) (by omega) hob
    omega
  · omega
  · have := follow_apart p (funs p) 0 ho.2.2.1 f hf g hg h
    omega
end Go.Proofs.YtaplbefdijcceaaGreatDoor

namespace Go.Proofs.YtaplbefdijcceaaGreatDoor
open Go.RowKit Go.Lib
end Go.Proofs.YtaplbefdijcceaaGreatDoor
namespace Go.Proofs.YtaplbefdijcceaaGreatDoor
open Go.RowKit Go.Lib
def LnL.has (x : LnL) (g : Nat) : Prop := x.va.ownBlock = some g ∨ x.ve.ownBlock = some g
def Made (TS TK : TypeId) (B : Nat) (w : World) (X : List LnL) : Prop :=
  (∀ x ∈ X, w.ownsRow B TS 1 x.va x.args.length (strV x.args) ∧ w.ownsRow B TK 3 x.ve x.expr.length (toksV x.expr)) ∧ X.Pairwise fun x y => ∀ g h, x.has g → y.has h → g < h
theorem Made.nil (TS TK : TypeId) (B : Nat) (w : World) : Made TS TK B w [] := ⟨fun _ h => by simp at h, List.Pairwise.nil⟩
theorem Made.below {TS TK : TypeId} {B : Nat} {w w' : World} {X : List LnL} (h : Made TS TK B w X) (hb : Below w.heap.size w w') : Made TS TK B w' X :=
  ⟨fun x hx => ⟨owns_below (h.1 x hx).1 hb, owns3_below (h.1 x hx).2 hb⟩, h.2⟩
theorem Made.lt {TS TK : TypeId} {B : Nat} {w : World} {X : List LnL} (h : Made TS TK B w X) (x : LnL) (hx : x ∈ X) (g : Nat) (hg : x.has g) : B ≤ g ∧ g < w.heap.size := by
  rcases hg with hg | hg
  · exact (h.1 x hx).1.lt g hg
  · exact (h.1 x hx).2.lt g hg
theorem Made.grown {TS TK TL : TypeId} {B : Nat} {w w' : World} {X : List LnL} {r : Option Nat} (h : Made TS TK B w X) (hg : w.grownBy w' r) (hr : ∀ g, r = some g → w.heap.size ≤ g ∨ ∃ cs, w.heap[g]? = some (.cells cs TL (0, 0))) (h1 : TL ≠ TS) (h2 : TL ≠ TK) : Made TS TK B w' X := by
  refine ⟨fun x hx => ⟨owns_other (h.1 x hx).1 hg (fun g e => ?_), owns_other (h.1 x hx).2 hg (fun g e => ?_)⟩, h.2⟩
  · rcases hr g e with h | ⟨cs, h⟩
    · exact .inl h
    · exact .inr ⟨cs, _, h, h1⟩
  · rcases hr g e with h | ⟨cs, h⟩
    · exact .inl h
    · exact .inr ⟨cs, _, h, h2⟩
theorem Made.snoc {TS TK : TypeId} {B B' : Nat} {w w' : World} {X : List LnL} {x : LnL} (h : Made TS TK B w X) (hb : Below w.heap.size w w') (hx : w'.ownsRow B' TS 1 x.va x.args.length (strV x.args) ∧ w'.ownsRow B' TK 3 x.ve x.expr.length (toksV x.expr)) (hB : B ≤ B') (hw : w.heap.size ≤ B') : Made TS TK B w' (X ++ [x]) := by
  refine ⟨fun y hy => ?_, List.pairwise_append.2 ⟨h.2, List.pairwise_singleton _ _, fun y hy z hz g k hg hk => ?_⟩⟩
  · rcases List.mem_append.1 hy with hy | hy
    · exact (h.below hb).1 y hy
    · obtain rfl : y = x := by simpa using hy
      exact ⟨owns_lo hx.1 hB, owns_lo hx.2 hB⟩
  · obtain rfl : z = x := by simpa using hz
    have h1 := (h.lt y hy g hg).2
    rcases hk with hk | hk
    · have := (hx.1.lt k hk).1; omega
    · have := (hx.2.lt k hk).1; omega
end Go.Proofs.YtaplbefdijcceaaGreatDoor
namespace Go.Proofs.YtaplbefdijcceaaGreatDoor
open Go.RowKit Go.Lib
end Go.Proofs.YtaplbefdijcceaaGreatDoor
namespace Go.Proofs.YtaplbefdijcceaaGreatDoor
open Go.RowKit Go.Lib
end Go.Proofs.YtaplbefdijcceaaGreatDoor
namespace Go.Proofs.YtaplbefdijcceaaGreatDoor
open Go.RowKit Go.Lib
theorem far {B T n s : Nat} {w w' : World} {v : Value} {xs : List Value} {r : Option Nat} (h : w.ownsRow B T s v n xs) (hg : w.grownBy w' r) (hne : ∀ g, v.ownBlock = some g → r ≠ some g) : w'.ownsRow B T s v n xs :=
  h.kept hg (by
    cases hv : v.ownBlock with
    | none => exact .inl rfl
    | some g => exact .inr (fun e => hne g hv e.symm))
theorem Made.all {TS TK : TypeId} {B : Nat} {w : World} {X : List LnL} (h : Made TS TK B w X) : AllIn TS TK w X := fun x hx => ⟨owns_base (h.1 x hx).1, owns_base (h.1 x hx).2⟩
end Go.Proofs.YtaplbefdijcceaaGreatDoor

namespace Go.Proofs.YtaplbefdijcceaaGreatDoor
open Go.RowKit Go.Lib
structure IvL where
  xs : List Int
  v : Value
def ivV (X : List IvL) : List Value := X.map (·.v)
def ivX (X : List IvL) : List (List Int) := X.map (·.xs)
def MadeI (TI B : Nat) (w : World) (X : List IvL) : Prop :=
  (∀ x ∈ X, w.ownsRow B TI 1 x.v x.xs.length (intV x.xs)) ∧ X.Pairwise fun x y => ∀ g h, x.v.ownBlock = some g → y.v.ownBlock = some h → g < h
theorem MadeI.lt {TI B : Nat} {w : World} {X : List IvL} (h : MadeI TI B w X) (x : IvL) (hx : x ∈ X) (g : Nat) (hg : x.v.ownBlock = some g) : B ≤ g ∧ g < w.heap.size := (h.1 x hx).lt g hg
theorem MadeI.kept {TI B : Nat} {w w' : World} {X : List IvL} {r : Option Nat} (h : MadeI TI B w X) (hg : w.grownBy w' r) (hr : ∀ x ∈ X, ∀ g, x.v.ownBlock = some g → r ≠ some g) : MadeI TI B w' X :=
  ⟨fun x hx => far (h.1 x hx) hg (hr x hx), h.2⟩
end Go.Proofs.YtaplbefdijcceaaGreatDoor
