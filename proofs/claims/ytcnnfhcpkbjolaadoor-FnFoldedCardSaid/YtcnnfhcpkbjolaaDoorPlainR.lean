/- Plain facts: Plain facts: What ParseLine hands back; Rows of lines that a call has made: each line's slices lie in rows of their own, apart from one another; and a text cut at its line feeds; Plain facts: Plain facts on the marks that the laws write into lists of strings; The marks that the laws write into rows of tokens; Marks that the laws write into lines in memory: which line holds which marks, and that the lines stay apart; The structure of programs, plain: ends of blocks, elses, functions, variables; Which programs make sense, in two forms: check by check over the whole program, and function by function; they are the same; Blocks: where their elses and ends are; and functions that follow one another; Runs of programs, plain: what a program does from a job on, with a bound on the steps; what it comes to does not hang on the bound; Runs of programs, plain: what is put out and visited only grows, up to the limit; a run with a smaller limit is the beginning of one with a greater limit; Runs of programs, plain: every visit begins in main and goes from call to call; Runs of programs, plain: in which function a line lies; what a visit's lines say of one another; Runs of programs, plain: what a job's result looks like, where a function goes on, and that every run of a program that makes sense comes to its end; Runs of programs, plain: how much is put out, how large values are, where expressions end, and which loops are around a line; Runs of programs, plain: what a run that is known says of its parts; Runs of programs, plain: the variables of a function, by place and by name; Rows of numbers, in rows of their own, within a row: what a call has made, and their marks; Where a run is kept in memory, and what a step of it may have turned; Where the model keeps a run under way; What the model's perform keeps: the run, its variables, its loops. Nothing of the program. -/
import Derived.Test.YtcnnfhcpkbjolaaDoorPlainB
import Derived.Test.YtcnnfhcpkbjolaaDoorPlainA
/-! Plain facts: What ParseLine hands back; Rows of lines that a call has made: each line's slices lie in rows of their own, apart from one another; and a text cut at its line feeds; Plain facts: Plain facts on the marks that the laws write into lists of strings; The marks that the laws write into rows of tokens; Marks that the laws write into lines in memory: which line holds which marks, and that the lines stay apart. Nothing of the program -/
/-! What ParseLine hands back. Nothing of the program -/
namespace Go.Proofs.YtcnnfhcpkbjolaaDoor
open Go.RowKit Go.Lib

/-- A line and whether it is one were returned, the line's slices in rows of their own from block B on. -/
def PlRes (TS TK B : Nat) (r : PLine × Bool) (w : World) (e : Ending) (w' : World) : Prop :=
  ∃ va ve, e = .returned (.tuple #[.agg #[.int .i64 r.1.kind, .string r.1.name, va, ve], .bool r.2]) ∧ w'.ownsRow B TS 1 va r.1.args.length (strV r.1.args) ∧ w'.ownsRow B TK 3 ve r.1.expr.length (toksV r.1.expr) ∧ Below w.heap.size w w'
end Go.Proofs.YtcnnfhcpkbjolaaDoor

/-! Rows of lines that a call has made: each line's slices lie in rows of their own, apart from one another; and a text cut at its line feeds. Nothing of the program -/
namespace Go.Proofs.YtcnnfhcpkbjolaaDoor
open Go.RowKit Go.Lib

/-- A line's own blocks. -/
def LnL.has (x : LnL) (g : Nat) : Prop := x.va.ownBlock = some g ∨ x.ve.ownBlock = some g
/-- Each line's slices in rows of their own, from B on, a later line's behind an earlier one's. -/
def Made (TS TK : TypeId) (B : Nat) (w : World) (X : List LnL) : Prop :=
  (∀ x ∈ X, w.ownsRow B TS 1 x.va x.args.length (strV x.args) ∧ w.ownsRow B TK 3 x.ve x.expr.length (toksV x.expr)) ∧ X.Pairwise fun x y => ∀ g h, x.has g → y.has h → g < h
theorem Made.nil (TS TK : TypeId) (B : Nat) (w : World) : Made TS TK B w [] := ⟨fun _ h => by simp at h, List.Pairwise.nil⟩
theorem Made.below {TS TK : TypeId} {B : Nat} {w w' : World} {X : List LnL} (h : Made TS TK B w X) (hb : Below w.heap.size w w') : Made TS TK B w' X :=
  ⟨fun x hx => ⟨owns_below (h.1 x hx).1 hb, owns3_below (h.1 x hx).2 hb⟩, h.2⟩
theorem Made.lt {TS TK : TypeId} {B : Nat} {w : World} {X : List LnL} (h : Made TS TK B w X) (x : LnL) (hx : x ∈ X) (g : Nat) (hg : x.has g) : B ≤ g ∧ g < w.heap.size := by
  rcases hg with hg | hg
  · exact (h.1 x hx).1.lt g hg
  · exact (h.1 x hx).2.lt g hg
theorem Made.grown {TS TK TL : TypeId} {B : Nat} {w w' : World} {X : List LnL} {r : Option Nat} (h : Made TS TK B w X) (hg : w.grownBy w' r) (hr : ∀ g, r = some g → w.heap.size ≤ g ∨ ∃ cs, w.heap[g]? = some (.cells cs TL (0, 0))) (h1 : TL ≠ TS) (h2 : TL ≠ TK) : Made TS TK B w' X := by
  refine ⟨fun x hx => ⟨owns_other (h.1 x hx).1 hg (fun g e => ?_), owns_other (h.1 x hx).2 hg (fun g e => ?_)⟩, h.2⟩
  · rcases hr g e with h | ⟨cs, h⟩
    · exact .inl h
    · exact .inr ⟨cs, _, h, h1⟩
  · rcases hr g e with h | ⟨cs, h⟩
    · exact .inl h
    · exact .inr ⟨cs, _, h, h2⟩
theorem Made.snoc {TS TK : TypeId} {B B' : Nat} {w w' : World} {X : List LnL} {x : LnL} (h : Made TS TK B w X) (hb : Below w.heap.size w w') (hx : w'.ownsRow B' TS 1 x.va x.args.length (strV x.args) ∧ w'.ownsRow B' TK 3 x.ve x.expr.length (toksV x.expr)) (hB : B ≤ B') (hw : w.heap.size ≤ B') : Made TS TK B w' (X ++ [x]) := by
  refine ⟨fun y hy => ?_, List.pairwise_append.2 ⟨h.2, List.pairwise_singleton _ _, fun y hy z hz g k hg hk => ?_⟩⟩
  · rcases List.mem_append.1 hy with hy | hy
    · exact (h.below hb).1 y hy
    · obtain rfl : y = x := by simpa using hy
      exact ⟨owns_lo hx.1 hB, owns_lo hx.2 hB⟩
  · obtain rfl : z = x := by simpa using hz
    have h1 := (h.lt y hy g hg).2
    rcases hk with hk | hk
    · have := (hx.1.lt k hk).1; omega
    · have := (hx.2.lt k hk).1; omega
/-- ParseProgram's answer. -/
def PpRes (TL TS TK B : Nat) (r : List PLine × Bool) (w : World) (e : Ending) (w' : World) : Prop :=
  ∃ v X, e = .returned (.tuple #[v, .bool r.2]) ∧ plL X = r.1 ∧ w'.ownsRow B TL 4 v X.length (lnsV X) ∧ Made TS TK B w' X ∧ Below w.heap.size w w'
/-- What is still to be read of s, where the lines p have been read. -/
def Left (s : ByteArray) (p : List PLine) (q : ByteArray) : Prop := q.size ≤ s.size ∧ lns [] s.data.toList = (lns [] q.data.toList).map (p ++ ·)
theorem Left.start (s : ByteArray) : Left s [] s := ⟨Nat.le_refl _, by simp⟩
theorem Left.stop {s q : ByteArray} {p : List PLine} (h : Left s p q) (hq : q.size = 0) : lns [] s.data.toList = some p := by
  obtain rfl := empty_of q hq
  rw [h.2]
  simp [lns]
theorem cut_parts (q : ByteArray) (o : Nat) (h : indexByte q.data.toList 10 = (o : Int)) : o < q.size ∧ q.data.toList = (q.extract 0 o).data.toList ++ 10 :: (q.extract (o + 1) q.size).data.toList ∧ (∀ c ∈ (q.extract 0 o).data.toList, c ≠ 10) ∧ (q.extract (o + 1) q.size).size < q.size := by
  obtain ⟨hat, hno⟩ := indexByte_some h
  obtain ⟨hol, he⟩ := List.getElem?_eq_some_iff.1 hat
  have hos : o < q.size := by rwa [list_len] at hol
  have t1 : (q.extract 0 o).data.toList = q.data.toList.take o := by simp [ByteArray.data_extract]
  have t2 : (q.extract (o + 1) q.size).data.toList = q.data.toList.drop (o + 1) := by
    simp only [ByteArray.data_extract, Array.toList_extract, List.extract_eq_take_drop]
    rw [List.take_of_length_le]
    rw [List.length_drop, list_len]
    exact Nat.le_refl _
  refine ⟨hos, ?_, ?_, ?_⟩
  · rw [t1, t2]
    have h1 := List.take_append_drop o q.data.toList
    rw [List.drop_eq_getElem_cons hol, he] at h1
    exact h1.symm
  · intro c hc e
    subst e
    rw [t1] at hc
    obtain ⟨k, hk⟩ := List.mem_iff_getElem?.1 hc
    rw [List.getElem?_take] at hk
    split at hk
    · rename_i hlt
      exact hno k hlt hk
    · cases hk
  · rw [← list_len, t2, List.length_drop, list_len]
    omega
theorem Left.step {s q : ByteArray} {p : List PLine} {o : Nat} (h : Left s p q) (ho : indexByte q.data.toList 10 = (o : Int)) (hp : (plZ (q.extract 0 o)).2 = true) : Left s (p ++ [(plZ (q.extract 0 o)).1]) (q.extract (o + 1) q.size) := by
  obtain ⟨_, e, hn, hl⟩ := cut_parts q o ho
  refine ⟨by have := h.1; omega, ?_⟩
  rw [h.2, e, lns_line _ _ hn, bytes_id, if_pos hp, Option.map_map]
  congr 1
  funext x
  simp
theorem Left.bad {s q : ByteArray} {p : List PLine} {o : Nat} (h : Left s p q) (ho : indexByte q.data.toList 10 = (o : Int)) (hp : (plZ (q.extract 0 o)).2 = false) : lns [] s.data.toList = none := by
  obtain ⟨_, e, hn, hl⟩ := cut_parts q o ho
  rw [h.2, e, lns_line _ _ hn, bytes_id, if_neg (by rw [hp]; decide)]
  rfl
theorem Left.opened {s q : ByteArray} {p : List PLine} (h : Left s p q) (ho : indexByte q.data.toList 10 = -1) (hq : q.size ≠ 0) : lns [] s.data.toList = none := by
  rw [h.2, lns_open _ (fun c hc e => by
    subst e
    obtain ⟨k, hk⟩ := List.mem_iff_getElem?.1 hc
    exact indexByte_none ho k hk) (fun e => hq (by rw [← list_len, e]; rfl))]
  rfl
theorem ppZ_full {s q : ByteArray} {p : List PLine} (h : Left s p q) (hl : 60 < p.length) : ppZ s = ([], false) := by
  cases hq : lns [] q.data.toList with
  | none => exact ppZ_none s (by rw [h.2, hq]; rfl)
  | some r => exact ppZ_long s (p ++ r) (by rw [h.2, hq]; rfl) (by rw [List.length_append]; omega)
theorem from_list (s : ByteArray) (t : Nat) : (s.extract t s.size).data.toList = s.data.toList.drop t := by
  simp only [ByteArray.data_extract, Array.toList_extract, List.extract_eq_take_drop]
  rw [List.take_of_length_le]
  rw [List.length_drop, list_len]
  exact Nat.le_refl _
theorem from_size (s : ByteArray) (t : Nat) : (s.extract t s.size).size = s.size - t := by rw [← list_len, from_list, List.length_drop, list_len]
/-- The next line feed behind t is at k. -/
theorem from_index (s : ByteArray) (t k : Nat) (htk : t ≤ k) (hk : s.data.toList[k]? = some 10) (hno : ∀ j, t ≤ j → j < k → s.data.toList[j]? ≠ some 10) : indexByte (s.extract t s.size).data.toList 10 = ((k - t : Nat) : Int) := by
  obtain ⟨hkl, he⟩ := List.getElem?_eq_some_iff.1 hk
  have h1 : s.data.toList.drop t = (s.data.toList.drop t).take (k - t) ++ 10 :: s.data.toList.drop (k + 1) := by
    have h2 := List.take_append_drop (k - t) (s.data.toList.drop t)
    rw [List.drop_drop, show t + (k - t) = k from by omega, List.drop_eq_getElem_cons hkl, he] at h2
    exact h2.symm
  rw [from_list, h1, index_at]
  · rw [List.length_take, List.length_drop]
    congr 1
    omega
  · intro hm
    obtain ⟨j, hj⟩ := List.mem_iff_getElem?.1 hm
    rw [List.getElem?_take] at hj
    split at hj
    · rw [List.getElem?_drop] at hj
      exact hno _ (by omega) (by omega) hj
    · cases hj
theorem from_none (s : ByteArray) (t : Nat) (hno : ∀ j, t ≤ j → j < s.size → s.data.toList[j]? ≠ some 10) : indexByte (s.extract t s.size).data.toList 10 = -1 := by
  rcases Int.lt_or_le (indexByte (s.extract t s.size).data.toList 10) 0 with h | h
  · have := indexByte_ge (s.extract t s.size).data.toList 10; omega
  · obtain ⟨o, ho⟩ := Int.eq_ofNat_of_zero_le h
    have h1 := (indexByte_some ho).1
    rw [from_list, List.getElem?_drop] at h1
    have h2 := (List.getElem?_eq_some_iff.1 h1).1
    rw [list_len] at h2
    exact absurd h1 (hno _ (by omega) h2)
theorem from_part (s : ByteArray) (t k : Nat) (h : t ≤ k) (hk : k ≤ s.size) : (s.extract t s.size).extract 0 (k - t) = s.extract t k := by
  apply bl_eq
  rw [ByteArray.data_extract, Array.toList_extract, from_list, ByteArray.data_extract, Array.toList_extract, List.extract_eq_take_drop, List.extract_eq_take_drop]
  simp
theorem from_rest (s : ByteArray) (t k : Nat) (h : t ≤ k) (hk : k < s.size) : (s.extract t s.size).extract (k - t + 1) (s.extract t s.size).size = s.extract (k + 1) s.size := by
  apply bl_eq
  rw [from_list, from_list, from_list, List.drop_drop]
  congr 1
  omega
end Go.Proofs.YtcnnfhcpkbjolaaDoor

/-! Plain facts: Plain facts on the marks that the laws write into lists of strings; The marks that the laws write into rows of tokens. Nothing of the program -/
/-! Plain facts on the marks that the laws write into lists of strings. Nothing of the program -/
namespace Go.Proofs.YtcnnfhcpkbjolaaDoor
open Go.RowKit Go.Lib

/-- The mark of the number k. -/
def mkT (k : Nat) : ByteArray := ⟨(109 :: decDigits k).toArray⟩
/-- The marks from k on, n of them. -/
def mks (k n : Nat) : List ByteArray := (List.range n).map fun j => mkT (k + j)
theorem mks_length (k n : Nat) : (mks k n).length = n := by simp [mks]
theorem mks_get (k n j : Nat) (h : j < n) : (mks k n)[j]? = some (mkT (k + j)) := by simp [mks, h]

theorem strV_set (l : List ByteArray) (k : Nat) (x : ByteArray) : (strV l).set k (.string x) = strV (l.set k x) := by simp [strV, List.map_set]
/-- The first k of a list's elements are marks, the others are what they were. -/
def half (m k : Nat) (l : List ByteArray) : List ByteArray := mks m k ++ l.drop k
theorem half_length (m k : Nat) (l : List ByteArray) (h : k ≤ l.length) : (half m k l).length = l.length := by simp [half, mks_length]; omega
theorem half_zero (m : Nat) (l : List ByteArray) : half m 0 l = l := by simp [half, mks]
theorem half_all (m : Nat) (l : List ByteArray) : half m l.length l = mks m l.length := by simp [half]
theorem half_set (m k : Nat) (l : List ByteArray) (h : k < l.length) : (half m k l).set k (mkT (m + k)) = half m (k + 1) l := by
  unfold half
  have e : mks m (k + 1) = mks m k ++ [mkT (m + k)] := by simp [mks, List.range_succ]
  rw [e, List.set_append_right _ _ (by rw [mks_length]; exact Nat.le_refl _), mks_length, Nat.sub_self, List.append_assoc]
  congr 1
  rw [List.drop_eq_getElem_cons h]
  rfl
end Go.Proofs.YtcnnfhcpkbjolaaDoor

/-! The marks that the laws write into rows of tokens. Nothing of the program -/
namespace Go.Proofs.YtcnnfhcpkbjolaaDoor
open Go.RowKit Go.Lib

def mkTok (m j : Nat) : TokL := ⟨((m + 3 * j : Nat) : Int), ((m + 3 * j + 1 : Nat) : Int), mkT (m + 3 * j + 2)⟩
def mkTs (m n : Nat) : List TokL := (List.range n).map (mkTok m)
theorem mkTs_length (m n : Nat) : (mkTs m n).length = n := by simp [mkTs]
theorem mkTs_get (m n j : Nat) (h : j < (mkTs m n).length) : (mkTs m n)[j] = mkTok m j := by simp [mkTs]
end Go.Proofs.YtcnnfhcpkbjolaaDoor

/-! Marks that the laws write into lines in memory: which line holds which marks, and that the lines stay apart. Nothing of the program -/
namespace Go.Proofs.YtcnnfhcpkbjolaaDoor
open Go.RowKit Go.Lib

/-- The number behind a line's marks. -/
def nxt (m : Nat) (x : LnL) : Nat := m + 2 + x.args.length + 3 * x.expr.length
/-- A line with marks from m on. -/
def mk1 (m : Nat) (x : LnL) : LnL := ⟨(m : Int), mkT (m + 1), mks (m + 2) x.args.length, mkTs (m + 2 + x.args.length) x.expr.length, x.va, x.ve⟩
def mkN (m : Nat) (X : List LnL) : Nat := X.foldl nxt m
def mkX : Nat → List LnL → List LnL
  | _, [] => []
  | m, x :: r => mk1 m x :: mkX (nxt m x) r
theorem mkN_snoc (m : Nat) (X : List LnL) (x : LnL) : mkN m (X ++ [x]) = nxt (mkN m X) x := by simp [mkN]
theorem mkX_snoc (X : List LnL) : ∀ m x, mkX m (X ++ [x]) = mkX m X ++ [mk1 (mkN m X) x] := by
  induction X with
  | nil => intro m x; rfl
  | cons y r ih => intro m x; simp only [List.cons_append, mkX, ih]; rfl
theorem mkX_length (X : List LnL) : ∀ m, (mkX m X).length = X.length := by
  induction X with
  | nil => intro m; rfl
  | cons y r ih => intro m; simp [mkX, ih]
theorem mkN_le (X : List LnL) : ∀ m, (∀ x ∈ X, x.args.length ≤ 4 ∧ x.expr.length ≤ 20) → mkN m X ≤ m + 66 * X.length := by
  induction X with
  | nil => intro m _; exact Nat.le_refl _
  | cons y r ih =>
    intro m h
    have h1 := h y (List.mem_cons_self ..)
    have h2 := ih (nxt m y) (fun x hx => h x (List.mem_cons_of_mem _ hx))
    have h3 : mkN m (y :: r) = mkN (nxt m y) r := rfl
    rw [h3, List.length_cons]
    unfold nxt at h2 ⊢
    omega
theorem mkN_ge (X : List LnL) : ∀ m, m ≤ mkN m X := by
  induction X with
  | nil => intro m; exact Nat.le_refl _
  | cons y r ih =>
    intro m
    have h2 := ih (nxt m y)
    have h3 : mkN m (y :: r) = mkN (nxt m y) r := rfl
    rw [h3]
    unfold nxt at h2 ⊢
    omega
theorem mkX_get (X : List LnL) : ∀ m k (h : k < X.length), ∃ h' : k < (mkX m X).length, (mkX m X)[k] = mk1 (mkN m (X.take k)) X[k] := by
  induction X with
  | nil => intro m k h; simp at h
  | cons y r ih =>
    intro m k h
    cases k with
    | zero => exact ⟨by rw [mkX_length]; exact h, rfl⟩
    | succ k =>
      obtain ⟨h', e⟩ := ih (nxt m y) k (by simpa using h)
      exact ⟨by rw [mkX_length]; exact h, e⟩
theorem mkN_take (m : Nat) (X : List LnL) (k : Nat) (h : k < X.length) : mkN m (X.take (k + 1)) = nxt (mkN m (X.take k)) X[k] := by
  rw [List.take_succ_eq_append_getElem h, mkN_snoc]
theorem lnsV_set2 (A R : List LnL) (x : LnL) (a : Int) (b : ByteArray) :
    ((lnsV (A ++ x :: R)).set (A.length * 4) (.int .i64 a)).set (A.length * 4 + 1) (.string b) = lnsV (A ++ ⟨a, b, x.args, x.expr, x.va, x.ve⟩ :: R) := by
  have hl : (lnsV A).length = A.length * 4 := lnsV_length A
  rw [lnsV_append, lnsV_append, List.set_append_right _ _ (by omega), List.set_append_right _ _ (by omega), hl, Nat.sub_self, Nat.add_sub_cancel_left]
  rfl
theorem far {B T n s : Nat} {w w' : World} {v : Value} {xs : List Value} {r : Option Nat} (h : w.ownsRow B T s v n xs) (hg : w.grownBy w' r) (hne : ∀ g, v.ownBlock = some g → r ≠ some g) : w'.ownsRow B T s v n xs :=
  h.kept hg (by
    cases hv : v.ownBlock with
    | none => exact .inl rfl
    | some g => exact .inr (fun e => hne g hv e.symm))
/-- One line's own rows were written; the others are as they were. -/
theorem Made.put {TS TK : TypeId} {B : Nat} {w w' : World} {A R : List LnL} {x x' : LnL} {r : Option Nat} (h : Made TS TK B w (A ++ x :: R)) (hg : w.grownBy w' r) (hr : ∀ g, r = some g → x.has g) (hva : x'.va = x.va) (hve : x'.ve = x.ve)
    (h1 : w'.ownsRow B TS 1 x'.va x'.args.length (strV x'.args)) (h2 : w'.ownsRow B TK 3 x'.ve x'.expr.length (toksV x'.expr)) : Made TS TK B w' (A ++ x' :: R) := by
  have hh : ∀ g, x'.has g ↔ x.has g := fun g => by unfold LnL.has; rw [hva, hve]
  obtain ⟨hA, hxR, hc⟩ := List.pairwise_append.1 h.2
  obtain ⟨hx, hR⟩ := List.pairwise_cons.1 hxR
  refine ⟨fun y hy => ?_, List.pairwise_append.2 ⟨hA, List.pairwise_cons.2 ⟨fun y hy g k hg hk => hx y hy g k ((hh g).1 hg) hk, hR⟩, fun a ha y hy g k hg hk => ?_⟩⟩
  · have old : ∀ y ∈ A ++ x :: R, (∀ g, y.has g → ∀ k, x.has k → g ≠ k) → w'.ownsRow B TS 1 y.va y.args.length (strV y.args) ∧ w'.ownsRow B TK 3 y.ve y.expr.length (toksV y.expr) := fun y hy hne =>
      ⟨far (h.1 y hy).1 hg (fun g e e' => hne g (.inl e) g (hr g e') rfl), far (h.1 y hy).2 hg (fun g e e' => hne g (.inr e) g (hr g e') rfl)⟩
    rcases List.mem_append.1 hy with hy | hy
    · exact old y (List.mem_append_left _ hy) (fun g hg k hk e => by have := hc y hy x (List.mem_cons_self ..) g k hg hk; omega)
    · rcases List.mem_cons.1 hy with rfl | hy
      · exact ⟨h1, h2⟩
      · exact old y (List.mem_append_right _ (List.mem_cons_of_mem _ hy)) (fun g hg k hk e => by have := hx y hy k g hk hg; omega)
  · rcases List.mem_cons.1 hy with rfl | hy
    · exact hc a ha x (List.mem_cons_self ..) g k hg ((hh k).1 hk)
    · exact hc a ha y (List.mem_cons_of_mem _ hy) g k hg hk
/-- Made lines lie in memory. -/
theorem Made.all {TS TK : TypeId} {B : Nat} {w : World} {X : List LnL} (h : Made TS TK B w X) : AllIn TS TK w X := fun x hx => ⟨owns_base (h.1 x hx).1, owns_base (h.1 x hx).2⟩
theorem Made.old {TS TK : TypeId} {B B' : Nat} {w w' : World} {X : List LnL} (h : Made TS TK B w X) (hb : Below B' w w') (hlt : w.heap.size ≤ B') : Made TS TK B w' X :=
  h.below (hb.mono hlt)
end Go.Proofs.YtcnnfhcpkbjolaaDoor

/-! The structure of programs, plain: ends of blocks, elses, functions, variables. Nothing of the program -/
namespace Go.Proofs.YtcnnfhcpkbjolaaDoor
open Go.RowKit Go.Lib

/-- Does a line of this kind begin a block? -/
def isOp (k : Int) : Bool := k == 0 || k == 3 || k == 5
/-- By how much a line of this kind changes the number of open blocks. -/
def opn (k : Int) : Int := if isOp k then 1 else if k = 7 then -1 else 0
theorem opn_cases (k : Int) : (opn k = 1 ∧ isOp k = true) ∨ (opn k = -1 ∧ k = 7) ∨ (opn k = 0 ∧ isOp k = false ∧ k ≠ 7) := by
  unfold opn
  by_cases h : isOp k = true
  · exact .inl ⟨by rw [if_pos h], h⟩
  · rw [if_neg h]
    by_cases h7 : k = 7
    · exact .inr (.inl ⟨by rw [if_pos h7], h7⟩)
    · exact .inr (.inr ⟨by rw [if_neg h7], by simpa using h, h7⟩)
/-- The end of what is open, o blocks, from the line i on. -/
def endF (o : Int) (i : Nat) : List PLine → Int
  | [] => -1
  | x :: r => if o + opn x.kind = 0 then (i : Int) else endF (o + opn x.kind) (i + 1) r
/-- Line k's kind; -1 where there is none. -/
def lkZ (p : List PLine) (k : Int) : Int := if k < 0 then -1 else match p[k.toNat]? with
  | none => -1
  | some x => x.kind
def beZ (p : List PLine) (k : Int) : Int := if 0 ≤ k ∧ k.toNat < p.length ∧ isOp (lkZ p k) = true then endF 0 k.toNat (p.drop k.toNat) else -1
theorem lkZ_at (p : List PLine) (k : Nat) (h : k < p.length) : lkZ p (k : Int) = p[k].kind := by
  unfold lkZ
  rw [if_neg (by omega), Int.toNat_natCast, List.getElem?_eq_getElem h]
theorem endF_at (p : List PLine) (o : Int) (i : Nat) (h : i < p.length) : endF o i (p.drop i) = if o + opn p[i].kind = 0 then (i : Int) else endF (o + opn p[i].kind) (i + 1) (p.drop (i + 1)) := by
  rw [List.drop_eq_getElem_cons h]
  rfl
theorem endF_out (p : List PLine) (o : Int) (i : Nat) (h : p.length ≤ i) : endF o i (p.drop i) = -1 := by
  rw [List.drop_of_length_le h]
  rfl
theorem endF_ge (l : List PLine) : ∀ o i, endF o i l = -1 ∨ ((i : Int) ≤ endF o i l ∧ endF o i l < (i : Int) + (l.length : Int)) := by
  induction l with
  | nil => intro o i; exact .inl rfl
  | cons x r ih =>
    intro o i
    unfold endF
    split
    · exact .inr ⟨Int.le_refl _, by rw [List.length_cons]; omega⟩
    · rcases ih (o + opn x.kind) (i + 1) with h | h
      · exact .inl h
      · refine .inr ⟨by omega, ?_⟩
        rw [List.length_cons]
        omega
/-- Within what ends, a smaller count ends earlier. -/
theorem endF_in (l : List PLine) : ∀ (o c : Int) (i : Nat), 1 ≤ o → 1 ≤ c → 0 ≤ endF (o + c) i l → (i : Int) ≤ endF c i l ∧ endF c i l < endF (o + c) i l := by
  induction l with
  | nil => intro o c i _ _ h; simp [endF] at h
  | cons x r ih =>
    intro o c i ho hc h
    have hd := opn_cases x.kind
    have e1 : endF (o + c) i (x :: r) = endF (o + c + opn x.kind) (i + 1) r := by
      rw [endF, if_neg (by omega)]
    rw [e1] at h ⊢
    by_cases h0 : c + opn x.kind = 0
    · have e2 : endF c i (x :: r) = (i : Int) := by rw [endF, if_pos h0]
      rw [e2]
      refine ⟨Int.le_refl _, ?_⟩
      rcases endF_ge r (o + c + opn x.kind) (i + 1) with h' | h'
      · omega
      · omega
    · have e2 : endF c i (x :: r) = endF (c + opn x.kind) (i + 1) r := by rw [endF, if_neg h0]
      rw [e2]
      have e3 : o + c + opn x.kind = o + (c + opn x.kind) := by omega
      rw [e3] at h ⊢
      have := ih o (c + opn x.kind) (i + 1) ho (by omega) h
      omega
/-- Between a block's beginning and its end, at least one is open. -/
theorem endF_open (p : List PLine) (i d : Nat) : ∀ (o : Int), 1 ≤ o → 0 ≤ endF o i (p.drop i) → ((i + d : Nat) : Int) ≤ endF o i (p.drop i) → ∃ o', 1 ≤ o' ∧ endF o' (i + d) (p.drop (i + d)) = endF o i (p.drop i) := by
  induction d with
  | zero => intro o ho h _; exact ⟨o, ho, rfl⟩
  | succ d ih =>
    intro o ho h hd
    obtain ⟨o', ho', he⟩ := ih o ho h (by omega)
    have hlt : i + d < p.length := by
      rcases Nat.lt_or_ge (i + d) p.length with hl | hl
      · exact hl
      · rw [endF_out p o' _ hl] at he; omega
    rw [endF_at p o' _ hlt] at he
    have hc := opn_cases p[i + d].kind
    by_cases h0 : o' + opn p[i + d].kind = 0
    · rw [if_pos h0] at he; omega
    · rw [if_neg h0] at he
      exact ⟨_, by omega, he⟩
theorem beZ_not (p : List PLine) (k : Int) (h : ¬(0 ≤ k ∧ k.toNat < p.length ∧ isOp (lkZ p k) = true)) : beZ p k = -1 := by
  unfold beZ; rw [if_neg h]
theorem beZ_at (p : List PLine) (k : Nat) (hl : k < p.length) (hk : isOp p[k].kind = true) : beZ p (k : Int) = endF 1 (k + 1) (p.drop (k + 1)) := by
  unfold beZ
  rw [if_pos ⟨by omega, by simpa using hl, by rw [lkZ_at p k hl]; exact hk⟩, Int.toNat_natCast, endF_at p 0 k hl]
  have : opn p[k].kind = 1 := by unfold opn; rw [if_pos hk]
  rw [this, if_neg (by decide)]
  rfl
theorem beZ_is (p : List PLine) (k : Int) (h : 0 ≤ beZ p k) : ∃ j : Nat, k = (j : Int) ∧ ∃ hj : j < p.length, isOp p[j].kind = true ∧ (j : Int) < beZ p k ∧ beZ p k < (p.length : Int) := by
  by_cases hc : 0 ≤ k ∧ k.toNat < p.length ∧ isOp (lkZ p k) = true
  · obtain ⟨h0, h1, h2⟩ := hc
    obtain ⟨j, rfl⟩ := Int.eq_ofNat_of_zero_le h0
    have hj : j < p.length := by simpa using h1
    rw [lkZ_at p j hj] at h2
    refine ⟨j, rfl, hj, h2, ?_⟩
    rw [beZ_at p j hj h2] at h ⊢
    rcases endF_ge (p.drop (j + 1)) 1 (j + 1) with h' | h'
    · omega
    · rw [List.length_drop] at h'
      omega
  · rw [beZ_not p k hc] at h; exact absurd h (by decide)
theorem beZ_lt (p : List PLine) (k : Int) : -1 ≤ beZ p k ∧ beZ p k < (p.length : Int) := by
  by_cases h : 0 ≤ beZ p k
  · obtain ⟨j, _, _, _, h1, h2⟩ := beZ_is p k h
    omega
  · by_cases hc : 0 ≤ k ∧ k.toNat < p.length ∧ isOp (lkZ p k) = true
    · unfold beZ at h ⊢
      rw [if_pos hc] at h ⊢
      rcases endF_ge (p.drop k.toNat) 0 k.toNat with h' | h'
      · omega
      · omega
    · rw [beZ_not p k hc]; omega
/-- A block that begins within another ends within it. -/
theorem beZ_in (p : List PLine) (k : Int) (i : Nat) (h : 0 ≤ beZ p k) (hk : k < (i : Int)) (hi : (i : Int) < beZ p k) (hl : i < p.length) (ho : isOp p[i].kind = true) : (i : Int) < beZ p (i : Int) ∧ beZ p (i : Int) < beZ p k := by
  obtain ⟨j, rfl, hj, hop, _, _⟩ := beZ_is p k h
  rw [beZ_at p j hj hop] at h hi ⊢
  rw [beZ_at p i hl ho]
  obtain ⟨d, rfl⟩ : ∃ d, i = j + 1 + d := ⟨i - (j + 1), by omega⟩
  obtain ⟨o, ho1, he⟩ := endF_open p (j + 1) d 1 (by decide) h (by omega)
  rw [endF_at p o _ hl] at he
  have h1 : opn p[j + 1 + d].kind = 1 := by unfold opn; rw [if_pos ho]
  rw [h1, if_neg (by omega)] at he
  rw [← he] at h ⊢
  have := endF_in (p.drop (j + 1 + d + 1)) o 1 (j + 1 + d + 1) ho1 (by decide) h
  omega
/-- The else between i and e, on that level. -/
def elseF (p : List PLine) (e : Int) : Nat → Nat → Int
  | 0, _ => -1
  | f + 1, i => if e ≤ (i : Int) then -1 else if lkZ p i = 4 then (i : Int) else if lkZ p i = 3 ∨ lkZ p i = 5 then elseF p e f ((beZ p i).toNat + 1) else elseF p e f (i + 1)
def elseZ (p : List PLine) (k : Int) : Int := if 0 ≤ beZ p k ∧ lkZ p k = 3 then elseF p (beZ p k) p.length (k.toNat + 1) else -1
theorem elseF_out (p : List PLine) (e : Int) (f i : Nat) (h : e ≤ (i : Int)) : elseF p e f i = -1 := by
  cases f with
  | zero => rfl
  | succ f => rw [elseF, if_pos h]
/-- More steps than lines come to the same. -/
theorem elseF_more (p : List PLine) (k : Int) (hk0 : 0 ≤ beZ p k) : ∀ (f g i : Nat), k < (i : Int) → beZ p k ≤ (f : Int) + (i : Int) → beZ p k ≤ (g : Int) + (i : Int) → elseF p (beZ p k) f i = elseF p (beZ p k) g i := by
  intro f
  induction f with
  | zero =>
    intro g i _ h1 _
    rw [elseF_out _ _ _ _ (by omega), elseF_out _ _ _ _ (by omega)]
  | succ f ih =>
    intro g i hki h1 h2
    by_cases hi : beZ p k ≤ (i : Int)
    · rw [elseF_out _ _ _ _ hi, elseF_out _ _ _ _ hi]
    · cases g with
      | zero => omega
      | succ g =>
        have hl := (beZ_lt p k).2
        have hil : i < p.length := by omega
        rw [elseF, elseF, if_neg hi, if_neg hi]
        by_cases h4 : lkZ p i = 4
        · rw [if_pos h4, if_pos h4]
        · rw [if_neg h4, if_neg h4]
          by_cases h35 : lkZ p i = 3 ∨ lkZ p i = 5
          · rw [if_pos h35, if_pos h35]
            have hop : isOp p[i].kind = true := by
              rw [lkZ_at p i hil] at h35
              unfold isOp
              rcases h35 with h | h <;> rw [h] <;> rfl
            have := beZ_in p k i hk0 hki (by omega) hil hop
            exact ih g _ (by omega) (by omega) (by omega)
          · rw [if_neg h35, if_neg h35]
            exact ih g _ (by omega) (by omega) (by omega)
theorem elseF_lt (p : List PLine) (e : Int) : ∀ (f i : Nat), elseF p e f i = -1 ∨ elseF p e f i < e := by
  intro f
  induction f with
  | zero => intro i; exact .inl rfl
  | succ f ih =>
    intro i
    rw [elseF]
    split
    · exact .inl rfl
    · split
      · exact .inr (by omega)
      · split
        · exact ih _
        · exact ih _
theorem elseZ_lt (p : List PLine) (k : Int) (h : 0 ≤ elseZ p k) : elseZ p k < beZ p k := by
  unfold elseZ at h ⊢
  split at h
  · rename_i hc
    rw [if_pos hc]
    rcases elseF_lt p (beZ p k) p.length (k.toNat + 1) with h' | h'
    · rw [h'] at h; exact absurd h (by decide)
    · exact h'
  · exact absurd h (by decide)
/-- The indices of the functions. -/
def funF (i : Nat) : List PLine → List Nat
  | [] => []
  | x :: r => if x.kind = 0 then i :: funF (i + 1) r else funF (i + 1) r
def funs (p : List PLine) : List Nat := funF 0 p
/-- The first function of a name. -/
def findF (n : ByteArray) (i : Nat) : List PLine → Int
  | [] => -1
  | x :: r => if x.kind = 0 ∧ x.name = n then (i : Int) else findF n (i + 1) r
def findZ (p : List PLine) (n : ByteArray) : Int := findF n 0 p
/-- The variables: those that are set, behind those that there are. -/
def locF (v : List ByteArray) : List PLine → List ByteArray
  | [] => v
  | x :: r => if x.kind = 1 ∧ memB v x.name = false then locF (v ++ [x.name]) r else locF v r
def argsZ (p : List PLine) (k : Int) : List ByteArray := if k < 0 then [] else match p[k.toNat]? with
  | none => []
  | some x => x.args
def locZ (p : List PLine) (k : Int) : List ByteArray := if 0 ≤ beZ p k ∧ lkZ p k = 0 then locF (argsZ p k) ((p.drop k.toNat).take ((beZ p k).toNat - k.toNat)) else []
theorem funF_app (a : List PLine) : ∀ i b, funF i (a ++ b) = funF i a ++ funF (i + a.length) b := by
  induction a with
  | nil => intro i b; rfl
  | cons x r ih =>
    intro i b
    simp only [List.cons_append, funF, List.length_cons]
    rw [ih, show i + 1 + r.length = i + (r.length + 1) from by omega]
    split <;> rfl
theorem funs_snoc (p : List PLine) (k : Nat) (h : k < p.length) : funs (p.take (k + 1)) = if p[k].kind = 0 then funs (p.take k) ++ [k] else funs (p.take k) := by
  unfold funs
  rw [List.take_succ_eq_append_getElem h, funF_app, List.length_take, Nat.zero_add, show min k p.length = k from by omega]
  simp only [funF]
  split
  · rfl
  · rw [List.append_nil]
theorem findF_at (p : List PLine) (n : ByteArray) (i : Nat) (h : i < p.length) : findF n i (p.drop i) = if p[i].kind = 0 ∧ p[i].name = n then (i : Int) else findF n (i + 1) (p.drop (i + 1)) := by
  rw [List.drop_eq_getElem_cons h]
  rfl
theorem findF_out (p : List PLine) (n : ByteArray) (i : Nat) (h : p.length ≤ i) : findF n i (p.drop i) = -1 := by
  rw [List.drop_of_length_le h]
  rfl
theorem locF_app (a : List PLine) : ∀ v b, locF v (a ++ b) = locF (locF v a) b := by
  induction a with
  | nil => intro v b; rfl
  | cons x r ih =>
    intro v b
    simp only [List.cons_append, locF]
    split <;> rw [ih]
end Go.Proofs.YtcnnfhcpkbjolaaDoor

/-! Which programs make sense, in two forms: check by check over the whole program, and function by function; they are the same. Nothing of the program -/
namespace Go.Proofs.YtcnnfhcpkbjolaaDoor
open Go.RowKit Go.Lib

def mainT : ByteArray := ⟨#[109, 97, 105, 110]⟩
/-- A token names what there is. -/
def knownP (p : List PLine) (v : List ByteArray) (t : TokL) : Prop := (t.kind = 1 → t.name ∈ v) ∧ (t.kind = 7 → 0 ≤ findZ p t.name ∧ ((argsZ p (findZ p t.name)).length : Int) = t.num)
/-- The functions follow one another, from line n on. -/
def followF (p : List PLine) (n : Int) : List Nat → Prop
  | [] => n = (p.length : Int)
  | k :: r => (k : Int) = n ∧ 0 ≤ beZ p k ∧ followF p (beZ p k + 1) r
/-- At most five blocks are open. -/
def nestF (o : Int) : List PLine → Prop
  | [] => True
  | x :: r => o + opn x.kind ≤ 5 ∧ nestF (o + opn x.kind) r
/-- Each else from line i on belongs to an if. -/
def elsesF (p : List PLine) (i : Nat) : List PLine → Prop
  | [] => True
  | x :: r => (x.kind = 4 → ∃ j : Nat, j < i ∧ elseZ p j = (i : Int)) ∧ elsesF p (i + 1) r
/-- The lines from a up to e, without e. -/
def segZ (p : List PLine) (a e : Nat) : List PLine := (p.drop a).take (e - a)
def namesAt (p : List PLine) (k : Nat) : Prop := (locZ p k).length ≤ 8 ∧ ∀ x ∈ segZ p k (beZ p k).toNat, ∀ t ∈ x.expr, knownP p (locZ p k) t
/-- Check by check. -/
def OkI (p : List PLine) : Prop :=
  (p.length ≤ 60 ∧ ∀ x ∈ p, lineB x = true) ∧
  ((funs p).length ≤ 6 ∧ findZ p mainT = 0 ∧ argsZ p 0 = [] ∧ ∀ k ∈ funs p, ∀ h : k < p.length, findZ p p[k].name = (k : Int)) ∧
  followF p 0 (funs p) ∧ nestF 0 p ∧ elsesF p 0 p ∧ ∀ k ∈ funs p, namesAt p k
/-- The lines of a function's body from i on, d blocks being open within it. -/
def bodyL (p : List PLine) (k : Nat) (v : List ByteArray) (d : Int) (i : Nat) : List PLine → Prop
  | [] => True
  | x :: r => (x.kind ≠ 0 ∧ (x.kind = 4 → ∃ j : Nat, k ≤ j ∧ j < i ∧ elseZ p j = (i : Int)) ∧ d + opn x.kind ≤ 4 ∧ ∀ t ∈ x.expr, knownP p v t) ∧ bodyL p k v (d + opn x.kind) (i + 1) r
def bodyOk (p : List PLine) (k : Nat) : Prop := (locZ p k).length ≤ 8 ∧ bodyL p k (locZ p k) 0 (k + 1) (segZ p (k + 1) (beZ p k).toNat)
/-- Function by function. -/
def followS (p : List PLine) : Nat → Nat → Prop
  | 0, _ => True
  | f + 1, k => if p.length ≤ k then True else lkZ p k = 0 ∧ 0 ≤ beZ p k ∧ bodyOk p k ∧ followS p f ((beZ p k).toNat + 1)
def OkS (p : List PLine) : Prop :=
  (∃ h : 0 < p.length, p.length ≤ 60 ∧ p[0].kind = 0 ∧ p[0].name = mainT ∧ p[0].args = [] ∧ (funs p).length ≤ 6) ∧
  (∀ k, ∀ h : k < p.length, lineB p[k] = true ∧ (p[k].kind = 0 → findZ p p[k].name = (k : Int))) ∧ followS p p.length 0

theorem funF_ge (l : List PLine) : ∀ i, ∀ j ∈ funF i l, i ≤ j ∧ j < i + l.length := by
  induction l with
  | nil => intro i j h; simp [funF] at h
  | cons x r ih =>
    intro i j h
    unfold funF at h
    rw [List.length_cons]
    split at h
    · rcases List.mem_cons.1 h with rfl | h
      · omega
      · have := ih _ _ h; omega
    · have := ih _ _ h; omega
theorem funF_none (l : List PLine) : ∀ i, funF i l = [] ↔ ∀ x ∈ l, x.kind ≠ 0 := by
  induction l with
  | nil => intro i; simp [funF]
  | cons x r ih =>
    intro i
    unfold funF
    by_cases h : x.kind = 0
    · rw [if_pos h]; simp [h]
    · rw [if_neg h, ih]; simp [h]
theorem followF_no (p : List PLine) (n : Int) (l : List Nat) (h : ∀ j ∈ l, (j : Int) ≠ n) (hn : n ≠ (p.length : Int)) : ¬ followF p n l := by
  cases l with
  | nil => exact hn
  | cons k r => intro hf; exact h k (List.mem_cons_self ..) hf.1
theorem seg_next (p : List PLine) (i e : Nat) (h : i < e) (hl : i < p.length) : segZ p i e = p[i] :: segZ p (i + 1) e := by
  unfold segZ
  rw [List.drop_eq_getElem_cons hl, show e - i = (e - (i + 1)) + 1 from by omega, List.take_succ_cons]
theorem seg_end (p : List PLine) (e : Nat) : segZ p e e = [] := by unfold segZ; rw [Nat.sub_self, List.take_zero]
theorem seg_split (p : List PLine) (a e : Nat) (h : a ≤ e) (hl : e < p.length) : p.drop a = segZ p a e ++ p[e] :: p.drop (e + 1) := by
  have h1 := List.take_append_drop (e - a) (p.drop a)
  rw [List.drop_drop, show a + (e - a) = e from by omega, List.drop_eq_getElem_cons hl] at h1
  exact h1.symm
theorem seg_length (p : List PLine) (a e : Nat) (h : a ≤ e) (hl : e ≤ p.length) : (segZ p a e).length = e - a := by
  unfold segZ; rw [List.length_take, List.length_drop]; omega
/-- What a block's end is. -/
theorem end_parts (S : List PLine) (y : PLine) (R : List PLine) : ∀ (o : Int) (i : Nat), 1 ≤ o → endF o i (S ++ y :: R) = ((i + S.length : Nat) : Int) → y.kind = 7 ∧ (nestF o (S ++ y :: R) ↔ nestF o S ∧ nestF 0 R) := by
  induction S with
  | nil =>
    intro o i ho he
    rw [List.nil_append, endF] at he
    have hc := opn_cases y.kind
    by_cases h0 : o + opn y.kind = 0
    · refine ⟨by omega, ?_⟩
      simp only [List.nil_append, nestF, h0]
      simp
    · rw [if_neg h0] at he
      rcases endF_ge R (o + opn y.kind) (i + 1) with h | h
      · rw [he] at h; simp at h <;> omega
      · rw [he] at h; simp at h <;> omega
  | cons z S ih =>
    intro o i ho he
    rw [List.cons_append, endF] at he
    have hc := opn_cases z.kind
    by_cases h0 : o + opn z.kind = 0
    · rw [if_pos h0, List.length_cons] at he; omega
    · rw [if_neg h0, List.length_cons] at he
      obtain ⟨h7, hn⟩ := ih (o + opn z.kind) (i + 1) (by omega) (by rw [he]; omega)
      refine ⟨h7, ?_⟩
      rw [List.cons_append, nestF, nestF, hn]
      exact and_assoc.symm
theorem body_iff (p : List PLine) (k : Nat) (v : List ByteArray) (hk : ∀ j : Nat, j < k → beZ p j < (k : Int)) (S : List PLine) : ∀ (d : Int) (i : Nat), k ≤ i →
    (bodyL p k v d i S ↔ (∀ x ∈ S, x.kind ≠ 0) ∧ nestF (d + 1) S ∧ elsesF p i S ∧ ∀ x ∈ S, ∀ t ∈ x.expr, knownP p v t) := by
  induction S with
  | nil => intro d i _; simp [bodyL, nestF, elsesF]
  | cons z S ih =>
    intro d i hi
    have h1 : (∃ j : Nat, k ≤ j ∧ j < i ∧ elseZ p j = (i : Int)) ↔ ∃ j : Nat, j < i ∧ elseZ p j = (i : Int) := by
      constructor
      · rintro ⟨j, _, h⟩; exact ⟨j, h⟩
      · rintro ⟨j, hj, he⟩
        refine ⟨j, ?_, hj, he⟩
        rcases Nat.lt_or_ge j k with hjk | hjk
        · have h2 := hk j hjk
          have h3 := elseZ_lt p j (by omega)
          omega
        · exact hjk
    rw [bodyL, ih (d + opn z.kind) (i + 1) (by omega), nestF, elsesF, h1, show d + opn z.kind + 1 = d + 1 + opn z.kind from by omega]
    constructor
    · rintro ⟨⟨a, b, c, e⟩, f, g, h, q⟩
      refine ⟨?_, ⟨by omega, g⟩, ⟨b, h⟩, ?_⟩
      · intro x hx
        rcases List.mem_cons.1 hx with rfl | hx
        · exact a
        · exact f x hx
      · intro x hx
        rcases List.mem_cons.1 hx with rfl | hx
        · exact e
        · exact q x hx
    · rintro ⟨f, ⟨c, g⟩, ⟨b, h⟩, q⟩
      exact ⟨⟨f z (List.mem_cons_self ..), b, by omega, q z (List.mem_cons_self ..)⟩, fun x hx => f x (List.mem_cons_of_mem _ hx), g, h, fun x hx => q x (List.mem_cons_of_mem _ hx)⟩
theorem elsesF_app (p : List PLine) (a : List PLine) : ∀ i b, elsesF p i (a ++ b) ↔ elsesF p i a ∧ elsesF p (i + a.length) b := by
  induction a with
  | nil => intro i b; simp [elsesF]
  | cons x r ih =>
    intro i b
    rw [List.cons_append, elsesF, elsesF, ih, List.length_cons, show i + 1 + r.length = i + (r.length + 1) from by omega]
    exact and_assoc.symm
theorem fun_expr (x : PLine) (h : lineB x = true) (h0 : x.kind = 0) : x.expr = [] := by
  have := ((lineB_iff x).1 h).2.2.2
  rw [h0] at this
  have hk : exprK 0 = false := by decide
  rw [hk] at this
  simpa [efB] using this
theorem seg_iff (p : List PLine) (hv : ∀ x ∈ p, lineB x = true) : ∀ (f k : Nat), p.length ≤ k + f → k ≤ p.length → (∀ j : Nat, j < k → beZ p j < (k : Int)) →
    (followS p f k ↔ followF p k (funF k (p.drop k)) ∧ nestF 0 (p.drop k) ∧ elsesF p k (p.drop k) ∧ ∀ j ∈ funF k (p.drop k), namesAt p j) := by
  intro f
  induction f with
  | zero =>
    intro k h1 h2 _
    have : k = p.length := by omega
    subst this
    rw [List.drop_length]
    simp [followS, funF, followF, nestF, elsesF]
  | succ f ih =>
    intro k h1 h2 hend
    by_cases hk : p.length ≤ k
    · have : k = p.length := by omega
      subst this
      rw [List.drop_length]
      simp [followS, funF, followF, nestF, elsesF]
    · have hl : k < p.length := by omega
      rw [followS, if_neg hk, lkZ_at p k hl]
      by_cases h0 : p[k].kind = 0
      · have hop : isOp p[k].kind = true := by rw [h0]; rfl
        have hfun : funF k (p.drop k) = k :: funF (k + 1) (p.drop (k + 1)) := by
          rw [List.drop_eq_getElem_cons hl, funF, if_pos h0]
        rw [hfun, followF]
        by_cases he : 0 ≤ beZ p k
        · obtain ⟨j, hj, hjl, _, hlt, hle⟩ := beZ_is p k he
          have hjk : j = k := by omega
          subst hjk
          obtain ⟨E, hE⟩ := Int.eq_ofNat_of_zero_le he
          have hkE : j < E := by omega
          have hEl : E < p.length := by omega
          have hsplit := seg_split p (j + 1) E (by omega) hEl
          have hend1 := beZ_at p j hl hop
          have hslen := seg_length p (j + 1) E (by omega) (by omega)
          obtain ⟨S, hS⟩ : ∃ S, segZ p (j + 1) E = S := ⟨_, rfl⟩
          rw [hS] at hsplit hslen
          have hpar := end_parts S p[E] (p.drop (E + 1)) 1 (j + 1) (by decide) (by rw [← hsplit, ← hend1, hE]; omega)
          have hfS : funF (j + 1) (p.drop (j + 1)) = funF (j + 1) S ++ funF (E + 1) (p.drop (E + 1)) := by
            rw [hsplit, funF_app]
            congr 1
            rw [funF, if_neg (by rw [hpar.1]; decide), hslen, show j + 1 + (E - (j + 1)) + 1 = E + 1 from by omega]
          have hx : (p.drop j) = p[j] :: (S ++ p[E] :: p.drop (E + 1)) := by rw [List.drop_eq_getElem_cons hl, hsplit]
          have hnest : nestF 0 (p.drop j) ↔ nestF 1 S ∧ nestF 0 (p.drop (E + 1)) := by
            have h1 : opn p[j].kind = 1 := by unfold opn; rw [if_pos hop]
            rw [hx, nestF, h1, ← hpar.2]
            simp
          have hels : elsesF p j (p.drop j) ↔ elsesF p (j + 1) S ∧ elsesF p (E + 1) (p.drop (E + 1)) := by
            rw [hx, elsesF, elsesF_app, elsesF, hslen, show j + 1 + (E - (j + 1)) + 1 = E + 1 from by omega]
            constructor
            · rintro ⟨_, a, _, b⟩; exact ⟨a, b⟩
            · rintro ⟨a, b⟩; exact ⟨fun h => by rw [h0] at h; exact absurd h (by decide), a, fun h => by rw [hpar.1] at h; exact absurd h (by decide), b⟩
          have hnm : namesAt p j ↔ (locZ p j).length ≤ 8 ∧ ∀ x ∈ S, ∀ t ∈ x.expr, knownP p (locZ p j) t := by
            unfold namesAt
            rw [hE, Int.toNat_natCast, seg_next p j E hkE hl, hS]
            constructor
            · rintro ⟨a, b⟩; exact ⟨a, fun x hx => b x (List.mem_cons_of_mem _ hx)⟩
            · rintro ⟨a, b⟩
              refine ⟨a, fun x hx t ht => ?_⟩
              rcases List.mem_cons.1 hx with rfl | hx
              · rw [fun_expr _ (hv _ (List.getElem_mem hl)) h0] at ht; cases ht
              · exact b x hx t ht
          have hbody : bodyOk p j ↔ (locZ p j).length ≤ 8 ∧ (∀ x ∈ S, x.kind ≠ 0) ∧ nestF 1 S ∧ elsesF p (j + 1) S ∧ ∀ x ∈ S, ∀ t ∈ x.expr, knownP p (locZ p j) t := by
            unfold bodyOk
            rw [hE, Int.toNat_natCast, hS, body_iff p j _ hend S 0 (j + 1) (by omega)]
            rfl
          have hIH := ih (E + 1) (by omega) (by omega) (fun i hi => by
            rcases Nat.lt_or_ge i j with h | h
            · have := hend i h; omega
            · by_cases hij : i = j
              · subst hij; omega
              · by_cases hiE : i = E
                · subst hiE
                  rw [beZ_not p i (fun h => by
                    have h3 := h.2.2
                    rw [lkZ_at p i hEl, hpar.1] at h3
                    exact absurd h3 (by decide))]
                  omega
                · by_cases hop' : isOp p[i].kind = true
                  · have := beZ_in p j i he (by omega) (by omega) (by omega) hop'; omega
                  · rw [beZ_not p i (fun h => hop' (by have h3 := h.2.2; rwa [lkZ_at p i (by omega)] at h3))]
                    omega)
          rw [hfS, hnest, hels, hbody, hE, Int.toNat_natCast, hIH]
          by_cases hnone : ∀ x ∈ S, x.kind ≠ 0
          · rw [(funF_none S (j + 1)).2 hnone, List.nil_append]
            constructor
            · rintro ⟨_, _, ⟨a, b, c, d, g⟩, m, n, q, r⟩
              refine ⟨⟨rfl, by omega, m⟩, ⟨c, n⟩, ⟨d, q⟩, fun i hi => ?_⟩
              rcases List.mem_cons.1 hi with rfl | hi
              · exact hnm.2 ⟨a, g⟩
              · exact r i hi
            · rintro ⟨⟨_, _, m⟩, ⟨c, n⟩, ⟨d, q⟩, r⟩
              have := hnm.1 (r j (List.mem_cons_self ..))
              exact ⟨h0, by omega, ⟨this.1, hnone, c, d, this.2⟩, m, n, q, fun i hi => r i (List.mem_cons_of_mem _ hi)⟩
          · constructor
            · rintro ⟨_, _, ⟨_, b, _⟩, _⟩; exact absurd b hnone
            · rintro ⟨⟨_, _, m⟩, _⟩
              exfalso
              cases hq : funF (j + 1) S with
              | nil => exact hnone ((funF_none S (j + 1)).1 hq)
              | cons i r =>
                rw [hq, List.cons_append, followF] at m
                have := funF_ge S (j + 1) i (by rw [hq]; exact List.mem_cons_self ..)
                have := m.1
                omega
        · constructor
          · rintro ⟨_, h, _⟩; exact absurd h he
          · rintro ⟨⟨_, h, _⟩, _⟩; exact absurd h he
      · constructor
        · rintro ⟨h, _⟩; exact absurd h h0
        · rintro ⟨h, _⟩
          refine absurd h (followF_no p k _ (fun j hj => ?_) (by omega))
          rw [List.drop_eq_getElem_cons hl, funF, if_neg h0] at hj
          have := (funF_ge _ _ j hj).1
          omega
theorem funs_mem (l : List PLine) : ∀ i k, k ∈ funF i l ↔ ∃ h : k - i < l.length, i ≤ k ∧ l[k - i].kind = 0 := by
  induction l with
  | nil => intro i k; simp [funF]
  | cons x r ih =>
    intro i k
    have hr : (∃ h : k - (i + 1) < r.length, i + 1 ≤ k ∧ r[k - (i + 1)].kind = 0) ↔ ∃ h : k - i < (x :: r).length, i < k ∧ (x :: r)[k - i].kind = 0 := by
      constructor
      · rintro ⟨h, a, b⟩
        refine ⟨by rw [List.length_cons]; omega, by omega, ?_⟩
        have : k - i = (k - (i + 1)) + 1 := by omega
        simp only [this, List.getElem_cons_succ]
        exact b
      · rintro ⟨h, a, b⟩
        rw [List.length_cons] at h
        have : k - i = (k - (i + 1)) + 1 := by omega
        simp only [this, List.getElem_cons_succ] at b
        exact ⟨by omega, by omega, b⟩
    unfold funF
    by_cases h0 : x.kind = 0
    · rw [if_pos h0, List.mem_cons, ih, hr]
      constructor
      · rintro (rfl | ⟨h, a, b⟩)
        · exact ⟨by rw [Nat.sub_self, List.length_cons]; omega, Nat.le_refl _, by simp only [Nat.sub_self, List.getElem_cons_zero]; exact h0⟩
        · exact ⟨h, by omega, b⟩
      · rintro ⟨h, a, b⟩
        by_cases hk : k = i
        · exact .inl hk
        · exact .inr ⟨h, by omega, b⟩
    · rw [if_neg h0, ih, hr]
      constructor
      · rintro ⟨h, a, b⟩; exact ⟨h, by omega, b⟩
      · rintro ⟨h, a, b⟩
        refine ⟨h, ?_, b⟩
        rcases Nat.lt_or_ge i k with h' | h'
        · exact h'
        · have : k = i := by omega
          subst this
          simp only [Nat.sub_self, List.getElem_cons_zero] at b
          exact absurd b h0
theorem find_zero (p : List PLine) (n : ByteArray) : findZ p n = 0 ↔ ∃ h : 0 < p.length, p[0].kind = 0 ∧ p[0].name = n := by
  cases p with
  | nil => simp [findZ, findF]
  | cons x r =>
    have hg : ∀ (l : List PLine) (i : Nat), findF n i l = -1 ∨ (i : Int) ≤ findF n i l := by
      intro l
      induction l with
      | nil => intro i; exact .inl rfl
      | cons y l ih =>
        intro i
        unfold findF
        split
        · exact .inr (Int.le_refl _)
        · rcases ih (i + 1) with h | h
          · exact .inl h
          · exact .inr (by omega)
    unfold findZ findF
    by_cases h : x.kind = 0 ∧ x.name = n
    · rw [if_pos h]; simp [h]
    · rw [if_neg h]
      have := hg r 1
      constructor
      · intro e; rw [Nat.zero_add] at e; omega
      · rintro ⟨_, h'⟩; exact absurd h' h
theorem ok_iff (p : List PLine) : OkI p ↔ OkS p := by
  have hfun : ∀ k, k ∈ funs p ↔ ∃ h : k < p.length, p[k].kind = 0 := by
    intro k
    unfold funs
    rw [funs_mem p 0 k]
    constructor
    · rintro ⟨h, _, b⟩; exact ⟨h, b⟩
    · rintro ⟨h, b⟩; exact ⟨h, Nat.zero_le _, b⟩
  have hseg : (∀ x ∈ p, lineB x = true) → (followS p p.length 0 ↔ followF p 0 (funs p) ∧ nestF 0 p ∧ elsesF p 0 p ∧ ∀ k ∈ funs p, namesAt p k) := fun hv => by
    have := seg_iff p hv p.length 0 (by omega) (by omega) (fun j hj => by omega)
    rw [List.drop_zero] at this
    exact this
  constructor
  · rintro ⟨⟨h1, h2⟩, ⟨h3, h4, h5, h6⟩, h7⟩
    obtain ⟨hl, hk, hn⟩ := (find_zero p mainT).1 h4
    refine ⟨⟨hl, h1, hk, hn, ?_, h3⟩, fun k h => ⟨h2 _ (List.getElem_mem h), fun h0 => h6 k ((hfun k).2 ⟨h, h0⟩) h⟩, (hseg h2).2 h7⟩
    unfold argsZ at h5
    rw [if_neg (by decide)] at h5
    have : (0 : Int).toNat = 0 := rfl
    rw [this, List.getElem?_eq_getElem hl] at h5
    exact h5
  · rintro ⟨⟨hl, h1, hk, hn, ha, h3⟩, hall, hf⟩
    have hv : ∀ x ∈ p, lineB x = true := fun x hx => by
      obtain ⟨k, h, rfl⟩ := List.mem_iff_getElem.1 hx
      exact (hall k h).1
    refine ⟨⟨h1, hv⟩, ⟨h3, (find_zero p mainT).2 ⟨hl, hk, hn⟩, ?_, fun k hk h => (hall k h).2 ?_⟩, (hseg hv).1 hf⟩
    · unfold argsZ
      rw [if_neg (by decide)]
      have : (0 : Int).toNat = 0 := rfl
      rw [this, List.getElem?_eq_getElem hl]
      exact ha
    · obtain ⟨_, h0⟩ := (hfun k).1 hk
      exact h0
end Go.Proofs.YtcnnfhcpkbjolaaDoor

/-! Blocks: where their elses and ends are; and functions that follow one another. Nothing of the program -/
namespace Go.Proofs.YtcnnfhcpkbjolaaDoor
open Go.RowKit Go.Lib

theorem elseF_ge (p : List PLine) (k : Int) (hk0 : 0 ≤ beZ p k) : ∀ (f i : Nat), k < (i : Int) → elseF p (beZ p k) f i = -1 ∨ (i : Int) ≤ elseF p (beZ p k) f i := by
  intro f
  induction f with
  | zero => intro i _; exact .inl rfl
  | succ f ih =>
    intro i hki
    rw [elseF]
    by_cases hi : beZ p k ≤ (i : Int)
    · rw [if_pos hi]; exact .inl rfl
    · rw [if_neg hi]
      have hl := (beZ_lt p k).2
      have hil : i < p.length := by omega
      by_cases h4 : lkZ p i = 4
      · rw [if_pos h4]; exact .inr (Int.le_refl _)
      · rw [if_neg h4]
        by_cases h35 : lkZ p i = 3 ∨ lkZ p i = 5
        · rw [if_pos h35]
          have hop : isOp p[i].kind = true := by
            rw [lkZ_at p i hil] at h35
            unfold isOp
            rcases h35 with h | h <;> rw [h] <;> rfl
          have := beZ_in p k i hk0 hki (by omega) hil hop
          rcases ih ((beZ p (i : Int)).toNat + 1) (by omega) with h | h
          · exact .inl h
          · exact .inr (by omega)
        · rw [if_neg h35]
          rcases ih (i + 1) (by omega) with h | h
          · exact .inl h
          · exact .inr (by omega)
theorem elseZ_gt (p : List PLine) (k : Int) (h : 0 ≤ elseZ p k) : k < elseZ p k ∧ elseZ p k < beZ p k := by
  refine ⟨?_, elseZ_lt p k h⟩
  unfold elseZ at h ⊢
  by_cases hc : 0 ≤ beZ p k ∧ lkZ p k = 3
  · rw [if_pos hc] at h ⊢
    obtain ⟨j, hj, _⟩ := beZ_is p k hc.1
    rcases elseF_ge p k hc.1 p.length (k.toNat + 1) (by omega) with h' | h'
    · rw [h'] at h; exact absurd h (by decide)
    · omega
  · rw [if_neg hc] at h; exact absurd h (by decide)
theorem beZ_gt (p : List PLine) (k : Int) (h : 0 ≤ beZ p k) : k < beZ p k := by
  obtain ⟨j, hj, _, _, h1, _⟩ := beZ_is p k h
  omega
/-- Blocks lie within each other or apart. -/
theorem beZ_apart (p : List PLine) (a b : Nat) (h : 0 ≤ beZ p (a : Int)) (hab : a < b) (hbx : (b : Int) < beZ p (a : Int)) (hy : 0 ≤ beZ p (b : Int)) : beZ p (b : Int) < beZ p (a : Int) := by
  obtain ⟨j, hj, hjl, hop, _, _⟩ := beZ_is p (b : Int) hy
  have : j = b := by omega
  subst this
  exact (beZ_in p (a : Int) j h (by omega) hbx hjl hop).2
theorem follow_next (p : List PLine) (l : List Nat) : ∀ n, followF p n l → ∀ i, ∀ h : i + 1 < l.length, ((l[i + 1] : Nat) : Int) = beZ p ((l[i] : Nat) : Int) + 1 := by
  induction l with
  | nil => intro n _ i h; simp at h
  | cons x r ih =>
    intro n hf i h
    cases i with
    | succ i => exact ih _ hf.2.2 i (by simpa using h)
    | zero =>
      cases r with
      | nil => simp at h
      | cons y r => exact hf.2.2.1
theorem funs_pos (p : List PLine) (h : findZ p mainT = 0) : 0 < (funs p).length := by
  obtain ⟨hl, hk, _⟩ := (find_zero p mainT).1 h
  have : 0 ∈ funs p := by
    unfold funs
    rw [funs_mem p 0 0]
    exact ⟨hl, Nat.le_refl _, hk⟩
  exact List.length_pos_of_mem this
end Go.Proofs.YtcnnfhcpkbjolaaDoor

/-! Runs of programs, plain: what a program does from a job on, with a bound on the steps; what it comes to does not hang on the bound. Nothing of the program -/
namespace Go.Proofs.YtcnnfhcpkbjolaaDoor
open Go.RowKit Go.Lib

/-- What a run has put out, and what it has visited. -/
structure RunS where
  out : List Int
  vis : List (List Int)
/-- What is to be done: an expression from a token on; so many operands; a function's lines from one on. -/
inductive Job where
  | eval (c : List Int) (k : Nat) (L : List ByteArray) (vs : List Int) (i : Nat)
  | args (c : List Int) (k : Nat) (L : List ByteArray) (vs : List Int) (i n : Nat)
  | lines (c : List Int) (f : Nat) (L : List ByteArray) (vs : List Int) (k : Nat)
/-- What it comes to: a value and the token behind it; values; a function's value; the run's end. -/
inductive RunRes where
  | val (v : Int) (i : Nat)
  | vals (vs : List Int) (i : Nat)
  | ret (v : Int)
  | stop (c : Int)
abbrev RunO := Option (RunRes × RunS)
def onVal (x : RunO) (f : Int → Nat → RunS → RunO) : RunO := x.bind fun y => match y.1 with
  | .val v i => f v i y.2
  | r => some (r, y.2)
def onVals (x : RunO) (f : List Int → Nat → RunS → RunO) : RunO := x.bind fun y => match y.1 with
  | .vals vs i => f vs i y.2
  | r => some (r, y.2)
def onRet (x : RunO) (f : Int → RunS → RunO) : RunO := x.bind fun y => match y.1 with
  | .ret v => f v y.2
  | r => some (r, y.2)
/-- Token i of line k. -/
def tokAt (p : List PLine) (k i : Nat) : TokL := match p[k]? with
  | none => ⟨0, 0, ⟨#[]⟩⟩
  | some x => (x.expr[i]?).getD ⟨0, 0, ⟨#[]⟩⟩
def nameAt (p : List PLine) (k : Nat) : ByteArray := match p[k]? with
  | none => ⟨#[]⟩
  | some x => x.name
/-- The place of a variable. -/
def varIx (L : List ByteArray) (n : ByteArray) : Nat := L.findIdx (fun y => decide (y = n))
/-- The line whose else line k is; the line whose end line k is. -/
def elseOpen (p : List PLine) (k : Nat) : Nat := (List.range k).findIdx fun (i : Nat) => decide (elseZ p (i : Int) = (k : Int))
def endOpen (p : List PLine) (k : Nat) : Nat := (List.range k).findIdx fun (i : Nat) => decide (beZ p (i : Int) = (k : Int))
/-- The variables of a call. -/
def callVars (p : List PLine) (f : Nat) (ws : List Int) : List Int := ws ++ List.replicate ((locZ p (f : Int)).length - ws.length) 0
/-- A run, of at most so many steps deep; ap: the operators. -/
def runF (p : List PLine) (ap : Int → Int → Int → Int) (ar : TokL → Nat) (lim : Nat) : Nat → Job → RunS → RunO
  | 0, _, _ => none
  | n + 1, .args c k L vs i 0, s => some (.vals [] i, s)
  | n + 1, .args c k L vs i (m + 1), s =>
    onVal (runF p ap ar lim n (.eval c k L vs i) s) fun v i1 s1 => onVals (runF p ap ar lim n (.args c k L vs i1 m) s1) fun ws i2 s2 => some (.vals (v :: ws) i2, s2)
  | n + 1, .eval c k L vs i, s =>
    let t := tokAt p k i
    onVals (runF p ap ar lim n (.args c k L vs (i + 1) (ar t)) s) fun ws i1 s1 =>
      if t.kind = 0 then some (.val t.num i1, s1)
      else if t.kind = 1 then some (.val ((vs[varIx L t.name]?).getD 0) i1, s1)
      else if t.kind = 7 then
        if c.length = 6 then some (.stop 2, s1)
        else onRet (runF p ap ar lim n (.lines (c ++ [(k : Int)]) (findZ p t.name).toNat (locZ p (findZ p t.name)) (callVars p (findZ p t.name).toNat ws) ((findZ p t.name).toNat + 1)) s1) fun v s2 => some (.val v i1, s2)
      else some (.val (ap t.kind ((ws[0]?).getD 0) ((ws[1]?).getD 0)) i1, s1)
  | n + 1, .lines c f L vs k, s =>
    if beZ p (f : Int) ≤ (k : Int) then some (.ret 0, s)
    else if lkZ p (k : Int) = 4 then runF p ap ar lim n (.lines c f L vs ((beZ p (elseOpen p k : Int)).toNat + 1)) s
    else if lkZ p (k : Int) = 7 then
      if lkZ p (endOpen p k : Int) = 5 then runF p ap ar lim n (.lines c f L vs (endOpen p k)) s else runF p ap ar lim n (.lines c f L vs (k + 1)) s
    else if s.vis.length = lim then some (.stop 1, s)
    else onVal (runF p ap ar lim n (.eval c k L vs 0) ⟨s.out, s.vis ++ [c ++ [(k : Int)]]⟩) fun v _ s1 =>
      if lkZ p (k : Int) = 1 then runF p ap ar lim n (.lines c f L (vs.set (varIx L (nameAt p k)) v) (k + 1)) s1
      else if lkZ p (k : Int) = 2 then runF p ap ar lim n (.lines c f L vs (k + 1)) ⟨s1.out ++ [v], s1.vis⟩
      else if lkZ p (k : Int) = 6 then some (.ret v, s1)
      else if v ≠ 0 then runF p ap ar lim n (.lines c f L vs (k + 1)) s1
      else if lkZ p (k : Int) = 3 ∧ 0 ≤ elseZ p (k : Int) then runF p ap ar lim n (.lines c f L vs ((elseZ p (k : Int)).toNat + 1)) s1
      else runF p ap ar lim n (.lines c f L vs ((beZ p (k : Int)).toNat + 1)) s1
theorem onVal_mono {x x' : RunO} {f f' : Int → Nat → RunS → RunO} {z : RunRes × RunS} (hx : ∀ y, x = some y → x' = some y) (hf : ∀ v i s z, f v i s = some z → f' v i s = some z) (h : onVal x f = some z) : onVal x' f' = some z := by
  unfold onVal at h ⊢
  cases hxx : x with
  | none => rw [hxx] at h; cases h
  | some y =>
    rw [hxx] at h
    rw [hx y hxx]
    simp only [Option.bind_some] at h ⊢
    cases hy : y.1 <;> rw [hy] at h <;> first | exact hf _ _ _ _ h | exact h
theorem onVals_mono {x x' : RunO} {f f' : List Int → Nat → RunS → RunO} {z : RunRes × RunS} (hx : ∀ y, x = some y → x' = some y) (hf : ∀ v i s z, f v i s = some z → f' v i s = some z) (h : onVals x f = some z) : onVals x' f' = some z := by
  unfold onVals at h ⊢
  cases hxx : x with
  | none => rw [hxx] at h; cases h
  | some y =>
    rw [hxx] at h
    rw [hx y hxx]
    simp only [Option.bind_some] at h ⊢
    cases hy : y.1 <;> rw [hy] at h <;> first | exact hf _ _ _ _ h | exact h
theorem onRet_mono {x x' : RunO} {f f' : Int → RunS → RunO} {z : RunRes × RunS} (hx : ∀ y, x = some y → x' = some y) (hf : ∀ v s z, f v s = some z → f' v s = some z) (h : onRet x f = some z) : onRet x' f' = some z := by
  unfold onRet at h ⊢
  cases hxx : x with
  | none => rw [hxx] at h; cases h
  | some y =>
    rw [hxx] at h
    rw [hx y hxx]
    simp only [Option.bind_some] at h ⊢
    cases hy : y.1 <;> rw [hy] at h <;> first | exact hf _ _ _ h | exact h
theorem ite_mono {c : Prop} [Decidable c] {a b a' b' : RunO} {z : RunRes × RunS} (ha : a = some z → a' = some z) (hb : b = some z → b' = some z) (h : (if c then a else b) = some z) : (if c then a' else b') = some z := by
  by_cases hc : c
  · rw [if_pos hc] at h ⊢; exact ha h
  · rw [if_neg hc] at h ⊢; exact hb h
/-- More steps come to the same. -/
theorem runF_succ (p : List PLine) (ap : Int → Int → Int → Int) (ar : TokL → Nat) (lim : Nat) : ∀ (n : Nat) (j : Job) (s : RunS) (z : RunRes × RunS), runF p ap ar lim n j s = some z → runF p ap ar lim (n + 1) j s = some z := by
  intro n
  induction n with
  | zero => intro j s z h; cases j <;> simp [runF] at h
  | succ n ih =>
    intro j s z h
    cases j with
    | args c k L vs i m =>
      cases m with
      | zero => simpa [runF] using h
      | succ m =>
        rw [runF] at h ⊢
        exact onVal_mono (fun y => ih _ _ y) (fun v i s z => onVals_mono (fun y => ih _ _ y) (fun _ _ _ _ h => h)) h
    | eval c k L vs i =>
      rw [runF] at h ⊢
      refine onVals_mono (fun y => ih _ _ y) (fun ws i1 s1 z => ?_) h
      exact ite_mono id (ite_mono id (ite_mono (ite_mono id (onRet_mono (fun y => ih _ _ y) (fun _ _ _ h => h))) id))
    | lines c f L vs k =>
      rw [runF] at h ⊢
      refine ite_mono id (ite_mono (ih _ _ _) (ite_mono (ite_mono (ih _ _ _) (ih _ _ _)) (ite_mono id (onVal_mono (fun y => ih _ _ y) (fun v _ s1 z => ?_))))) h
      exact ite_mono (ih _ _ _) (ite_mono (ih _ _ _) (ite_mono id (ite_mono (ih _ _ _) (ite_mono (ih _ _ _) (ih _ _ _)))))
theorem runF_le (p : List PLine) (ap : Int → Int → Int → Int) (ar : TokL → Nat) (lim n m : Nat) (h : n ≤ m) (j : Job) (s : RunS) (z : RunRes × RunS) (hz : runF p ap ar lim n j s = some z) : runF p ap ar lim m j s = some z := by
  induction h with
  | refl => exact hz
  | step _ ih => exact runF_succ p ap ar lim _ j s z ih
/-- A job comes to this. -/
def RunTo (p : List PLine) (ap : Int → Int → Int → Int) (ar : TokL → Nat) (lim : Nat) (j : Job) (s : RunS) (r : RunRes) (s' : RunS) : Prop := ∃ n, runF p ap ar lim n j s = some (r, s')
/-- And to nothing else. -/
theorem RunTo.one {p : List PLine} {ap : Int → Int → Int → Int} {ar : TokL → Nat} {lim : Nat} {j : Job} {s s1 s2 : RunS} {r1 r2 : RunRes} (h1 : RunTo p ap ar lim j s r1 s1) (h2 : RunTo p ap ar lim j s r2 s2) : r1 = r2 ∧ s1 = s2 := by
  obtain ⟨n, hn⟩ := h1
  obtain ⟨m, hm⟩ := h2
  have e1 := runF_le p ap ar lim n (n + m) (by omega) j s _ hn
  have e2 := runF_le p ap ar lim m (n + m) (by omega) j s _ hm
  rw [e1] at e2
  injection e2 with e2
  injection e2 with e3 e4
  exact ⟨e3, e4⟩
end Go.Proofs.YtcnnfhcpkbjolaaDoor

/-! Runs of programs, plain: what is put out and visited only grows, up to the limit; a run with a smaller limit is the beginning of one with a greater limit. Nothing of the program -/
namespace Go.Proofs.YtcnnfhcpkbjolaaDoor
open Go.RowKit Go.Lib

/-- From s on, things have been added; not more visits than lim, and exactly lim where the run was ended for them. -/
def Grown1 (lim : Nat) (s : RunS) (x : RunO) : Prop := ∀ z, x = some z → s.vis <+: z.2.vis ∧ s.out <+: z.2.out ∧ (s.vis.length ≤ lim → z.2.vis.length ≤ lim) ∧ (z.1 = .stop 1 → z.2.vis.length = lim)
theorem Grown1.none {lim : Nat} {s : RunS} : Grown1 lim s none := fun z h => by cases h
theorem Grown1.same {lim : Nat} {s : RunS} {r : RunRes} (h : r = .stop 1 → s.vis.length = lim) : Grown1 lim s (some (r, s)) := fun z hz => by
  injection hz with hz
  subst hz
  exact ⟨List.prefix_refl _, List.prefix_refl _, id, h⟩
theorem Grown1.trans {lim : Nat} {s s' : RunS} {x : RunO} (h1 : s.vis <+: s'.vis) (h2 : s.out <+: s'.out) (h3 : s.vis.length ≤ lim → s'.vis.length ≤ lim) (h : Grown1 lim s' x) : Grown1 lim s x := fun z hz => by
  obtain ⟨a, b, c, d⟩ := h z hz
  exact ⟨h1.trans a, h2.trans b, fun h => c (h3 h), d⟩
theorem grown_onVal {lim : Nat} {s : RunS} {x : RunO} {f : Int → Nat → RunS → RunO} (hx : Grown1 lim s x) (hf : ∀ v i s', Grown1 lim s' (f v i s')) : Grown1 lim s (onVal x f) := fun z hz => by
  unfold onVal at hz
  cases hxx : x with
  | none => rw [hxx] at hz; cases hz
  | some y =>
    obtain ⟨a, b, c, d⟩ := hx y hxx
    rw [hxx] at hz
    simp only [Option.bind_some] at hz
    obtain ⟨r, s1⟩ := y
    cases r <;> simp only at hz
    case val v i => exact Grown1.trans a b c (hf v i s1) z hz
    all_goals
      injection hz with hz
      subst hz
      exact ⟨a, b, c, d⟩
theorem grown_onVals {lim : Nat} {s : RunS} {x : RunO} {f : List Int → Nat → RunS → RunO} (hx : Grown1 lim s x) (hf : ∀ v i s', Grown1 lim s' (f v i s')) : Grown1 lim s (onVals x f) := fun z hz => by
  unfold onVals at hz
  cases hxx : x with
  | none => rw [hxx] at hz; cases hz
  | some y =>
    obtain ⟨a, b, c, d⟩ := hx y hxx
    rw [hxx] at hz
    simp only [Option.bind_some] at hz
    obtain ⟨r, s1⟩ := y
    cases r <;> simp only at hz
    case vals v i => exact Grown1.trans a b c (hf v i s1) z hz
    all_goals
      injection hz with hz
      subst hz
      exact ⟨a, b, c, d⟩
theorem grown_onRet {lim : Nat} {s : RunS} {x : RunO} {f : Int → RunS → RunO} (hx : Grown1 lim s x) (hf : ∀ v s', Grown1 lim s' (f v s')) : Grown1 lim s (onRet x f) := fun z hz => by
  unfold onRet at hz
  cases hxx : x with
  | none => rw [hxx] at hz; cases hz
  | some y =>
    obtain ⟨a, b, c, d⟩ := hx y hxx
    rw [hxx] at hz
    simp only [Option.bind_some] at hz
    obtain ⟨r, s1⟩ := y
    cases r <;> simp only at hz
    case ret v => exact Grown1.trans a b c (hf v s1) z hz
    all_goals
      injection hz with hz
      subst hz
      exact ⟨a, b, c, d⟩
theorem grown_ite {lim : Nat} {s : RunS} {c : Prop} [Decidable c] {a b : RunO} (ha : c → Grown1 lim s a) (hb : ¬ c → Grown1 lim s b) : Grown1 lim s (if c then a else b) := by
  by_cases hc : c
  · rw [if_pos hc]; exact ha hc
  · rw [if_neg hc]; exact hb hc
theorem runF_grown (p : List PLine) (ap : Int → Int → Int → Int) (ar : TokL → Nat) (lim : Nat) : ∀ (n : Nat) (j : Job) (s : RunS), Grown1 lim s (runF p ap ar lim n j s) := by
  intro n
  induction n with
  | zero => intro j s; cases j <;> (simp only [runF]; exact Grown1.none)
  | succ n ih =>
    intro j s
    cases j with
    | args c k L vs i m =>
      cases m with
      | zero => rw [runF]; exact Grown1.same (fun h => by cases h)
      | succ m =>
        rw [runF]
        exact grown_onVal (ih _ _) fun v i s => grown_onVals (ih _ _) fun ws i s => Grown1.same (fun h => by cases h)
    | eval c k L vs i =>
      rw [runF]
      refine grown_onVals (ih _ _) fun ws i1 s1 => ?_
      refine grown_ite (fun _ => Grown1.same (fun h => by cases h)) fun _ => grown_ite (fun _ => Grown1.same (fun h => by cases h)) fun _ => grown_ite (fun _ => grown_ite (fun _ => Grown1.same (fun h => by cases h)) fun _ => ?_) fun _ => Grown1.same (fun h => by cases h)
      exact grown_onRet (ih _ _) fun v s2 => Grown1.same (fun h => by cases h)
    | lines c f L vs k =>
      rw [runF]
      refine grown_ite (fun _ => Grown1.same (fun h => by cases h)) fun _ => grown_ite (fun _ => ih _ _) fun _ => grown_ite (fun _ => grown_ite (fun _ => ih _ _) fun _ => ih _ _) fun _ => grown_ite (fun h => Grown1.same (fun _ => h)) fun hne => ?_
      refine Grown1.trans (s' := ⟨s.out, s.vis ++ [c ++ [(k : Int)]]⟩) (List.prefix_append _ _) (List.prefix_refl _) (fun h => by simp only [List.length_append, List.length_cons, List.length_nil]; omega) (grown_onVal (ih _ _) fun v _ s1 => ?_)
      exact grown_ite (fun _ => ih _ _) fun _ => grown_ite (fun _ => Grown1.trans (s' := ⟨s1.out ++ [v], s1.vis⟩) (List.prefix_refl _) (List.prefix_append _ _) id (ih _ _)) fun _ => grown_ite (fun _ => Grown1.same (fun h => by cases h)) fun _ => grown_ite (fun _ => ih _ _) fun _ => grown_ite (fun _ => ih _ _) fun _ => ih _ _
/-- The same, or the first one was ended for its visits, and is the beginning of the second one. -/
def Rel1 (x1 x2 : RunO) : Prop := ∀ y1 y2, x1 = some y1 → x2 = some y2 → y1 = y2 ∨ (y1.1 = .stop 1 ∧ y1.2.vis <+: y2.2.vis ∧ y1.2.out <+: y2.2.out)
theorem Rel1.same (x : RunO) : Rel1 x x := fun y1 y2 h1 h2 => .inl (by rw [h1] at h2; injection h2)
theorem rel_onVal {lim l1 : Nat} {x1 x2 : RunO} {f1 f2 : Int → Nat → RunS → RunO} (hx : Rel1 x1 x2) (hb : ∀ y, x1 = some y → y.2.vis.length ≤ l1) (hf : ∀ v i s, s.vis.length ≤ l1 → Rel1 (f1 v i s) (f2 v i s)) (hg : ∀ v i s, Grown1 lim s (f2 v i s)) : Rel1 (onVal x1 f1) (onVal x2 f2) := fun z1 z2 h1 h2 => by
  unfold onVal at h1 h2
  cases e1 : x1 with
  | none => rw [e1] at h1; cases h1
  | some y1 =>
    cases e2 : x2 with
    | none => rw [e2] at h2; cases h2
    | some y2 =>
      rw [e1] at h1
      rw [e2] at h2
      simp only [Option.bind_some] at h1 h2
      rcases hx y1 y2 e1 e2 with rfl | ⟨hs, hv, ho⟩
      · obtain ⟨r, s⟩ := y1
        cases r <;> simp only at h1 h2
        case val v i => exact hf v i s (hb _ e1) z1 z2 h1 h2
        all_goals exact .inl (by injection h1 with h1; injection h2 with h2; rw [← h1, ← h2])
      · obtain ⟨r, s⟩ := y1
        obtain ⟨r2, s2⟩ := y2
        dsimp only at hs hv ho
        subst hs
        simp only at h1
        injection h1 with h1
        subst h1
        refine .inr ⟨rfl, ?_⟩
        cases r2 <;> simp only at h2
        case val v i =>
          obtain ⟨a, b, _⟩ := hg v i s2 z2 h2
          exact ⟨hv.trans a, ho.trans b⟩
        all_goals
          injection h2 with h2
          subst h2
          exact ⟨hv, ho⟩
theorem rel_onVals {lim l1 : Nat} {x1 x2 : RunO} {f1 f2 : List Int → Nat → RunS → RunO} (hx : Rel1 x1 x2) (hb : ∀ y, x1 = some y → y.2.vis.length ≤ l1) (hf : ∀ v i s, s.vis.length ≤ l1 → Rel1 (f1 v i s) (f2 v i s)) (hg : ∀ v i s, Grown1 lim s (f2 v i s)) : Rel1 (onVals x1 f1) (onVals x2 f2) := fun z1 z2 h1 h2 => by
  unfold onVals at h1 h2
  cases e1 : x1 with
  | none => rw [e1] at h1; cases h1
  | some y1 =>
    cases e2 : x2 with
    | none => rw [e2] at h2; cases h2
    | some y2 =>
      rw [e1] at h1
      rw [e2] at h2
      simp only [Option.bind_some] at h1 h2
      rcases hx y1 y2 e1 e2 with rfl | ⟨hs, hv, ho⟩
      · obtain ⟨r, s⟩ := y1
        cases r <;> simp only at h1 h2
        case vals v i => exact hf v i s (hb _ e1) z1 z2 h1 h2
        all_goals exact .inl (by injection h1 with h1; injection h2 with h2; rw [← h1, ← h2])
      · obtain ⟨r, s⟩ := y1
        obtain ⟨r2, s2⟩ := y2
        dsimp only at hs hv ho
        subst hs
        simp only at h1
        injection h1 with h1
        subst h1
        refine .inr ⟨rfl, ?_⟩
        cases r2 <;> simp only at h2
        case vals v i =>
          obtain ⟨a, b, _⟩ := hg v i s2 z2 h2
          exact ⟨hv.trans a, ho.trans b⟩
        all_goals
          injection h2 with h2
          subst h2
          exact ⟨hv, ho⟩
theorem rel_onRet {lim l1 : Nat} {x1 x2 : RunO} {f1 f2 : Int → RunS → RunO} (hx : Rel1 x1 x2) (hb : ∀ y, x1 = some y → y.2.vis.length ≤ l1) (hf : ∀ v s, s.vis.length ≤ l1 → Rel1 (f1 v s) (f2 v s)) (hg : ∀ v s, Grown1 lim s (f2 v s)) : Rel1 (onRet x1 f1) (onRet x2 f2) := fun z1 z2 h1 h2 => by
  unfold onRet at h1 h2
  cases e1 : x1 with
  | none => rw [e1] at h1; cases h1
  | some y1 =>
    cases e2 : x2 with
    | none => rw [e2] at h2; cases h2
    | some y2 =>
      rw [e1] at h1
      rw [e2] at h2
      simp only [Option.bind_some] at h1 h2
      rcases hx y1 y2 e1 e2 with rfl | ⟨hs, hv, ho⟩
      · obtain ⟨r, s⟩ := y1
        cases r <;> simp only at h1 h2
        case ret v => exact hf v s (hb _ e1) z1 z2 h1 h2
        all_goals exact .inl (by injection h1 with h1; injection h2 with h2; rw [← h1, ← h2])
      · obtain ⟨r, s⟩ := y1
        obtain ⟨r2, s2⟩ := y2
        dsimp only at hs hv ho
        subst hs
        simp only at h1
        injection h1 with h1
        subst h1
        refine .inr ⟨rfl, ?_⟩
        cases r2 <;> simp only at h2
        case ret v =>
          obtain ⟨a, b, _⟩ := hg v s2 z2 h2
          exact ⟨hv.trans a, ho.trans b⟩
        all_goals
          injection h2 with h2
          subst h2
          exact ⟨hv, ho⟩
theorem rel_ite {c : Prop} [Decidable c] {a1 b1 a2 b2 : RunO} (ha : c → Rel1 a1 a2) (hb : ¬ c → Rel1 b1 b2) : Rel1 (if c then a1 else b1) (if c then a2 else b2) := by
  by_cases hc : c
  · rw [if_pos hc, if_pos hc]; exact ha hc
  · rw [if_neg hc, if_neg hc]; exact hb hc
theorem rel_ite' {c : Prop} [Decidable c] {lim : Nat} {s : RunS} {a1 b1 a2 b2 : RunO} (hg : Grown1 lim s (if c then a2 else b2)) (ha : c → Grown1 lim s a2 → Rel1 a1 a2) (hb : ¬ c → Grown1 lim s b2 → Rel1 b1 b2) : Rel1 (if c then a1 else b1) (if c then a2 else b2) := by
  by_cases hc : c
  · rw [if_pos hc] at hg; rw [if_pos hc, if_pos hc]; exact ha hc hg
  · rw [if_neg hc] at hg; rw [if_neg hc, if_neg hc]; exact hb hc hg
theorem runF_rel (p : List PLine) (ap : Int → Int → Int → Int) (ar : TokL → Nat) (l1 l2 : Nat) (hl : l1 ≤ l2) : ∀ (n : Nat) (j : Job) (s : RunS), s.vis.length ≤ l1 → Rel1 (runF p ap ar l1 n j s) (runF p ap ar l2 n j s) := by
  intro n
  induction n with
  | zero => intro j s _ y1 y2 h; cases j <;> simp [runF] at h
  | succ n ih =>
    have hG := fun j s => runF_grown p ap ar l2 n j s
    have hB : ∀ (j : Job) (s : RunS) (z : RunRes × RunS), s.vis.length ≤ l1 → runF p ap ar l1 n j s = some z → z.2.vis.length ≤ l1 := fun j s z hs h => (runF_grown p ap ar l1 n j s z h).2.2.1 hs
    have hgI : ∀ (c : Prop) [Decidable c] (s : RunS) (a b : RunO), Grown1 l2 s a → Grown1 l2 s b → Grown1 l2 s (if c then a else b) := fun c _ s a b ha hb => grown_ite (fun _ => ha) (fun _ => hb)
    have hR : ∀ (s : RunS) (r : RunRes), r ≠ .stop 1 → Grown1 l2 s (some (r, s)) := fun s r h => Grown1.same (fun e => absurd e h)
    intro j s hs
    cases j with
    | args c k L vs i m =>
      cases m with
      | zero => rw [runF, runF]; exact Rel1.same _
      | succ m =>
        rw [runF, runF]
        refine rel_onVal (lim := l2) (l1 := l1) (ih _ _ hs) (fun y => hB _ _ y hs) (fun v i1 s1 hs1 => ?_) (fun v i1 s1 => ?_)
        · exact rel_onVals (lim := l2) (l1 := l1) (ih _ _ hs1) (fun y => hB _ _ y hs1) (fun ws i2 s2 _ => Rel1.same _) (fun ws i2 s2 => hR _ _ (by intro h; cases h))
        · exact grown_onVals (hG _ _) fun ws i2 s2 => hR _ _ (by intro h; cases h)
    | eval c k L vs i =>
      rw [runF, runF]
      refine rel_onVals (lim := l2) (l1 := l1) (ih _ _ hs) (fun y => hB _ _ y hs) (fun ws i1 s1 hs1 => ?_) (fun ws i1 s1 => ?_)
      · refine rel_ite (fun _ => Rel1.same _) fun _ => rel_ite (fun _ => Rel1.same _) fun _ => rel_ite (fun _ => rel_ite (fun _ => Rel1.same _) fun _ => ?_) fun _ => Rel1.same _
        exact rel_onRet (lim := l2) (l1 := l1) (ih _ _ hs1) (fun y => hB _ _ y hs1) (fun v s2 _ => Rel1.same _) (fun v s2 => hR _ _ (by intro h; cases h))
      · refine hgI _ _ _ _ (hR _ _ (by intro h; cases h)) (hgI _ _ _ _ (hR _ _ (by intro h; cases h)) (hgI _ _ _ _ (hgI _ _ _ _ (hR _ _ (by intro h; injection h with h; exact absurd h (by decide))) ?_) (hR _ _ (by intro h; cases h))))
        exact grown_onRet (hG _ _) fun v s2 => hR _ _ (by intro h; cases h)
    | lines c f L vs k =>
      have hgrow := runF_grown p ap ar l2 (n + 1) (.lines c f L vs k) s
      rw [runF] at hgrow
      rw [runF, runF]
      refine rel_ite' hgrow (fun _ _ => Rel1.same _) fun _ hgrow => rel_ite' hgrow (fun _ _ => ih _ _ hs) fun _ hgrow => rel_ite' hgrow (fun _ hgrow => rel_ite' hgrow (fun _ _ => ih _ _ hs) fun _ _ => ih _ _ hs) fun _ hgrow => ?_
      by_cases h1 : s.vis.length = l1
      · rw [if_pos h1]
        intro y1 y2 e1 e2
        injection e1 with e1
        subst e1
        obtain ⟨a, b, _⟩ := hgrow y2 e2
        exact .inr ⟨rfl, a, b⟩
      · rw [if_neg h1, if_neg (by omega)]
        have hs' : (s.vis ++ [c ++ [(k : Int)]]).length ≤ l1 := by simp only [List.length_append, List.length_cons, List.length_nil]; omega
        refine rel_onVal (lim := l2) (l1 := l1) (ih _ _ hs') (fun y => hB _ ⟨s.out, s.vis ++ [c ++ [(k : Int)]]⟩ y hs') (fun v _ s1 hs1 => ?_) (fun v _ s1 => ?_)
        · exact rel_ite (fun _ => ih _ _ hs1) fun _ => rel_ite (fun _ => ih _ ⟨s1.out ++ [v], s1.vis⟩ hs1) fun _ => rel_ite (fun _ => Rel1.same _) fun _ => rel_ite (fun _ => ih _ _ hs1) fun _ => rel_ite (fun _ => ih _ _ hs1) fun _ => ih _ _ hs1
        · exact hgI _ _ _ _ (hG _ _) (hgI _ _ _ _ (Grown1.trans (s' := ⟨s1.out ++ [v], s1.vis⟩) (List.prefix_refl _) (List.prefix_append _ _) id (hG _ _)) (hgI _ _ _ _ (hR _ _ (by intro h; cases h)) (hgI _ _ _ _ (hG _ _) (hgI _ _ _ _ (hG _ _) (hG _ _)))))
/-- A run with a smaller limit is the beginning of one with a greater limit, or the same. -/
theorem run_limits {p : List PLine} {ap : Int → Int → Int → Int} {ar : TokL → Nat} {l1 l2 : Nat} (hl : l1 ≤ l2) {j : Job} {s s1 s2 : RunS} {r1 r2 : RunRes} (hs : s.vis.length ≤ l1) (h1 : RunTo p ap ar l1 j s r1 s1) (h2 : RunTo p ap ar l2 j s r2 s2) :
    (r1 = r2 ∧ s1 = s2) ∨ (r1 = .stop 1 ∧ s1.vis.length = l1 ∧ s1.vis <+: s2.vis ∧ s1.out <+: s2.out) := by
  obtain ⟨n, hn⟩ := h1
  obtain ⟨m, hm⟩ := h2
  have e1 := runF_le p ap ar l1 n (n + m) (by omega) j s _ hn
  have e2 := runF_le p ap ar l2 m (n + m) (by omega) j s _ hm
  have hg := runF_grown p ap ar l1 (n + m) j s _ e1
  rcases runF_rel p ap ar l1 l2 hl (n + m) j s hs _ _ e1 e2 with h | ⟨a, b, c⟩
  · injection h with h3 h4
    exact .inl ⟨h3, h4⟩
  · exact .inr ⟨a, hg.2.2.2 a, b, c⟩
end Go.Proofs.YtcnnfhcpkbjolaaDoor

/-! Runs of programs, plain: every visit begins in main and goes from call to call. Nothing of the program -/
namespace Go.Proofs.YtcnnfhcpkbjolaaDoor
open Go.RowKit Go.Lib

/-- The lines of calls under way, and the function that they lead to. -/
inductive Chain (p : List PLine) : List Int → Nat → Prop
  | main : Chain p [] 0
  | call {c : List Int} {f f' k : Nat} {t : TokL} (h : Chain p c f) (h1 : f < k) (h2 : (k : Int) < beZ p (f : Int)) (hl : k < p.length) (ht : t ∈ p[k].expr) (h7 : t.kind = 7) (hf : findZ p t.name = (f' : Int)) : Chain p (c ++ [(k : Int)]) f'
/-- A visit's shape. -/
def ShapeV (p : List PLine) (v : List Int) : Prop := ∃ (c : List Int) (f k : Nat), v = c ++ [(k : Int)] ∧ Chain p c f ∧ c.length ≤ 6 ∧ f < k ∧ (k : Int) < beZ p (f : Int)
def AllSh (p : List PLine) (s : RunS) : Prop := ∀ v ∈ s.vis, ShapeV p v
def Sh (p : List PLine) (x : RunO) : Prop := ∀ z, x = some z → AllSh p z.2
def Good (p : List PLine) : Job → Prop
  | .eval c k _ _ _ => ∃ f, Chain p c f ∧ c.length ≤ 6 ∧ f < k ∧ (k : Int) < beZ p (f : Int)
  | .args c k _ _ _ _ => ∃ f, Chain p c f ∧ c.length ≤ 6 ∧ f < k ∧ (k : Int) < beZ p (f : Int)
  | .lines c f _ _ k => Chain p c f ∧ c.length ≤ 6 ∧ f < k
theorem sh_some {p : List PLine} {s : RunS} {r : RunRes} (h : AllSh p s) : Sh p (some (r, s)) := fun z hz => by
  injection hz with hz
  subst hz
  exact h
theorem sh_onVal {p : List PLine} {x : RunO} {f : Int → Nat → RunS → RunO} (hx : Sh p x) (hf : ∀ v i s, AllSh p s → Sh p (f v i s)) : Sh p (onVal x f) := fun z hz => by
  unfold onVal at hz
  cases hxx : x with
  | none => rw [hxx] at hz; cases hz
  | some y =>
    have h := hx y hxx
    rw [hxx] at hz
    simp only [Option.bind_some] at hz
    obtain ⟨r, s1⟩ := y
    cases r <;> simp only at hz
    case val v i => exact hf v i s1 h z hz
    all_goals
      injection hz with hz
      subst hz
      exact h
theorem sh_onVals {p : List PLine} {x : RunO} {f : List Int → Nat → RunS → RunO} (hx : Sh p x) (hf : ∀ v i s, AllSh p s → Sh p (f v i s)) : Sh p (onVals x f) := fun z hz => by
  unfold onVals at hz
  cases hxx : x with
  | none => rw [hxx] at hz; cases hz
  | some y =>
    have h := hx y hxx
    rw [hxx] at hz
    simp only [Option.bind_some] at hz
    obtain ⟨r, s1⟩ := y
    cases r <;> simp only at hz
    case vals v i => exact hf v i s1 h z hz
    all_goals
      injection hz with hz
      subst hz
      exact h
theorem sh_onRet {p : List PLine} {x : RunO} {f : Int → RunS → RunO} (hx : Sh p x) (hf : ∀ v s, AllSh p s → Sh p (f v s)) : Sh p (onRet x f) := fun z hz => by
  unfold onRet at hz
  cases hxx : x with
  | none => rw [hxx] at hz; cases hz
  | some y =>
    have h := hx y hxx
    rw [hxx] at hz
    simp only [Option.bind_some] at hz
    obtain ⟨r, s1⟩ := y
    cases r <;> simp only at hz
    case ret v => exact hf v s1 h z hz
    all_goals
      injection hz with hz
      subst hz
      exact h
theorem sh_ite {p : List PLine} {c : Prop} [Decidable c] {a b : RunO} (ha : c → Sh p a) (hb : ¬ c → Sh p b) : Sh p (if c then a else b) := by
  by_cases hc : c
  · rw [if_pos hc]; exact ha hc
  · rw [if_neg hc]; exact hb hc
theorem fun_in (p : List PLine) (k : Nat) (h : k < p.length) (h0 : p[k].kind = 0) : k ∈ funs p := by
  unfold funs
  rw [funs_mem p 0 k]
  exact ⟨h, Nat.zero_le _, h0⟩
theorem findF_fun (n : ByteArray) (l : List PLine) : ∀ i : Nat, findF n i l = -1 ∨ ∃ j, ∃ h : j < l.length, findF n i l = ((i + j : Nat) : Int) ∧ l[j].kind = 0 := by
  induction l with
  | nil => intro i; exact .inl rfl
  | cons x r ih =>
    intro i
    unfold findF
    by_cases hc : x.kind = 0 ∧ x.name = n
    · rw [if_pos hc]
      exact .inr ⟨0, by simp, by simp, hc.1⟩
    · rw [if_neg hc]
      rcases ih (i + 1) with h | ⟨j, hj, h1, h2⟩
      · exact .inl h
      · refine .inr ⟨j + 1, by simpa using hj, ?_, h2⟩
        rw [h1]
        congr 1
        omega
theorem findZ_fun (p : List PLine) (n : ByteArray) (f : Nat) (h : findZ p n = (f : Int)) : f ∈ funs p := by
  rcases findF_fun n p 0 with h' | ⟨j, hj, h1, h2⟩
  · unfold findZ at h; omega
  · unfold findZ at h
    have : f = j := by omega
    subst this
    exact fun_in p f hj h2
theorem Chain.fun {p : List PLine} (ho : OkI p) {c : List Int} {f : Nat} (h : Chain p c f) : f ∈ funs p := by
  cases h with
  | main =>
    obtain ⟨hl, hk, _⟩ := (find_zero p mainT).1 ho.2.1.2.1
    exact fun_in p 0 hl hk
  | call h h1 h2 hl ht h7 hf => exact findZ_fun p _ f hf
theorem tokAt_mem (p : List PLine) (k i : Nat) (h : k < p.length) (h7 : (tokAt p k i).kind = 7) : tokAt p k i ∈ p[k].expr := by
  unfold tokAt at h7 ⊢
  rw [List.getElem?_eq_getElem h] at h7 ⊢
  simp only at h7 ⊢
  cases hx : p[k].expr[i]? with
  | none => rw [hx] at h7; exact absurd h7 (by decide)
  | some t => exact List.mem_of_getElem? hx
/-- A line within a function. -/
theorem line_in {p : List PLine} (ho : OkI p) {f k : Nat} (hf : f ∈ funs p) (h1 : f < k) (h2 : (k : Int) < beZ p (f : Int)) (hl : k < p.length) : ∀ t ∈ p[k].expr, knownP p (locZ p (f : Int)) t := by
  have h := (ho.2.2.2.2.2 f hf).2
  refine h p[k] ?_
  unfold segZ
  rw [List.mem_iff_getElem?]
  refine ⟨k - f, ?_⟩
  rw [List.getElem?_take, if_pos (by omega), List.getElem?_drop, show f + (k - f) = k from by omega, List.getElem?_eq_getElem hl]
theorem findIdx_range (k : Nat) (q : Nat → Bool) : (List.range k).findIdx q = k ∨ ((List.range k).findIdx q < k ∧ q ((List.range k).findIdx q) = true) := by
  rcases Nat.lt_or_ge ((List.range k).findIdx q) (List.range k).length with h | h
  · refine .inr ⟨by simpa using h, ?_⟩
    have := List.findIdx_getElem (w := h)
    simpa using this
  · refine .inl ?_
    have h2 := List.findIdx_le_length (p := q) (xs := List.range k)
    rw [List.length_range] at h h2
    omega
theorem elses_at (p : List PLine) (l : List PLine) : ∀ i, elsesF p i l → ∀ j, ∀ h : j < l.length, l[j].kind = 4 → ∃ o : Nat, o < i + j ∧ elseZ p o = ((i + j : Nat) : Int) := by
  induction l with
  | nil => intro i _ j h; simp at h
  | cons x r ih =>
    intro i he j h h4
    cases j with
    | zero => exact he.1 h4
    | succ j =>
      obtain ⟨o, h1, h2⟩ := ih (i + 1) he.2 j (by simpa using h) h4
      exact ⟨o, by omega, by rw [h2]; congr 1; omega⟩
theorem run_shapes (p : List PLine) (ap : Int → Int → Int → Int) (ar : TokL → Nat) (lim : Nat) (ho : OkI p) : ∀ (n : Nat) (j : Job) (s : RunS), Good p j → AllSh p s → Sh p (runF p ap ar lim n j s) := by
  intro n
  induction n with
  | zero => intro j s _ _ z h; cases j <;> simp [runF] at h
  | succ n ih =>
    intro j s hg hs
    cases j with
    | args c k L vs i m =>
      cases m with
      | zero => rw [runF]; exact sh_some hs
      | succ m =>
        rw [runF]
        exact sh_onVal (ih _ _ hg hs) fun v i1 s1 h1 => sh_onVals (ih _ _ hg h1) fun ws i2 s2 h2 => sh_some h2
    | eval c k L vs i =>
      rw [runF]
      refine sh_onVals (ih _ _ hg hs) fun ws i1 s1 h1 => sh_ite (fun _ => sh_some h1) fun _ => sh_ite (fun _ => sh_some h1) fun _ => sh_ite (fun h7 => sh_ite (fun _ => sh_some h1) fun h6 => ?_) fun _ => sh_some h1
      obtain ⟨f, hc, hc6, hfk, hke⟩ := hg
      have hl : k < p.length := by have := (beZ_lt p (f : Int)).2; omega
      have ht := tokAt_mem p k i hl h7
      have hk := (line_in ho (hc.fun ho) hfk hke hl _ ht).2 h7
      obtain ⟨f', hf'⟩ := Int.eq_ofNat_of_zero_le hk.1
      refine sh_onRet (ih _ _ ?_ h1) fun v s2 h2 => sh_some h2
      rw [hf', Int.toNat_natCast]
      exact ⟨.call hc hfk hke hl ht h7 hf', by simp only [List.length_append, List.length_cons, List.length_nil]; omega, Nat.lt_succ_self _⟩
    | lines c f L vs k =>
      obtain ⟨hc, hc6, hfk⟩ := hg
      rw [runF]
      refine sh_ite (fun _ => sh_some hs) fun he => ?_
      have hke : (k : Int) < beZ p (f : Int) := by omega
      have hl : k < p.length := by have := (beZ_lt p (f : Int)).2; omega
      have h0 : 0 ≤ beZ p (f : Int) := by omega
      refine sh_ite (fun h4 => ?_) fun h4 => sh_ite (fun h7 => sh_ite (fun h5 => ?_) fun _ => ih _ _ ⟨hc, hc6, by omega⟩ hs) fun h7 => sh_ite (fun _ => sh_some hs) fun _ => ?_
      · refine ih _ _ ⟨hc, hc6, ?_⟩ hs
        rw [lkZ_at p k hl] at h4
        obtain ⟨o, ho1, ho2⟩ := elses_at p p 0 ho.2.2.2.2.1 k hl h4
        rw [Nat.zero_add] at ho1 ho2
        rcases findIdx_range k (fun (i : Nat) => decide (elseZ p (i : Int) = (k : Int))) with h | ⟨h, h'⟩
        · exfalso
          have := List.findIdx_eq_length.1 (show (List.range k).findIdx (fun (i : Nat) => decide (elseZ p (i : Int) = (k : Int))) = (List.range k).length by rw [h, List.length_range]) o (by simpa using ho1)
          simp only [decide_eq_false_iff_not] at this
          exact this ho2
        · have he2 := of_decide_eq_true h'
          have := (elseZ_gt p (elseOpen p k : Int) (by unfold elseOpen; omega)).2
          unfold elseOpen at this ⊢
          omega
      · refine ih _ _ ⟨hc, hc6, ?_⟩ hs
        rcases findIdx_range k (fun (i : Nat) => decide (beZ p (i : Int) = (k : Int))) with h | ⟨h, h'⟩
        · exfalso
          unfold endOpen at h5
          rw [h, h7] at h5
          exact absurd h5 (by decide)
        · have he2 := of_decide_eq_true h'
          unfold endOpen
          generalize (List.range k).findIdx (fun (i : Nat) => decide (beZ p (i : Int) = (k : Int))) = o at *
          rcases Nat.lt_or_ge f o with h3 | h3
          · exact h3
          · exfalso
            rcases Nat.lt_or_ge o f with h8 | h8
            · have := beZ_apart p o f (by omega) h8 (by omega) h0
              omega
            · have : o = f := by omega
              subst this
              omega
      · have hsv : AllSh p ⟨s.out, s.vis ++ [c ++ [(k : Int)]]⟩ := fun v hv => by
          rcases List.mem_append.1 hv with hv | hv
          · exact hs v hv
          · rw [List.mem_singleton] at hv
            exact ⟨c, f, k, hv, hc, hc6, hfk, hke⟩
        have hop : isOp p[k].kind = true → (k : Int) < beZ p (k : Int) := fun h => (beZ_in p (f : Int) k h0 (by omega) hke hl h).1
        refine sh_onVal (ih _ _ ⟨f, hc, hc6, hfk, hke⟩ hsv) fun v i1 s1 h1 => ?_
        refine sh_ite (fun _ => ih _ _ ⟨hc, hc6, by omega⟩ h1) fun k1 => sh_ite (fun _ => ih _ _ ⟨hc, hc6, by omega⟩ h1) fun k2 => sh_ite (fun _ => sh_some h1) fun k6 => sh_ite (fun _ => ih _ _ ⟨hc, hc6, by omega⟩ h1) fun _ => sh_ite (fun h => ?_) fun _ => ?_
        · have := elseZ_gt p (k : Int) h.2
          exact ih _ _ ⟨hc, hc6, by omega⟩ h1
        · refine ih _ _ ⟨hc, hc6, ?_⟩ h1
          have hlb := ho.1.2 _ (List.getElem_mem hl)
          have hkd := line_kind _ hlb
          rw [lkZ_at p k hl] at h4 h7 k1 k2 k6
          by_cases hz : p[k].kind = 0
          · have := hop (by rw [hz]; rfl)
            omega
          · have := hop (by
              have : p[k].kind = 3 ∨ p[k].kind = 5 := by omega
              unfold isOp
              rcases this with h | h <;> rw [h] <;> rfl)
            omega
end Go.Proofs.YtcnnfhcpkbjolaaDoor

/-! Runs of programs, plain: in which function a line lies; what a visit's lines say of one another. Nothing of the program -/
namespace Go.Proofs.YtcnnfhcpkbjolaaDoor
open Go.RowKit Go.Lib

def fnStep (nm : ByteArray) (x : PLine) : ByteArray := if x.kind = 0 then x.name else nm
/-- The name of the function in which a line lies. -/
def fnN (p : List PLine) (k : Nat) : ByteArray := if k < p.length then (p.take (k + 1)).foldl fnStep ⟨#[]⟩ else ⟨#[]⟩
theorem fn_next (p : List PLine) (k : Nat) (h : k < p.length) : (p.take (k + 1)).foldl fnStep ⟨#[]⟩ = fnStep ((p.take k).foldl fnStep ⟨#[]⟩) p[k] := by
  rw [List.take_succ_eq_append_getElem h, List.foldl_append]
  rfl
theorem fn_from (p : List PLine) (f : Nat) (hf : f < p.length) (h0 : p[f].kind = 0) (d : Nat) : ∀ h : f + d < p.length, (∀ i, f < i → i ≤ f + d → ∀ h : i < p.length, p[i].kind ≠ 0) → (p.take (f + d + 1)).foldl fnStep ⟨#[]⟩ = p[f].name := by
  induction d with
  | zero =>
    intro h _
    rw [Nat.add_zero, fn_next p f hf]
    unfold fnStep
    rw [if_pos h0]
  | succ d ih =>
    intro h hn
    rw [fn_next p (f + (d + 1)) h]
    unfold fnStep
    rw [if_neg (hn (f + (d + 1)) (by omega) (Nat.le_refl _) h)]
    exact ih (by omega) (fun i h1 h2 h3 => hn i h1 (by omega) h3)
theorem follow_low (p : List PLine) (l : List Nat) : ∀ m : Int, followF p m l → ∀ g ∈ l, m ≤ (g : Int) := by
  induction l with
  | nil => intro m _ g hg; cases hg
  | cons x r ih =>
    intro m h g hg
    obtain ⟨h1, h2, h3⟩ := h
    rcases List.mem_cons.1 hg with rfl | hg
    · omega
    · have := ih _ h3 g hg
      have := beZ_gt p (x : Int) h2
      omega
theorem follow_apart (p : List PLine) (l : List Nat) : ∀ m : Int, followF p m l → ∀ f ∈ l, ∀ g ∈ l, f < g → beZ p (f : Int) < (g : Int) := by
  induction l with
  | nil => intro m _ f hf; cases hf
  | cons x r ih =>
    intro m h f hf g hg hfg
    obtain ⟨h1, h2, h3⟩ := h
    rcases List.mem_cons.1 hf with e | hf'
    · subst e
      rcases List.mem_cons.1 hg with e | hg'
      · omega
      · have := follow_low p r _ h3 g hg'; omega
    · rcases List.mem_cons.1 hg with e | hg'
      · subst e
        have := follow_low p r _ h3 f hf'
        have := beZ_gt p (g : Int) h2
        omega
      · exact ih _ h3 f hf' g hg' hfg
theorem funs_at (p : List PLine) (f : Nat) (h : f ∈ funs p) : ∃ hl : f < p.length, p[f].kind = 0 := by
  unfold funs at h
  rw [funs_mem p 0 f] at h
  obtain ⟨h1, _, h2⟩ := h
  exact ⟨h1, h2⟩
/-- A line of a function lies in it. -/
theorem fn_of (p : List PLine) (ho : OkI p) (f k : Nat) (hf : f ∈ funs p) (h1 : f ≤ k) (h2 : (k : Int) < beZ p (f : Int)) : fnN p k = nameAt p f := by
  obtain ⟨hl, h0⟩ := funs_at p f hf
  have hb := (beZ_lt p (f : Int)).2
  have hk : k < p.length := by omega
  unfold fnN
  rw [if_pos hk]
  obtain ⟨d, rfl⟩ : ∃ d, k = f + d := ⟨k - f, by omega⟩
  rw [fn_from p f hl h0 d hk (fun i h3 h4 h5 h6 => by
    have := follow_apart p (funs p) 0 ho.2.2.1 f hf i (fun_in p i h5 h6) h3
    omega)]
  unfold nameAt
  rw [List.getElem?_eq_getElem hl]
theorem findF_name (n : ByteArray) (l : List PLine) : ∀ i : Nat, findF n i l = -1 ∨ ∃ j, ∃ h : j < l.length, findF n i l = ((i + j : Nat) : Int) ∧ l[j].name = n := by
  induction l with
  | nil => intro i; exact .inl rfl
  | cons x r ih =>
    intro i
    unfold findF
    by_cases hc : x.kind = 0 ∧ x.name = n
    · rw [if_pos hc]
      exact .inr ⟨0, by simp, by simp, hc.2⟩
    · rw [if_neg hc]
      rcases ih (i + 1) with h | ⟨j, hj, h1, h2⟩
      · exact .inl h
      · refine .inr ⟨j + 1, by simpa using hj, ?_, h2⟩
        rw [h1]
        congr 1
        omega
theorem findZ_name (p : List PLine) (n : ByteArray) (f : Nat) (h : findZ p n = (f : Int)) : nameAt p f = n := by
  rcases findF_name n p 0 with h' | ⟨j, hj, h1, h2⟩
  · unfold findZ at h; omega
  · unfold findZ at h
    have : f = j := by omega
    subst this
    unfold nameAt
    rw [List.getElem?_eq_getElem hj]
    exact h2
/-- A line calls the function of the next. -/
def CallsTo (p : List PLine) (a b : Int) : Prop := ∃ (i k : Nat), a = (i : Int) ∧ b = (k : Int) ∧ ∃ h : i < p.length, ∃ t ∈ p[i].expr, t.kind = 7 ∧ t.name = fnN p k
/-- The lines of a visit, from the first one on. -/
theorem chain_steps (p : List PLine) (ho : OkI p) {c : List Int} {f : Nat} (h : Chain p c f) : ∀ k : Nat, f ≤ k → (k : Int) < beZ p (f : Int) → (∀ i, ∀ hi : i + 1 < (c ++ [(k : Int)]).length, CallsTo p (c ++ [(k : Int)])[i] (c ++ [(k : Int)])[i + 1]) ∧ ∃ m : Nat, (c ++ [(k : Int)])[0]? = some (m : Int) ∧ fnN p m = mainT := by
  induction h with
  | main =>
    intro k h1 h2
    refine ⟨fun i hi => by simp at hi, k, rfl, ?_⟩
    have hz := (find_zero p mainT).1 ho.2.1.2.1
    obtain ⟨hl, hk, hn⟩ := hz
    rw [fn_of p ho 0 k (fun_in p 0 hl hk) (Nat.zero_le _) h2]
    unfold nameAt
    rw [List.getElem?_eq_getElem hl]
    exact hn
  | @call c f f' k0 t h h1 h2 hl ht h7 hf ih =>
    intro k h3 h4
    obtain ⟨ih1, m, ih2, ih3⟩ := ih k0 (by omega) h2
    have hf' := findZ_fun p _ f' hf
    have hfn : fnN p k = t.name := by rw [fn_of p ho f' k hf' h3 h4, findZ_name p _ f' hf]
    refine ⟨fun i hi => ?_, m, ?_, ih3⟩
    · by_cases hlast : i + 1 < (c ++ [(k0 : Int)]).length
      · have e1 : (c ++ [(k0 : Int)] ++ [(k : Int)])[i] = (c ++ [(k0 : Int)])[i] := List.getElem_append_left (by omega)
        have e2 : (c ++ [(k0 : Int)] ++ [(k : Int)])[i + 1] = (c ++ [(k0 : Int)])[i + 1] := List.getElem_append_left hlast
        rw [e1, e2]
        exact ih1 i hlast
      · have hlen : (c ++ [(k0 : Int)]).length = i + 1 := by
          simp only [List.length_append, List.length_cons, List.length_nil] at hi hlast ⊢
          omega
        have e1 : (c ++ [(k0 : Int)] ++ [(k : Int)])[i]? = some (k0 : Int) := by
          rw [List.getElem?_append_left (by omega)]
          rw [List.getElem?_append_right (by simp at hlen; omega)]
          simp at hlen
          simp [hlen]
        have e2 : (c ++ [(k0 : Int)] ++ [(k : Int)])[i + 1]? = some (k : Int) := by
          rw [List.getElem?_append_right (by omega), hlen]
          simp
        rw [List.getElem?_eq_getElem (by omega)] at e1
        rw [List.getElem?_eq_getElem hi] at e2
        injection e1 with e1
        injection e2 with e2
        rw [e1, e2]
        exact ⟨k0, k, rfl, rfl, hl, t, ht, h7, hfn.symm⟩
    · rw [List.getElem?_append_left (by simp)]
      exact ih2
/-- What the law asks of a visit. -/
theorem shape_steps (p : List PLine) (ho : OkI p) (v : List Int) (h : ShapeV p v) : 0 < v.length ∧ v.length ≤ 7 ∧ (∀ i, ∀ hi : i + 1 < v.length, CallsTo p v[i] v[i + 1]) ∧ ∃ m : Nat, v[0]? = some (m : Int) ∧ fnN p m = mainT := by
  obtain ⟨c, f, k, rfl, hc, h6, h1, h2⟩ := h
  obtain ⟨a, b⟩ := chain_steps p ho hc k (by omega) h2
  exact ⟨by simp, by simp; omega, a, b⟩
end Go.Proofs.YtcnnfhcpkbjolaaDoor

/-! Runs of programs, plain: what a job's result looks like, where a function goes on, and that every run of a program that makes sense comes to its end. Nothing of the program -/
namespace Go.Proofs.YtcnnfhcpkbjolaaDoor
open Go.RowKit Go.Lib

/-- What a job can come to. -/
def Fits : Job → RunRes → Prop
  | .eval _ _ _ _ i, .val _ i1 => i < i1
  | .args _ _ _ _ i m, .vals ws i2 => i ≤ i2 ∧ ws.length = m
  | .lines .., .ret _ => True
  | _, .stop c => c = 1 ∨ c = 2
  | _, _ => False
theorem Fits.stop {j : Job} {c : Int} (h : c = 1 ∨ c = 2) : Fits j (.stop c) := by cases j <;> exact h
theorem Fits.stops {j : Job} {c : Int} (h : Fits j (.stop c)) : c = 1 ∨ c = 2 := by cases j <;> exact h
theorem Fits.lines {c c' : List Int} {f f' : Nat} {L L' : List ByteArray} {vs vs' : List Int} {k k' : Nat} {r : RunRes} (h : Fits (.lines c f L vs k) r) : Fits (.lines c' f' L' vs' k') r := by cases r <;> exact h
theorem run_fits (p : List PLine) (ap : Int → Int → Int → Int) (ar : TokL → Nat) (lim : Nat) : ∀ (n : Nat) (j : Job) (s : RunS) (r : RunRes) (s' : RunS), runF p ap ar lim n j s = some (r, s') → Fits j r := by
  intro n
  induction n with
  | zero => intro j s r s' h; cases j <;> simp [runF] at h
  | succ n ih =>
    intro j s r s' h
    have none' : ∀ {a b : RunRes} {s1 s2 : RunS}, some (a, s1) = some (b, s2) → a = b := fun h => by injection h with h; injection h
    cases j with
    | args c k L vs i m =>
      cases m with
      | zero =>
        rw [runF] at h
        rw [← none' h]
        exact ⟨Nat.le_refl _, rfl⟩
      | succ m =>
        rw [runF] at h
        unfold onVal at h
        cases e1 : runF p ap ar lim n (.eval c k L vs i) s with
        | none => rw [e1] at h; cases h
        | some y =>
          obtain ⟨r1, s1⟩ := y
          have h1 := ih _ _ _ _ e1
          rw [e1] at h
          simp only [Option.bind_some] at h
          cases r1 <;> simp only at h
          case val v i1 =>
            unfold onVals at h
            cases e2 : runF p ap ar lim n (.args c k L vs i1 m) s1 with
            | none => rw [e2] at h; cases h
            | some y =>
              obtain ⟨r2, s2⟩ := y
              have h2 := ih _ _ _ _ e2
              rw [e2] at h
              simp only [Option.bind_some] at h
              cases r2 <;> simp only at h
              case vals ws i2 =>
                rw [← none' h]
                have h1 : i < i1 := h1
                exact ⟨by have := h2.1; omega, by simp only [List.length_cons]; have := h2.2; omega⟩
              case stop c => rw [← none' h]; exact h2.stops
              all_goals exact h2.elim
          case stop c => rw [← none' h]; exact h1.stops
          all_goals exact h1.elim
    | eval c k L vs i =>
      rw [runF] at h
      unfold onVals at h
      cases e1 : runF p ap ar lim n (.args c k L vs (i + 1) (ar (tokAt p k i))) s with
      | none => rw [e1] at h; cases h
      | some y =>
        obtain ⟨r1, s1⟩ := y
        have h1 := ih _ _ _ _ e1
        rw [e1] at h
        simp only [Option.bind_some] at h
        cases r1 <;> simp only at h
        case vals ws i1 =>
          have hi : i < i1 := h1.1
          split at h
          · rw [← none' h]; exact hi
          · split at h
            · rw [← none' h]; exact hi
            · split at h
              · split at h
                · rw [← none' h]; exact .inr rfl
                · unfold onRet at h
                  cases e2 : runF p ap ar lim n (Job.lines (c ++ [(k : Int)]) (findZ p (tokAt p k i).name).toNat (locZ p (findZ p (tokAt p k i).name)) (callVars p (findZ p (tokAt p k i).name).toNat ws) ((findZ p (tokAt p k i).name).toNat + 1)) s1 with
                  | none => rw [e2] at h; cases h
                  | some y =>
                    obtain ⟨r2, s2⟩ := y
                    have h2 := ih _ _ _ _ e2
                    rw [e2] at h
                    simp only [Option.bind_some] at h
                    cases r2 <;> simp only at h
                    case ret v => rw [← none' h]; exact hi
                    case stop c => rw [← none' h]; exact h2.stops
                    all_goals (subst_eqs; exact h2.elim)
              · rw [← none' h]; exact hi
        case stop c => rw [← none' h]; exact h1.stops
        all_goals exact h1.elim
    | lines c f L vs k =>
      rw [runF] at h
      split at h
      · rw [← none' h]; trivial
      · split at h
        · exact (ih _ _ _ _ h).lines
        · split at h
          · split at h <;> exact (ih _ _ _ _ h).lines
          · split at h
            · rw [← none' h]; exact .inl rfl
            · unfold onVal at h
              cases e1 : runF p ap ar lim n (.eval c k L vs 0) ⟨s.out, s.vis ++ [c ++ [(k : Int)]]⟩ with
              | none => rw [e1] at h; cases h
              | some y =>
                obtain ⟨r1, s1⟩ := y
                have h1 := ih _ _ _ _ e1
                rw [e1] at h
                simp only [Option.bind_some] at h
                cases r1 <;> simp only at h
                case val v i1 =>
                  split at h
                  · exact (ih _ _ _ _ h).lines
                  · split at h
                    · exact (ih _ _ _ _ h).lines
                    · split at h
                      · rw [← none' h]; trivial
                      · split at h
                        · exact (ih _ _ _ _ h).lines
                        · split at h <;> exact (ih _ _ _ _ h).lines
                case stop c => rw [← none' h]; exact h1.stops
                all_goals exact h1.elim
/-- Where an else that is reached goes on. -/
theorem else_jump {p : List PLine} (ho : OkI p) {k : Nat} (hl : k < p.length) (h4 : p[k].kind = 4) : elseOpen p k < k ∧ elseZ p (elseOpen p k : Int) = (k : Int) ∧ (k : Int) < beZ p (elseOpen p k : Int) := by
  obtain ⟨o, ho1, ho2⟩ := elses_at p p 0 ho.2.2.2.2.1 k hl h4
  rw [Nat.zero_add] at ho1 ho2
  rcases findIdx_range k (fun (i : Nat) => decide (elseZ p (i : Int) = (k : Int))) with h | ⟨h, h'⟩
  · exfalso
    have := List.findIdx_eq_length.1 (show (List.range k).findIdx (fun (i : Nat) => decide (elseZ p (i : Int) = (k : Int))) = (List.range k).length by rw [h, List.length_range]) o (by simpa using ho1)
    simp only [decide_eq_false_iff_not] at this
    exact this ho2
  · have he2 := of_decide_eq_true h'
    have := (elseZ_gt p (elseOpen p k : Int) (by unfold elseOpen; omega)).2
    refine ⟨h, he2, ?_⟩
    unfold elseOpen at this ⊢
    omega
/-- Whose end a line is. -/
theorem end_open {p : List PLine} {k : Nat} (h : endOpen p k ≠ k) : endOpen p k < k ∧ beZ p (endOpen p k : Int) = (k : Int) := by
  rcases findIdx_range k (fun (i : Nat) => decide (beZ p (i : Int) = (k : Int))) with h' | ⟨h', h''⟩
  · exact absurd h' h
  · exact ⟨h', of_decide_eq_true h''⟩
theorem while_jump {p : List PLine} {f k : Nat} (h0 : 0 ≤ beZ p (f : Int)) (hfk : f < k) (hke : (k : Int) < beZ p (f : Int)) (h7 : lkZ p (k : Int) = 7) (h5 : lkZ p (endOpen p k : Int) = 5) : f < endOpen p k ∧ endOpen p k < k ∧ beZ p (endOpen p k : Int) = (k : Int) := by
  have hne : endOpen p k ≠ k := fun h => by rw [h, h7] at h5; exact absurd h5 (by decide)
  obtain ⟨h1, h2⟩ := end_open hne
  refine ⟨?_, h1, h2⟩
  generalize endOpen p k = o at *
  rcases Nat.lt_or_ge f o with h3 | h3
  · exact h3
  · exfalso
    rcases Nat.lt_or_ge o f with h8 | h8
    · have := beZ_apart p o f (by omega) h8 (by omega) h0
      omega
    · have : o = f := by omega
      subst this
      omega
/-- A line that asks has an end. -/
theorem ask_end {p : List PLine} {f k : Nat} (h0 : 0 ≤ beZ p (f : Int)) (hfk : f < k) (hke : (k : Int) < beZ p (f : Int)) (hl : k < p.length) (h : p[k].kind = 3 ∨ p[k].kind = 5) : (k : Int) < beZ p (k : Int) ∧ beZ p (k : Int) < beZ p (f : Int) :=
  beZ_in p (f : Int) k h0 (by omega) hke hl (by unfold isOp; rcases h with h | h <;> rw [h] <;> rfl)
/-- The kinds of lines within a function. -/
theorem kinds_in {p : List PLine} (ho : OkI p) {f k : Nat} (hf : f ∈ funs p) (hfk : f < k) (hke : (k : Int) < beZ p (f : Int)) (hl : k < p.length) : 1 ≤ p[k].kind ∧ p[k].kind ≤ 7 := by
  have hlb := ho.1.2 _ (List.getElem_mem hl)
  have hkd := line_kind _ hlb
  refine ⟨?_, by omega⟩
  by_cases hz : p[k].kind = 0
  · have hk := fun_in p k hl hz
    have := follow_apart p (funs p) 0 ho.2.2.1 f hf k hk hfk
    omega
  · omega

theorem tot_eval {p : List PLine} {ap : Int → Int → Int → Int} {ar : TokL → Nat} {lim : Nat} {c : List Int} {k : Nat} {L : List ByteArray} {vs : List Int} {i n1 : Nat} {s s1 : RunS} {r1 : RunRes}
    (h : runF p ap ar lim n1 (.args c k L vs (i + 1) (ar (tokAt p k i))) s = some (r1, s1))
    (hcall : ∀ ws, (tokAt p k i).kind = 7 → c.length ≠ 6 → ∃ n2 z, runF p ap ar lim n2 (.lines (c ++ [(k : Int)]) (findZ p (tokAt p k i).name).toNat (locZ p (findZ p (tokAt p k i).name)) (callVars p (findZ p (tokAt p k i).name).toNat ws) ((findZ p (tokAt p k i).name).toNat + 1)) s1 = some z) :
    ∃ n z, runF p ap ar lim n (.eval c k L vs i) s = some z := by
  cases r1 with
  | vals ws i1 =>
    by_cases hc : (tokAt p k i).kind = 7 ∧ c.length ≠ 6
    · obtain ⟨n2, z, h2⟩ := hcall ws hc.1 hc.2
      have e1 := runF_le p ap ar lim n1 (n1 + n2) (by omega) _ _ _ h
      have e2 := runF_le p ap ar lim n2 (n1 + n2) (by omega) _ _ _ h2
      refine ⟨n1 + n2 + 1, ?_⟩
      rw [runF]
      simp only [e1, onVals, Option.bind_some]
      rw [if_neg (by rw [hc.1]; decide), if_neg (by rw [hc.1]; decide), if_pos hc.1, if_neg hc.2]
      simp only [e2, onRet, Option.bind_some]
      split <;> exact ⟨_, rfl⟩
    · refine ⟨n1 + 1, ?_⟩
      rw [runF]
      simp only [h, onVals, Option.bind_some]
      split
      · exact ⟨_, rfl⟩
      · split
        · exact ⟨_, rfl⟩
        · split
          · split
            · exact ⟨_, rfl⟩
            · rename_i h7 h6; exact absurd ⟨h7, h6⟩ hc
          · exact ⟨_, rfl⟩
  | val v j => exact ⟨n1 + 1, (.val v j, s1), by rw [runF]; simp only [h, onVals, Option.bind_some]⟩
  | ret v => exact ⟨n1 + 1, (.ret v, s1), by rw [runF]; simp only [h, onVals, Option.bind_some]⟩
  | stop v => exact ⟨n1 + 1, (.stop v, s1), by rw [runF]; simp only [h, onVals, Option.bind_some]⟩
theorem tot_args {p : List PLine} {ap : Int → Int → Int → Int} {ar : TokL → Nat} {lim : Nat} {c : List Int} {k : Nat} {L : List ByteArray} {vs : List Int} (i0 : Nat)
    (he : ∀ i s, i0 < i → s.vis.length ≤ lim → ∃ n z, runF p ap ar lim n (.eval c k L vs i) s = some z) :
    ∀ (m i : Nat) (s : RunS), i0 < i → s.vis.length ≤ lim → ∃ n z, runF p ap ar lim n (.args c k L vs i m) s = some z := by
  intro m
  induction m with
  | zero => intro i s _ _; exact ⟨1, _, rfl⟩
  | succ m ih =>
    intro i s hi hs
    obtain ⟨n1, ⟨r1, s1⟩, h1⟩ := he i s hi hs
    have hf := run_fits p ap ar lim n1 _ _ _ _ h1
    cases r1 with
    | val v i1 =>
      have hi1 : i < i1 := hf
      obtain ⟨n2, z, h2⟩ := ih i1 s1 (by omega) ((runF_grown p ap ar lim n1 _ _ _ h1).2.2.1 hs)
      have e1 := runF_le p ap ar lim n1 (n1 + n2) (by omega) _ _ _ h1
      have e2 := runF_le p ap ar lim n2 (n1 + n2) (by omega) _ _ _ h2
      refine ⟨n1 + n2 + 1, ?_⟩
      rw [runF]
      simp only [e1, onVal, Option.bind_some, e2, onVals]
      split <;> exact ⟨_, rfl⟩
    | vals v j => exact hf.elim
    | ret v => exact hf.elim
    | stop v => exact ⟨n1 + 1, (.stop v, s1), by rw [runF]; simp only [h1, onVal, Option.bind_some]⟩
/-- Expressions come to their end, if the functions that they call do. -/
theorem tot_ev {p : List PLine} {ap : Int → Int → Int → Int} {ar : TokL → Nat} {lim : Nat} (har : ar ⟨0, 0, ⟨#[]⟩⟩ = 0) {c : List Int} {k : Nat} {L : List ByteArray} {vs : List Int} (hl : k < p.length)
    (hcall : ∀ (t : TokL) (ws : List Int) (s : RunS), t ∈ p[k].expr → t.kind = 7 → c.length ≠ 6 → s.vis.length ≤ lim → ∃ n z, runF p ap ar lim n (.lines (c ++ [(k : Int)]) (findZ p t.name).toNat (locZ p (findZ p t.name)) (callVars p (findZ p t.name).toNat ws) ((findZ p t.name).toNat + 1)) s = some z) :
    ∀ (m i : Nat) (s : RunS), p[k].expr.length ≤ i + m → s.vis.length ≤ lim → ∃ n z, runF p ap ar lim n (.eval c k L vs i) s = some z := by
  have hcall' : ∀ i ws (s1 : RunS), s1.vis.length ≤ lim → (tokAt p k i).kind = 7 → c.length ≠ 6 → ∃ n2 z, runF p ap ar lim n2 (.lines (c ++ [(k : Int)]) (findZ p (tokAt p k i).name).toNat (locZ p (findZ p (tokAt p k i).name)) (callVars p (findZ p (tokAt p k i).name).toNat ws) ((findZ p (tokAt p k i).name).toNat + 1)) s1 = some z :=
    fun i ws s1 hs h7 h6 => hcall _ ws s1 (tokAt_mem p k i hl h7) h7 h6 hs
  intro m
  induction m with
  | zero =>
    intro i s hi hs
    have ht : tokAt p k i = ⟨0, 0, ⟨#[]⟩⟩ := by
      unfold tokAt
      rw [List.getElem?_eq_getElem hl]
      simp only
      rw [List.getElem?_eq_none (by omega)]
      rfl
    refine tot_eval (n1 := 1) (r1 := .vals [] (i + 1)) (s1 := s) ?_ (fun ws h7 h6 => hcall' i ws s hs h7 h6)
    rw [ht, har]
    rfl
  | succ m ih =>
    intro i s hi hs
    obtain ⟨n1, ⟨r1, s1⟩, h1⟩ := tot_args (p := p) (ap := ap) (ar := ar) (lim := lim) (c := c) (k := k) (L := L) (vs := vs) i (fun i' s' hi' hs' => ih i' s' (by omega) hs') (ar (tokAt p k i)) (i + 1) s (by omega) hs
    exact tot_eval h1 (fun ws h7 h6 => hcall' i ws s1 ((runF_grown p ap ar lim n1 _ _ _ h1).2.2.1 hs) h7 h6)
/-- What a line still has ahead of it without a visit. -/
def aheadN (p : List PLine) (k : Nat) : Nat := if lkZ p (k : Int) = 4 ∨ lkZ p (k : Int) = 7 then p.length + 1 - k else 0
theorem ahead_le (p : List PLine) (k : Nat) : aheadN p k ≤ p.length + 1 := by unfold aheadN; split <;> omega
theorem tot_lines {p : List PLine} (ho : OkI p) {ap : Int → Int → Int → Int} {ar : TokL → Nat} {lim : Nat} (har : ar ⟨0, 0, ⟨#[]⟩⟩ = 0) {c : List Int} {f : Nat} {L : List ByteArray} (hf : f ∈ funs p)
    (hcall : ∀ (k : Nat) (t : TokL) (ws : List Int) (s : RunS), f < k → (k : Int) < beZ p (f : Int) → ∀ hl : k < p.length, t ∈ p[k].expr → t.kind = 7 → c.length ≠ 6 → s.vis.length ≤ lim → ∃ n z, runF p ap ar lim n (.lines (c ++ [(k : Int)]) (findZ p t.name).toNat (locZ p (findZ p t.name)) (callVars p (findZ p t.name).toNat ws) ((findZ p t.name).toNat + 1)) s = some z) :
    ∀ (M : Nat) (vs : List Int) (k : Nat) (s : RunS), (lim - s.vis.length) * (p.length + 2) + aheadN p k < M → f < k → s.vis.length ≤ lim → ∃ n z, runF p ap ar lim n (.lines c f L vs k) s = some z := by
  intro M
  induction M with
  | zero => intro vs k s h; omega
  | succ M ih =>
    intro vs k s hM hfk hs
    by_cases he : beZ p (f : Int) ≤ (k : Int)
    · exact ⟨1, _, by rw [runF, if_pos he]⟩
    have hke : (k : Int) < beZ p (f : Int) := by omega
    have h0 : 0 ≤ beZ p (f : Int) := by omega
    have hl : k < p.length := by have := (beZ_lt p (f : Int)).2; omega
    by_cases h4 : lkZ p (k : Int) = 4
    · have hj := else_jump ho hl (by rwa [lkZ_at p k hl] at h4)
      obtain ⟨n, z, hz⟩ := ih vs ((beZ p (elseOpen p k : Int)).toNat + 1) s (by
        have ha : aheadN p k = p.length + 1 - k := by unfold aheadN; rw [if_pos (.inl h4)]
        have hb : aheadN p ((beZ p (elseOpen p k : Int)).toNat + 1) ≤ p.length + 1 - ((beZ p (elseOpen p k : Int)).toNat + 1) := by unfold aheadN; split <;> omega
        omega) (by omega) hs
      exact ⟨n + 1, z, by rw [runF, if_neg he, if_pos h4]; exact hz⟩
    by_cases h7 : lkZ p (k : Int) = 7
    · have ha : aheadN p k = p.length + 1 - k := by unfold aheadN; rw [if_pos (.inr h7)]
      by_cases h5 : lkZ p (endOpen p k : Int) = 5
      · have hj := while_jump h0 hfk hke h7 h5
        obtain ⟨n, z, hz⟩ := ih vs (endOpen p k) s (by
          have hb : aheadN p (endOpen p k) = 0 := by unfold aheadN; rw [if_neg (by rw [h5]; decide)]
          omega) hj.1 hs
        exact ⟨n + 1, z, by rw [runF, if_neg he, if_neg h4, if_pos h7, if_pos h5]; exact hz⟩
      · obtain ⟨n, z, hz⟩ := ih vs (k + 1) s (by
          have hb : aheadN p (k + 1) ≤ p.length + 1 - (k + 1) := by unfold aheadN; split <;> omega
          omega) (by omega) hs
        exact ⟨n + 1, z, by rw [runF, if_neg he, if_neg h4, if_pos h7, if_neg h5]; exact hz⟩
    by_cases hv : s.vis.length = lim
    · exact ⟨1, _, by rw [runF, if_neg he, if_neg h4, if_neg h7, if_pos hv]⟩
    have hs1 : (s.vis ++ [c ++ [(k : Int)]]).length ≤ lim := by simp only [List.length_append, List.length_cons, List.length_nil]; omega
    obtain ⟨n1, ⟨r1, s1⟩, h1⟩ := tot_ev (ap := ap) (vs := vs) (L := L) har hl (fun t ws s' ht h7 h6 hs' => hcall k t ws s' hfk hke hl ht h7 h6 hs') p[k].expr.length 0 ⟨s.out, s.vis ++ [c ++ [(k : Int)]]⟩ (by omega) hs1
    have hfit := run_fits p ap ar lim n1 _ _ _ _ h1
    have hgr := runF_grown p ap ar lim n1 _ _ _ h1
    cases r1 with
    | vals v j => exact hfit.elim
    | ret v => exact hfit.elim
    | stop v => exact ⟨n1 + 1, (.stop v, s1), by rw [runF, if_neg he, if_neg h4, if_neg h7, if_neg hv]; simp only [h1, onVal, Option.bind_some]⟩
    | val v j =>
      have hlen : s.vis.length + 1 ≤ s1.vis.length := by
        have := hgr.1.length_le
        simp only [List.length_append, List.length_cons, List.length_nil] at this
        omega
      have hs2 : s1.vis.length ≤ lim := hgr.2.2.1 hs1
      have hmul : (lim - s1.vis.length) * (p.length + 2) + (p.length + 2) ≤ (lim - s.vis.length) * (p.length + 2) := by
        rw [← Nat.succ_mul]
        exact Nat.mul_le_mul_right _ (by omega)
      have hgo : ∀ (vs' : List Int) (k' : Nat) (o : List Int), f < k' → ∃ n z, runF p ap ar lim n (.lines c f L vs' k') ⟨o, s1.vis⟩ = some z := fun vs' k' o hk' => ih vs' k' ⟨o, s1.vis⟩ (by have := ahead_le p k'; simp only; omega) hk' hs2
      have hkd := kinds_in ho hf hfk hke hl
      rw [lkZ_at p k hl] at h4 h7
      have hfin : ∀ (F : Nat → RunO), (∃ n z, F n = some z) → (∀ n m z, n ≤ m → F n = some z → F m = some z) → (∀ n, n1 ≤ n → runF p ap ar lim (n + 1) (.lines c f L vs k) s = F n) → ∃ n z, runF p ap ar lim n (.lines c f L vs k) s = some z := by
        rintro F ⟨n, z, hF⟩ hm hu
        exact ⟨n1 + n + 1, z, by rw [hu (n1 + n) (by omega)]; exact hm _ _ _ (by omega) hF⟩
      have hopen : ∀ n, n1 ≤ n → runF p ap ar lim (n + 1) (.lines c f L vs k) s = if lkZ p (k : Int) = 1 then runF p ap ar lim n (.lines c f L (vs.set (varIx L (nameAt p k)) v) (k + 1)) s1
          else if lkZ p (k : Int) = 2 then runF p ap ar lim n (.lines c f L vs (k + 1)) ⟨s1.out ++ [v], s1.vis⟩
          else if lkZ p (k : Int) = 6 then some (.ret v, s1)
          else if v ≠ 0 then runF p ap ar lim n (.lines c f L vs (k + 1)) s1
          else if lkZ p (k : Int) = 3 ∧ 0 ≤ elseZ p (k : Int) then runF p ap ar lim n (.lines c f L vs ((elseZ p (k : Int)).toNat + 1)) s1
          else runF p ap ar lim n (.lines c f L vs ((beZ p (k : Int)).toNat + 1)) s1 := fun n hn => by
        have e1 := runF_le p ap ar lim n1 n hn _ _ _ h1
        rw [runF, if_neg he, if_neg (by rw [lkZ_at p k hl]; exact h4), if_neg (by rw [lkZ_at p k hl]; exact h7), if_neg hv]
        simp only [e1, onVal, Option.bind_some]
      have hmono : ∀ (j : Job) (s : RunS) n m z, n ≤ m → runF p ap ar lim n j s = some z → runF p ap ar lim m j s = some z := fun j s n m z hn h => runF_le p ap ar lim n m hn j s z h
      rw [lkZ_at p k hl] at hopen
      by_cases k1 : p[k].kind = 1
      · exact hfin _ (hgo (vs.set (varIx L (nameAt p k)) v) (k + 1) s1.out (by omega)) (hmono _ _) (fun n hn => by rw [hopen n hn, if_pos k1])
      by_cases k2 : p[k].kind = 2
      · exact hfin _ (hgo vs (k + 1) (s1.out ++ [v]) (by omega)) (hmono _ _) (fun n hn => by rw [hopen n hn, if_neg k1, if_pos k2])
      by_cases k6 : p[k].kind = 6
      · exact ⟨n1 + 1, _, by rw [hopen n1 (Nat.le_refl _), if_neg k1, if_neg k2, if_pos k6]⟩
      by_cases v0 : v ≠ 0
      · exact hfin _ (hgo vs (k + 1) s1.out (by omega)) (hmono _ _) (fun n hn => by rw [hopen n hn, if_neg k1, if_neg k2, if_neg k6, if_pos v0])
      by_cases h3 : p[k].kind = 3 ∧ 0 ≤ elseZ p (k : Int)
      · have := elseZ_gt p (k : Int) h3.2
        exact hfin _ (hgo vs ((elseZ p (k : Int)).toNat + 1) s1.out (by omega)) (hmono _ _) (fun n hn => by rw [hopen n hn, if_neg k1, if_neg k2, if_neg k6, if_neg v0, if_pos h3])
      · have := ask_end h0 hfk hke hl (by omega)
        exact hfin _ (hgo vs ((beZ p (k : Int)).toNat + 1) s1.out (by omega)) (hmono _ _) (fun n hn => by rw [hopen n hn, if_neg k1, if_neg k2, if_neg k6, if_neg v0, if_neg h3])
/-- Every run of a program that makes sense comes to its end. -/
theorem run_total {p : List PLine} (ho : OkI p) {ap : Int → Int → Int → Int} {ar : TokL → Nat} {lim : Nat} (har : ar ⟨0, 0, ⟨#[]⟩⟩ = 0) : ∀ (d : Nat) (c : List Int) (f : Nat) (L : List ByteArray) (vs : List Int) (k : Nat) (s : RunS), c.length + d = 6 → f ∈ funs p → f < k → s.vis.length ≤ lim → ∃ n z, runF p ap ar lim n (.lines c f L vs k) s = some z := by
  intro d
  induction d with
  | zero =>
    intro c f L vs k s hd hf hfk hs
    exact tot_lines ho har hf (fun k t ws s' _ _ _ _ _ h6 => absurd (by omega) h6) _ vs k s (Nat.lt_succ_self _) hfk hs
  | succ d ih =>
    intro c f L vs k s hd hf hfk hs
    refine tot_lines ho har hf (fun k t ws s' h1 h2 hl ht h7 h6 hs' => ?_) _ vs k s (Nat.lt_succ_self _) hfk hs
    have hk := (line_in ho hf h1 h2 hl _ ht).2 h7
    obtain ⟨f', hf'⟩ := Int.eq_ofNat_of_zero_le hk.1
    rw [hf', Int.toNat_natCast]
    exact ih _ _ _ _ _ _ (by simp only [List.length_append, List.length_cons, List.length_nil]; omega) (findZ_fun p _ _ hf') (Nat.lt_succ_self _) hs'
end Go.Proofs.YtcnnfhcpkbjolaaDoor

/-! Runs of programs, plain: how much is put out, how large values are, where expressions end, and which loops are around a line. Nothing of the program -/
namespace Go.Proofs.YtcnnfhcpkbjolaaDoor
open Go.RowKit Go.Lib

def Pr (Q : RunRes → RunS → Prop) (x : RunO) : Prop := ∀ r s, x = some (r, s) → Q r s
theorem pr_none {Q : RunRes → RunS → Prop} : Pr Q none := fun r s h => by cases h
theorem pr_some {Q : RunRes → RunS → Prop} {r : RunRes} {s : RunS} (h : Q r s) : Pr Q (some (r, s)) := fun r' s' h' => by
  injection h' with h'
  injection h' with h1 h2
  subst h1 h2
  exact h
theorem pr_onVal {Q1 Q : RunRes → RunS → Prop} {x : RunO} {f : Int → Nat → RunS → RunO} (hx : Pr Q1 x) (hf : ∀ v i s, Q1 (.val v i) s → Pr Q (f v i s)) (hs : ∀ r s, Q1 r s → (∀ v i, r ≠ .val v i) → Q r s) : Pr Q (onVal x f) := fun r s h => by
  unfold onVal at h
  cases hxx : x with
  | none => rw [hxx] at h; cases h
  | some y =>
    obtain ⟨r1, s1⟩ := y
    have h1 := hx _ _ hxx
    rw [hxx] at h
    simp only [Option.bind_some] at h
    cases r1 <;> simp only at h
    case val v i => exact hf v i s1 h1 r s h
    all_goals
      injection h with h
      injection h with e1 e2
      subst e1 e2
      exact hs _ _ h1 (fun v i e => by cases e)
theorem pr_onVals {Q1 Q : RunRes → RunS → Prop} {x : RunO} {f : List Int → Nat → RunS → RunO} (hx : Pr Q1 x) (hf : ∀ v i s, Q1 (.vals v i) s → Pr Q (f v i s)) (hs : ∀ r s, Q1 r s → (∀ v i, r ≠ .vals v i) → Q r s) : Pr Q (onVals x f) := fun r s h => by
  unfold onVals at h
  cases hxx : x with
  | none => rw [hxx] at h; cases h
  | some y =>
    obtain ⟨r1, s1⟩ := y
    have h1 := hx _ _ hxx
    rw [hxx] at h
    simp only [Option.bind_some] at h
    cases r1 <;> simp only at h
    case vals v i => exact hf v i s1 h1 r s h
    all_goals
      injection h with h
      injection h with e1 e2
      subst e1 e2
      exact hs _ _ h1 (fun v i e => by cases e)
theorem pr_onRet {Q1 Q : RunRes → RunS → Prop} {x : RunO} {f : Int → RunS → RunO} (hx : Pr Q1 x) (hf : ∀ v s, Q1 (.ret v) s → Pr Q (f v s)) (hs : ∀ r s, Q1 r s → (∀ v, r ≠ .ret v) → Q r s) : Pr Q (onRet x f) := fun r s h => by
  unfold onRet at h
  cases hxx : x with
  | none => rw [hxx] at h; cases h
  | some y =>
    obtain ⟨r1, s1⟩ := y
    have h1 := hx _ _ hxx
    rw [hxx] at h
    simp only [Option.bind_some] at h
    cases r1 <;> simp only at h
    case ret v => exact hf v s1 h1 r s h
    all_goals
      injection h with h
      injection h with e1 e2
      subst e1 e2
      exact hs _ _ h1 (fun v e => by cases e)
theorem pr_ite {Q : RunRes → RunS → Prop} {c : Prop} [Decidable c] {a b : RunO} (ha : c → Pr Q a) (hb : ¬ c → Pr Q b) : Pr Q (if c then a else b) := by
  by_cases hc : c
  · rw [if_pos hc]; exact ha hc
  · rw [if_neg hc]; exact hb hc
theorem pr_mono {Q1 Q : RunRes → RunS → Prop} {x : RunO} (h : Pr Q1 x) (hq : ∀ r s, Q1 r s → Q r s) : Pr Q x := fun r s e => hq r s (h r s e)

/-- Not more is put out than lines are visited. -/
def Outs (s : RunS) (_ : RunRes) (s' : RunS) : Prop := s'.out.length + s.vis.length ≤ s.out.length + s'.vis.length
theorem run_outs (p : List PLine) (ap : Int → Int → Int → Int) (ar : TokL → Nat) (lim : Nat) : ∀ (n : Nat) (j : Job) (s : RunS), Pr (Outs s) (runF p ap ar lim n j s) := by
  intro n
  induction n with
  | zero => intro j s; cases j <;> (simp only [runF]; exact pr_none)
  | succ n ih =>
    have same : ∀ {r : RunRes} {s : RunS}, Outs s r s := fun {r s} => Nat.le_refl _
    have tr : ∀ {s s1 : RunS} {r1 : RunRes} {x : RunO}, Outs s r1 s1 → Pr (Outs s1) x → Pr (Outs s) x := fun {s s1 r1 x} h1 hx => pr_mono hx (fun r s' h => by unfold Outs at *; omega)
    intro j s
    cases j with
    | args c k L vs i m =>
      cases m with
      | zero => rw [runF]; exact pr_some same
      | succ m =>
        rw [runF]
        exact pr_onVal (ih _ s) (fun v i s1 h1 => tr h1 (pr_onVals (ih _ s1) (fun ws i2 s2 h2 => tr h2 (pr_some same)) (fun _ _ h _ => h))) (fun _ _ h _ => h)
    | eval c k L vs i =>
      rw [runF]
      refine pr_onVals (ih _ s) (fun ws i1 s1 h1 => ?_) (fun _ _ h _ => h)
      exact pr_ite (fun _ => tr h1 (pr_some same)) fun _ => pr_ite (fun _ => tr h1 (pr_some same)) fun _ => pr_ite (fun _ => pr_ite (fun _ => tr h1 (pr_some same)) fun _ => tr h1 (pr_onRet (ih _ s1) (fun v s2 h2 => tr h2 (pr_some same)) (fun _ _ h _ => h))) fun _ => tr h1 (pr_some same)
    | lines c f L vs k =>
      rw [runF]
      refine pr_ite (fun _ => pr_some same) fun _ => pr_ite (fun _ => ih _ s) fun _ => pr_ite (fun _ => pr_ite (fun _ => ih _ s) fun _ => ih _ s) fun _ => pr_ite (fun _ => pr_some same) fun _ => ?_
      have hv : ∀ {r : RunRes} {s1 : RunS}, Outs ⟨s.out, s.vis ++ [c ++ [(k : Int)]]⟩ r s1 → s1.out.length + s.vis.length + 1 ≤ s.out.length + s1.vis.length := fun {r s1} h => by
        unfold Outs at h
        simp only [List.length_append, List.length_cons, List.length_nil] at h
        omega
      refine pr_onVal (ih _ ⟨s.out, s.vis ++ [c ++ [(k : Int)]]⟩) (fun v i s1 h1 => ?_) (fun r s1 h _ => by have := hv h; unfold Outs; omega)
      have h1' := hv h1
      have go : ∀ j, Pr (Outs s) (runF p ap ar lim n j s1) := fun j => pr_mono (ih j s1) (fun r s' h => by unfold Outs at *; omega)
      refine pr_ite (fun _ => go _) fun _ => pr_ite (fun _ => pr_mono (ih _ ⟨s1.out ++ [v], s1.vis⟩) (fun r s' h => ?_)) fun _ => pr_ite (fun _ => pr_some (by unfold Outs; omega)) fun _ => pr_ite (fun _ => go _) fun _ => pr_ite (fun _ => go _) fun _ => go _
      unfold Outs at *
      simp only [List.length_append, List.length_cons, List.length_nil] at h
      omega

/-- Values of 32 bits. -/
def Sm (v : Int) : Prop := -2147483648 ≤ v ∧ v ≤ 2147483647
def SmV (l : List Int) : Prop := ∀ v ∈ l, Sm v
theorem sm_zero : Sm 0 := by unfold Sm; omega
theorem SmV.nil : SmV [] := fun v h => by cases h
theorem SmV.cons {v : Int} {l : List Int} (h : Sm v) (hl : SmV l) : SmV (v :: l) := fun x hx => by
  rcases List.mem_cons.1 hx with rfl | hx
  · exact h
  · exact hl x hx
theorem SmV.app {l m : List Int} (h : SmV l) (hm : SmV m) : SmV (l ++ m) := fun x hx => by
  rcases List.mem_append.1 hx with hx | hx
  · exact h x hx
  · exact hm x hx
theorem SmV.zeros (n : Nat) : SmV (List.replicate n 0) := fun x hx => by rw [(List.mem_replicate.1 hx).2]; exact sm_zero
theorem SmV.at {l : List Int} (h : SmV l) (i : Nat) : Sm ((l[i]?).getD 0) := by
  cases hx : l[i]? with
  | none => exact sm_zero
  | some v => exact h v (List.mem_of_getElem? hx)
theorem SmV.set {l : List Int} (h : SmV l) (i : Nat) {v : Int} (hv : Sm v) : SmV (l.set i v) := fun x hx => by
  rcases List.mem_or_eq_of_mem_set hx with hx | rfl
  · exact h x hx
  · exact hv
def JSm : Job → Prop
  | .eval _ _ _ vs _ => SmV vs
  | .args _ _ _ vs _ _ => SmV vs
  | .lines _ _ _ vs _ => SmV vs
def RSm : RunRes → RunS → Prop
  | .val v _, _ => Sm v
  | .vals vs _, _ => SmV vs
  | .ret v, _ => Sm v
  | .stop _, _ => True
theorem run_small {p : List PLine} {ap : Int → Int → Int → Int} {ar : TokL → Nat} {lim : Nat} (hap : ∀ k a b, Sm (ap k a b)) (htok : ∀ k i, (tokAt p k i).kind = 0 → Sm (tokAt p k i).num) : ∀ (n : Nat) (j : Job) (s : RunS), JSm j → Pr RSm (runF p ap ar lim n j s) := by
  intro n
  induction n with
  | zero => intro j s _; cases j <;> (simp only [runF]; exact pr_none)
  | succ n ih =>
    intro j s hj
    cases j with
    | args c k L vs i m =>
      cases m with
      | zero => rw [runF]; exact pr_some SmV.nil
      | succ m =>
        rw [runF]
        exact pr_onVal (ih _ s hj) (fun v i s1 h1 => pr_onVals (ih _ s1 hj) (fun ws i2 s2 h2 => pr_some (SmV.cons h1 h2)) (fun _ _ h _ => h)) (fun _ _ h _ => h)
    | eval c k L vs i =>
      rw [runF]
      refine pr_onVals (ih _ s hj) (fun ws i1 s1 h1 => ?_) (fun _ _ h _ => h)
      exact pr_ite (fun h0 => pr_some (htok k i h0)) fun _ => pr_ite (fun _ => pr_some (SmV.at hj _)) fun _ => pr_ite (fun _ => pr_ite (fun _ => pr_some trivial) fun _ => pr_onRet (ih _ s1 (SmV.app h1 (SmV.zeros _))) (fun v s2 h2 => pr_some h2) (fun _ _ h _ => h)) fun _ => pr_some (hap _ _ _)
    | lines c f L vs k =>
      rw [runF]
      refine pr_ite (fun _ => pr_some sm_zero) fun _ => pr_ite (fun _ => ih _ s hj) fun _ => pr_ite (fun _ => pr_ite (fun _ => ih _ s hj) fun _ => ih _ s hj) fun _ => pr_ite (fun _ => pr_some trivial) fun _ => ?_
      refine pr_onVal (ih _ _ hj) (fun v i s1 h1 => ?_) (fun r s1 h _ => h)
      exact pr_ite (fun _ => ih _ _ (SmV.set hj _ h1)) fun _ => pr_ite (fun _ => ih _ _ hj) fun _ => pr_ite (fun _ => pr_some h1) fun _ => pr_ite (fun _ => ih _ _ hj) fun _ => pr_ite (fun _ => ih _ _ hj) fun _ => ih _ _ hj

/-- The expression of line k. -/
def exprAt (p : List PLine) (k : Nat) : List TokL := match p[k]? with
  | none => []
  | some x => x.expr
theorem tokAt_getD (p : List PLine) (k i : Nat) : tokAt p k i = ((exprAt p k)[i]?).getD ⟨0, 0, ⟨#[]⟩⟩ := by
  unfold tokAt exprAt
  cases p[k]? with
  | none => simp
  | some x => rfl
theorem tokAt_get (p : List PLine) (k i : Nat) (h : i < (exprAt p k).length) : tokAt p k i = (exprAt p k)[i] := by
  rw [tokAt_getD, List.getElem?_eq_getElem h]
  rfl
theorem exprAt_get (p : List PLine) (k : Nat) (h : k < p.length) : exprAt p k = p[k].expr := by unfold exprAt; rw [List.getElem?_eq_getElem h]
/-- How many operands a token has. -/
def arN (t : TokL) : Nat := (arZ t).toNat
theorem arN_zero : arN ⟨0, 0, ⟨#[]⟩⟩ = 0 := by decide
def EndsAt (p : List PLine) : Job → RunRes → RunS → Prop
  | .eval _ k _ _ i, .val _ i1, _ => ∀ q, scanN ((exprAt p k).drop i) 1 = some q → i1 = i + q
  | .args _ k _ _ i m, .vals _ i2, _ => ∀ q, scanN ((exprAt p k).drop i) m = some q → i2 = i + q
  | _, _, _ => True
theorem scan_one (l : List TokL) (i q : Nat) (h : scanN (l.drop i) 1 = some q) : ∃ hi : i < l.length, tokB l[i] = true ∧ ∃ q', q = q' + 1 ∧ scanN (l.drop (i + 1)) (arN l[i]) = some q' := by
  by_cases hi : i < l.length
  · rw [List.drop_eq_getElem_cons hi, scanN] at h
    split at h
    · rename_i hb
      refine ⟨hi, hb, ?_⟩
      rw [Nat.zero_add] at h
      simp only [Option.map_eq_some_iff] at h
      obtain ⟨q', h1, h2⟩ := h
      exact ⟨q', h2.symm, h1⟩
    · cases h
  · rw [List.drop_eq_nil_of_le (by omega)] at h
    simp [scanN] at h
theorem scan_next (l : List TokL) (i m q : Nat) (h : scanN (l.drop i) (m + 1) = some q) : ∃ q1 q2, scanN (l.drop i) 1 = some q1 ∧ scanN (l.drop (i + q1)) m = some q2 ∧ q = q1 + q2 := by
  rw [Nat.add_comm, scan_add] at h
  cases h1 : scanN (l.drop i) 1 with
  | none => rw [h1] at h; cases h
  | some q1 =>
    rw [h1] at h
    simp only [Option.bind_some, Option.map_eq_some_iff, List.drop_drop] at h
    obtain ⟨q2, h2, h3⟩ := h
    exact ⟨q1, q2, rfl, h2, by omega⟩
theorem pr_and {Q1 Q2 : RunRes → RunS → Prop} {x : RunO} (h1 : Pr Q1 x) (h2 : Pr Q2 x) : Pr (fun r s => Q1 r s ∧ Q2 r s) x := fun r s h => ⟨h1 r s h, h2 r s h⟩
theorem pr_fits {p : List PLine} {ap : Int → Int → Int → Int} {ar : TokL → Nat} {lim n : Nat} (j : Job) (s : RunS) : Pr (fun r _ => Fits j r) (runF p ap ar lim n j s) := fun r s' h => run_fits p ap ar lim n j s r s' h
theorem run_ends {p : List PLine} {ap : Int → Int → Int → Int} {lim : Nat} : ∀ (n : Nat) (j : Job) (s : RunS), Pr (EndsAt p j) (runF p ap arN lim n j s) := by
  intro n
  induction n with
  | zero => intro j s; cases j <;> (simp only [runF]; exact pr_none)
  | succ n ih =>
    intro j s
    cases j with
    | lines c f L vs k => exact fun r s' _ => by cases r <;> trivial
    | args c k L vs i m =>
      cases m with
      | zero =>
        rw [runF]
        refine pr_some (fun q h => ?_)
        cases hd : (exprAt p k).drop i <;> rw [hd] at h <;> simp [scanN] at h <;> omega
      | succ m =>
        rw [runF]
        refine pr_onVal (pr_and (ih _ s) (pr_fits _ s)) (fun v i1 s1 h1 => pr_onVals (ih _ s1) (fun ws i2 s2 h2 => pr_some (fun q h => ?_)) (fun r s2 _ hr => ?_)) (fun r s2 h hr => ?_)
        · obtain ⟨q1, q2, h3, h4, h5⟩ := scan_next _ _ _ _ h
          have e1 := h1.1 q1 h3
          rw [← e1] at h4
          have e2 := h2 q2 h4
          omega
        · cases r <;> first | trivial | exact absurd rfl (hr _ _)
        · cases r with
          | vals ws i2 => exact h.2.elim
          | _ => trivial
    | eval c k L vs i =>
      rw [runF]
      refine pr_onVals (pr_and (ih _ s) (pr_fits _ s)) (fun ws i1 s1 h1 => ?_) (fun r s2 h hr => ?_)
      · have key : ∀ v s', EndsAt p (.eval c k L vs i) (.val v i1) s' := fun v s' q h => by
          obtain ⟨hi, hb, q', hq, h3⟩ := scan_one _ _ _ h
          rw [← tokAt_get p k i hi] at h3
          have := h1.1 q' h3
          omega
        exact pr_ite (fun _ => pr_some (key _ _)) fun _ => pr_ite (fun _ => pr_some (key _ _)) fun _ => pr_ite (fun _ => pr_ite (fun _ => pr_some trivial) fun _ => pr_onRet (pr_fits _ s1) (fun v s2 _ => pr_some (key _ _)) (fun r s2 h _ => by cases r <;> first | trivial | exact h.elim)) fun _ => pr_some (key _ _)
      · cases r <;> first | trivial | exact h.2.elim | exact absurd rfl (hr _ _)

/-- The while lines around line k of function f. -/
def isWh (p : List PLine) (f k w : Nat) : Bool := decide (f < w) && (decide (w < k) && (decide (lkZ p (w : Int) = 5) && decide ((k : Int) ≤ beZ p (w : Int))))
theorem isWh_iff (p : List PLine) (f k w : Nat) : isWh p f k w = true ↔ f < w ∧ w < k ∧ lkZ p (w : Int) = 5 ∧ (k : Int) ≤ beZ p (w : Int) := by
  unfold isWh
  simp only [Bool.and_eq_true, decide_eq_true_eq]
def encl (p : List PLine) (f k : Nat) : List Nat := (List.range p.length).filter (isWh p f k)
theorem filter_push (P Q : Nat → Bool) (k : Nat) : ∀ n, k < n → (∀ w, Q w = true ↔ (P w = true ∨ w = k)) → (∀ w, P w = true → w < k) → (List.range n).filter Q = (List.range n).filter P ++ [k] := by
  intro n
  induction n with
  | zero => intro h; omega
  | succ n ih =>
    intro hk hQ hP
    rw [List.range_succ, List.filter_append, List.filter_append]
    by_cases hn : n = k
    · subst hn
      have e1 : (List.range n).filter Q = (List.range n).filter P := List.filter_congr fun w hw => by
        have hw := List.mem_range.1 hw
        have := hQ w
        rw [Bool.eq_iff_iff, this]
        constructor
        · rintro (h | h)
          · exact h
          · omega
        · exact .inl
      have e2 : Q n = true := (hQ n).2 (.inr rfl)
      have e3 : P n = false := by
        cases h : P n with
        | false => rfl
        | true => have := hP n h; omega
      rw [e1]
      simp [e2, e3]
    · have e2 : Q n = false := by
        cases h : Q n with
        | false => rfl
        | true =>
          rcases (hQ n).1 h with h' | h'
          · have := hP n h'; omega
          · exact absurd h' hn
      have e3 : P n = false := by
        cases h : P n with
        | false => rfl
        | true => have := hP n h; omega
      rw [ih (by omega) hQ hP]
      simp [e2, e3]
theorem encl_len (p : List PLine) (f k : Nat) : (encl p f k).length ≤ p.length := by
  unfold encl
  have := List.length_filter_le (isWh p f k) (List.range p.length)
  rw [List.length_range] at this
  exact this
theorem encl_mem (p : List PLine) (f k w : Nat) (h : w ∈ encl p f k) : f < w ∧ w < k ∧ lkZ p (w : Int) = 5 ∧ (k : Int) ≤ beZ p (w : Int) := (isWh_iff p f k w).1 (List.mem_filter.1 h).2
theorem encl_same (p : List PLine) (f k k' : Nat) (h : ∀ w : Nat, f < w → lkZ p (w : Int) = 5 → ((w < k ∧ (k : Int) ≤ beZ p (w : Int)) ↔ (w < k' ∧ (k' : Int) ≤ beZ p (w : Int)))) : encl p f k' = encl p f k := by
  refine List.filter_congr fun w _ => ?_
  rw [Bool.eq_iff_iff, isWh_iff, isWh_iff]
  constructor
  · rintro ⟨a, b, c, d⟩
    have := (h w a c).2 ⟨b, d⟩
    exact ⟨a, this.1, c, this.2⟩
  · rintro ⟨a, b, c, d⟩
    have := (h w a c).1 ⟨b, d⟩
    exact ⟨a, this.1, c, this.2⟩
theorem encl_push (p : List PLine) (f k : Nat) (hk : k < p.length) (hf : f < k) (h5 : lkZ p (k : Int) = 5) (he : (k : Int) < beZ p (k : Int)) (k' : Nat) (h : ∀ w : Nat, f < w → lkZ p (w : Int) = 5 → ((w < k' ∧ (k' : Int) ≤ beZ p (w : Int)) ↔ ((w < k ∧ (k : Int) ≤ beZ p (w : Int)) ∨ w = k))) : encl p f k' = encl p f k ++ [k] := by
  refine filter_push _ _ k p.length hk (fun w => ?_) (fun w hw => ((isWh_iff p f k w).1 hw).2.1)
  rw [isWh_iff, isWh_iff]
  constructor
  · rintro ⟨a, b, c, d⟩
    rcases (h w a c).1 ⟨b, d⟩ with h' | h'
    · exact .inl ⟨a, h'.1, c, h'.2⟩
    · exact .inr h'
  · rintro (⟨a, b, c, d⟩ | rfl)
    · have := (h w a c).2 (.inl ⟨b, d⟩)
      exact ⟨a, this.1, c, this.2⟩
    · have := (h w hf h5).2 (.inr rfl)
      exact ⟨hf, this.1, h5, this.2⟩
theorem encl_first (p : List PLine) (f : Nat) : encl p f (f + 1) = [] := by
  unfold encl
  rw [List.filter_eq_nil_iff]
  intro w _ h
  have := (isWh_iff p f (f + 1) w).1 h
  omega
theorem end_is7 (p : List PLine) (l : List PLine) : ∀ (o : Int) (i : Nat), p.drop i = l → 1 ≤ o → 0 ≤ endF o i l → lkZ p (endF o i l) = 7 := by
  induction l with
  | nil => intro o i _ _ h; rw [endF] at h; omega
  | cons x r ih =>
    intro o i hd ho h
    have hl : i < p.length := by
      rcases Nat.lt_or_ge i p.length with h' | h'
      · exact h'
      · rw [List.drop_eq_nil_of_le h'] at hd; cases hd
    have hx := List.drop_eq_getElem_cons hl
    rw [hd] at hx
    injection hx with hx hr
    have hc := opn_cases x.kind
    rw [endF] at h ⊢
    by_cases h0 : o + opn x.kind = 0
    · rw [if_pos h0, lkZ_at p i hl, ← hx]
      omega
    · rw [if_neg h0] at h ⊢
      exact ih _ _ hr.symm (by omega) h
theorem beZ_7 (p : List PLine) (k : Int) (h : 0 ≤ beZ p k) : lkZ p (beZ p k) = 7 := by
  obtain ⟨j, rfl, hj, hop, _, _⟩ := beZ_is p k h
  rw [beZ_at p j hj hop] at h ⊢
  exact end_is7 p _ 1 (j + 1) rfl (by decide) h
/-- The else of an if stands on the if's level. -/
theorem elseF_level (p : List PLine) (k : Int) (hk0 : 0 ≤ beZ p k) : ∀ (f i : Nat) (w : Nat), k < (i : Int) → i ≤ w → (w : Int) < elseF p (beZ p k) f i → (lkZ p (w : Int) = 3 ∨ lkZ p (w : Int) = 5) → beZ p (w : Int) < elseF p (beZ p k) f i := by
  intro f
  induction f with
  | zero => intro i w _ _ h; rw [elseF] at h; omega
  | succ f ih =>
    intro i w hki hiw h hw
    rw [elseF] at h ⊢
    by_cases hi : beZ p k ≤ (i : Int)
    · rw [if_pos hi] at h; omega
    · rw [if_neg hi] at h ⊢
      have hl := (beZ_lt p k).2
      have hil : i < p.length := by omega
      by_cases h4 : lkZ p i = 4
      · rw [if_pos h4] at h; omega
      · rw [if_neg h4] at h ⊢
        by_cases h35 : lkZ p i = 3 ∨ lkZ p i = 5
        · rw [if_pos h35] at h ⊢
          have hop : isOp p[i].kind = true := by
            rw [lkZ_at p i hil] at h35
            unfold isOp
            rcases h35 with h | h <;> rw [h] <;> rfl
          have hb := beZ_in p k i hk0 hki (by omega) hil hop
          by_cases hwi : (beZ p (i : Int)).toNat + 1 ≤ w
          · exact ih _ w (by omega) hwi h hw
          · have hge : (((beZ p (i : Int)).toNat + 1 : Nat) : Int) ≤ elseF p (beZ p k) f ((beZ p (i : Int)).toNat + 1) := by
              rcases elseF_ge p k hk0 f ((beZ p (i : Int)).toNat + 1) (by omega) with h' | h' <;> omega
            by_cases e : w = i
            · subst e; omega
            · by_cases e2 : (w : Int) = beZ p (i : Int)
              · have := beZ_7 p (i : Int) (by omega)
                rw [← e2] at this
                omega
              · have hwl : w < p.length := by omega
                have := beZ_in p (i : Int) w (by omega) (by omega) (by omega) hwl (by
                  rw [lkZ_at p w hwl] at hw
                  unfold isOp
                  rcases hw with h | h <;> rw [h] <;> rfl)
                omega
        · rw [if_neg h35] at h ⊢
          by_cases e : w = i
          · subst e; exact absurd hw h35
          · exact ih _ w (by omega) (by omega) h hw
theorem else_level {p : List PLine} {k e w : Nat} (h : elseZ p (k : Int) = (e : Int)) (h1 : k < w) (h2 : w < e) (h5 : lkZ p (w : Int) = 3 ∨ lkZ p (w : Int) = 5) : beZ p (w : Int) < (e : Int) := by
  unfold elseZ at h
  split at h
  · rename_i hc
    rw [← h]
    rw [Int.toNat_natCast] at h ⊢
    exact elseF_level p (k : Int) hc.1 p.length (k + 1) w (by omega) (by omega) (by omega) h5
  · omega
theorem elseF_4 (p : List PLine) (e : Int) : ∀ (f i : Nat), 0 ≤ elseF p e f i → lkZ p (elseF p e f i) = 4 := by
  intro f
  induction f with
  | zero => intro i h; rw [elseF] at h; omega
  | succ f ih =>
    intro i h
    rw [elseF] at h ⊢
    split at h
    · omega
    · rename_i h1
      rw [if_neg h1]
      split at h
      · rename_i h4; rw [if_pos h4]; exact h4
      · rename_i h4
        rw [if_neg h4]
        split at h
        · rename_i h35; rw [if_pos h35]; exact ih _ h
        · rename_i h35; rw [if_neg h35]; exact ih _ h
theorem elseZ_4 {p : List PLine} {k e : Nat} (h : elseZ p (k : Int) = (e : Int)) : lkZ p (e : Int) = 4 := by
  unfold elseZ at h
  split at h
  · rw [← h]
    exact elseF_4 p _ _ _ (by omega)
  · omega
section
variable {p : List PLine} {f k : Nat}
theorem wh_len {w : Nat} (h5 : lkZ p (w : Int) = 5) : ∃ hl : w < p.length, isOp p[w].kind = true := by
  by_cases hl : w < p.length
  · rw [lkZ_at p w hl] at h5
    exact ⟨hl, by rw [h5]; rfl⟩
  · exfalso
    unfold lkZ at h5
    rw [if_neg (by omega), Int.toNat_natCast, List.getElem?_eq_none (by omega)] at h5
    simp at h5
/-- A block around a line that is no end ends behind each block that begins at or behind this line, within it. -/
theorem wh_in {w o : Nat} (h5 : lkZ p (w : Int) = 5) (hw : w < o) (ho : (o : Int) < beZ p (w : Int)) (hop : 0 ≤ beZ p (o : Int)) : beZ p (o : Int) < beZ p (w : Int) := beZ_apart p w o (by omega) hw ho hop
theorem wh_ne {w : Nat} (h7 : lkZ p (k : Int) ≠ 7) (h0 : 0 ≤ beZ p (w : Int)) : beZ p (w : Int) ≠ (k : Int) := fun e => h7 (by rw [← e]; exact beZ_7 p _ h0)
/-- Behind a line that is neither a while nor an end the same loops are open. -/
theorem encl_next (h7 : lkZ p (k : Int) ≠ 7) (h5 : lkZ p (k : Int) ≠ 5) : encl p f (k + 1) = encl p f k := encl_same p f k (k + 1) fun w _ hw => by
  constructor
  · rintro ⟨a, b⟩
    have := wh_ne (w := w) h7 (by omega)
    omega
  · rintro ⟨a, b⟩
    have : w ≠ k := fun e => h5 (by rw [← e]; exact hw)
    omega
theorem encl_loop (hl : k < p.length) (hf : f < k) (h5 : lkZ p (k : Int) = 5) (he : (k : Int) < beZ p (k : Int)) : encl p f (k + 1) = encl p f k ++ [k] := encl_push p f k hl hf h5 he (k + 1) fun w _ hw => by
  have h7 : lkZ p (k : Int) ≠ 7 := by rw [h5]; decide
  constructor
  · rintro ⟨a, b⟩
    have := wh_ne (w := w) h7 (by omega)
    omega
  · rintro (⟨a, b⟩ | rfl)
    · have := wh_ne (w := w) h7 (by omega)
      omega
    · omega
/-- Behind a block's end. -/
theorem encl_skip {o : Nat} (h7 : lkZ p (k : Int) ≠ 7) (ho : o ≤ k) (he : (k : Int) ≤ beZ p (o : Int)) (hop : 0 ≤ beZ p (o : Int)) (hin : ∀ w : Nat, o < w → w < k → lkZ p (w : Int) = 5 → beZ p (w : Int) < (k : Int)) (hno : o < k → lkZ p (o : Int) ≠ 5) : encl p f ((beZ p (o : Int)).toNat + 1) = encl p f k := encl_same p f k _ fun w _ hw => by
  have hgt := beZ_gt p (o : Int) hop
  constructor
  · rintro ⟨a, b⟩
    have h1 := wh_ne (w := w) h7 (by omega)
    rcases Nat.lt_trichotomy w o with h2 | h2 | h2
    · have := wh_in hw h2 (by omega) hop; omega
    · exact absurd (h2 ▸ hw) (hno (by omega))
    · have := hin w h2 a hw; omega
  · rintro ⟨a, b⟩
    refine ⟨?_, by omega⟩
    rcases Nat.lt_or_ge w k with h2 | h2
    · exact h2
    · exfalso
      by_cases e : w = o
      · subst e; omega
      · by_cases e2 : (w : Int) = beZ p (o : Int)
        · have := beZ_7 p (o : Int) hop
          rw [← e2, hw] at this
          exact absurd this (by decide)
        · have := beZ_apart p o w hop (by omega) (by omega) (by omega)
          omega
theorem encl_ask (h7 : lkZ p (k : Int) ≠ 7) (he : 0 ≤ beZ p (k : Int)) : encl p f ((beZ p (k : Int)).toNat + 1) = encl p f k :=
  encl_skip h7 (Nat.le_refl _) (by have := beZ_gt p (k : Int) he; omega) he (fun w h1 h2 => by omega) (fun h => by omega)
theorem encl_else {o : Nat} (h4 : lkZ p (k : Int) = 4) (ho : o < k) (he : elseZ p (o : Int) = (k : Int)) (hb : (k : Int) < beZ p (o : Int)) : encl p f ((beZ p (o : Int)).toNat + 1) = encl p f k :=
  encl_skip (by rw [h4]; decide) (by omega) (by omega) (by omega) (fun w h1 h2 h5 => else_level he h1 h2 (.inr h5)) (fun _ h => by
    unfold elseZ at he
    rw [if_neg (fun hc => by rw [h] at hc; exact absurd hc.2 (by decide))] at he
    omega)
/-- Behind the else of an if that is not taken. -/
theorem encl_other {e : Nat} (h3 : lkZ p (k : Int) = 3) (he : elseZ p (k : Int) = (e : Int)) (hb : 0 ≤ beZ p (k : Int)) : encl p f (e + 1) = encl p f k := encl_same p f k _ fun w _ hw => by
  have h7 : lkZ p (k : Int) ≠ 7 := by rw [h3]; decide
  have hg := elseZ_gt p (k : Int) (by omega)
  constructor
  · rintro ⟨a, b⟩
    have h1 := wh_ne (w := w) h7 (by omega)
    have := wh_in hw a (by omega) hb
    omega
  · rintro ⟨a, b⟩
    refine ⟨?_, by omega⟩
    rcases Nat.lt_trichotomy w k with h2 | h2 | h2
    · exact h2
    · rw [h2, h3] at hw; exact absurd hw (by decide)
    · exfalso
      by_cases e2 : w = e
      · have : elseZ p (k : Int) = (w : Int) := by rw [he, e2]
        have h4 := elseZ_4 this
        rw [hw] at h4
        exact absurd h4 (by decide)
      · have := else_level he h2 (by omega) (.inr hw); omega
/-- At the end of a while this while is the last loop. -/
theorem encl_back {o : Nat} (hf : f < o) (ho : o < k) (h5 : lkZ p (o : Int) = 5) (he : beZ p (o : Int) = (k : Int)) : encl p f k = encl p f o ++ [o] := by
  obtain ⟨hl, _⟩ := wh_len h5
  refine encl_push p f o hl hf h5 (by omega) k fun w _ hw => ?_
  have h7 : lkZ p (o : Int) ≠ 7 := by rw [h5]; decide
  constructor
  · rintro ⟨a, b⟩
    rcases Nat.lt_trichotomy w o with h2 | h2 | h2
    · exact .inl ⟨h2, by omega⟩
    · exact .inr h2
    · exfalso
      have := beZ_apart p o w (by omega) h2 (by omega) (by omega)
      omega
  · rintro (⟨a, b⟩ | rfl)
    · have h1 := wh_ne (w := w) h7 (by omega)
      have := wh_in hw a (by omega) (by omega)
      omega
    · omega
/-- A while that ends at line k is the one whose end line k is. -/
theorem end_one {w : Nat} (hw : w < k) (hb : beZ p (w : Int) = (k : Int)) : endOpen p k = w := by
  have hne : endOpen p k ≠ k := fun e => by
    have := List.findIdx_eq_length.1 (show (List.range k).findIdx (fun (i : Nat) => decide (beZ p (i : Int) = (k : Int))) = (List.range k).length by rw [List.length_range]; exact e) w (by simpa using hw)
    simp only [decide_eq_false_iff_not] at this
    exact this hb
  obtain ⟨h1, h2⟩ := end_open hne
  rcases Nat.lt_trichotomy (endOpen p k) w with h | h | h
  · have := beZ_apart p (endOpen p k) w (by omega) h (by omega) (by omega); omega
  · exact h
  · have := beZ_apart p w (endOpen p k) (by omega) h (by omega) (by omega); omega
/-- At another end no loop ends. -/
theorem encl_through (h7 : lkZ p (k : Int) = 7) (h5 : lkZ p (endOpen p k : Int) ≠ 5) : encl p f (k + 1) = encl p f k := encl_same p f k (k + 1) fun w _ hw => by
  constructor
  · rintro ⟨a, b⟩
    have : beZ p (w : Int) ≠ (k : Int) := fun e => h5 (by rw [end_one a e]; exact hw)
    omega
  · rintro ⟨a, b⟩
    have : w ≠ k := fun e => by rw [e, h7] at hw; exact absurd hw (by decide)
    omega
theorem encl_not (h5 : lkZ p (endOpen p k : Int) ≠ 5) : ∀ w ∈ encl p f k, beZ p (w : Int) ≠ (k : Int) := fun w hw e => by
  obtain ⟨_, h2, h3, _⟩ := encl_mem p f k w hw
  exact h5 (by rw [end_one h2 e]; exact h3)
end
end Go.Proofs.YtcnnfhcpkbjolaaDoor

/-! Runs of programs, plain: what a run that is known says of its parts. Nothing of the program -/
namespace Go.Proofs.YtcnnfhcpkbjolaaDoor
open Go.RowKit Go.Lib

/-- Values in front of a result. -/
def pre (acc : List Int) : RunRes → RunRes
  | .vals ws i => .vals (acc ++ ws) i
  | r => r
section
variable {p : List PLine} {ap : Int → Int → Int → Int} {ar : TokL → Nat} {lim n : Nat} {c : List Int} {f k i m : Nat} {L : List ByteArray} {vs : List Int} {s : RunS} {z : RunRes × RunS}
theorem no_fuel {j : Job} (h : runF p ap ar lim 0 j s = some z) : False := by cases j <;> simp [runF] at h
theorem args_done (h : runF p ap ar lim n (.args c k L vs i 0) s = some z) : z = (.vals [] i, s) := by
  cases n with
  | zero => exact (no_fuel h).elim
  | succ n => rw [runF] at h; injection h with h; exact h.symm
theorem args_inv (h : runF p ap ar lim (n + 1) (.args c k L vs i (m + 1)) s = some z) : ∃ r1 s1, runF p ap ar lim n (.eval c k L vs i) s = some (r1, s1) ∧ ((∃ q, r1 = .stop q ∧ z = (.stop q, s1)) ∨ ∃ v i1, r1 = .val v i1 ∧ ∃ r2 s2, runF p ap ar lim n (.args c k L vs i1 m) s1 = some (r2, s2) ∧ z = (pre [v] r2, s2)) := by
  rw [runF] at h
  unfold onVal at h
  cases e1 : runF p ap ar lim n (.eval c k L vs i) s with
  | none => rw [e1] at h; cases h
  | some y =>
    obtain ⟨r1, s1⟩ := y
    have hf := run_fits p ap ar lim n _ _ _ _ e1
    rw [e1] at h
    simp only [Option.bind_some] at h
    refine ⟨r1, s1, rfl, ?_⟩
    cases r1 <;> simp only at h
    case stop q => exact .inl ⟨q, rfl, by injection h with h; exact h.symm⟩
    case val v i1 =>
      refine .inr ⟨v, i1, rfl, ?_⟩
      unfold onVals at h
      cases e2 : runF p ap ar lim n (.args c k L vs i1 m) s1 with
      | none => rw [e2] at h; cases h
      | some y =>
        obtain ⟨r2, s2⟩ := y
        have hf2 := run_fits p ap ar lim n _ _ _ _ e2
        rw [e2] at h
        simp only [Option.bind_some] at h
        refine ⟨r2, s2, rfl, ?_⟩
        cases r2 <;> simp only at h
        case vals ws i2 => injection h with h; exact h.symm
        case stop q => injection h with h; exact h.symm
        all_goals exact hf2.elim
    all_goals exact hf.elim
theorem pre_pre (a b : List Int) (r : RunRes) : pre a (pre b r) = pre (a ++ b) r := by cases r <;> simp [pre]
theorem pre_nil (r : RunRes) : pre [] r = r := by cases r <;> simp [pre]
/-- An expression, in its cases. -/
theorem eval_inv (h : runF p ap ar lim (n + 1) (.eval c k L vs i) s = some z) : ∃ r1 s1, runF p ap ar lim n (.args c k L vs (i + 1) (ar (tokAt p k i))) s = some (r1, s1) ∧ ((∃ q, r1 = .stop q ∧ z = (.stop q, s1)) ∨ ∃ ws i1, r1 = .vals ws i1 ∧ ws.length = ar (tokAt p k i) ∧ i < i1 ∧
    (((tokAt p k i).kind = 0 → z = (.val (tokAt p k i).num i1, s1)) ∧ ((tokAt p k i).kind = 1 → z = (.val ((vs[varIx L (tokAt p k i).name]?).getD 0) i1, s1)) ∧ ((tokAt p k i).kind = 7 → c.length = 6 → z = (.stop 2, s1)) ∧
      ((tokAt p k i).kind = 7 → c.length ≠ 6 → ∃ r2 s2, runF p ap ar lim n (.lines (c ++ [(k : Int)]) (findZ p (tokAt p k i).name).toNat (locZ p (findZ p (tokAt p k i).name)) (callVars p (findZ p (tokAt p k i).name).toNat ws) ((findZ p (tokAt p k i).name).toNat + 1)) s1 = some (r2, s2) ∧ ((∃ q, r2 = .stop q ∧ z = (.stop q, s2)) ∨ ∃ v, r2 = .ret v ∧ z = (.val v i1, s2))) ∧
      ((tokAt p k i).kind ≠ 0 → (tokAt p k i).kind ≠ 1 → (tokAt p k i).kind ≠ 7 → z = (.val (ap (tokAt p k i).kind ((ws[0]?).getD 0) ((ws[1]?).getD 0)) i1, s1)))) := by
  rw [runF] at h
  unfold onVals at h
  cases e1 : runF p ap ar lim n (.args c k L vs (i + 1) (ar (tokAt p k i))) s with
  | none => rw [e1] at h; cases h
  | some y =>
    obtain ⟨r1, s1⟩ := y
    have hf := run_fits p ap ar lim n _ _ _ _ e1
    rw [e1] at h
    simp only [Option.bind_some] at h
    refine ⟨r1, s1, rfl, ?_⟩
    cases r1 <;> simp only at h
    case stop q => exact .inl ⟨q, rfl, by injection h with h; exact h.symm⟩
    case vals ws i1 =>
      refine .inr ⟨ws, i1, rfl, hf.2, hf.1, ?_⟩
      generalize tokAt p k i = t at *
      have out : ∀ {a b : RunRes × RunS}, some a = some b → b = a := fun h => by injection h with h; exact h.symm
      refine ⟨fun h0 => ?_, fun h1 => ?_, fun h7 h6 => ?_, fun h7 h6 => ?_, fun h0 h1 h7 => ?_⟩
      · rw [if_pos h0] at h; exact out h
      · rw [if_neg (by rw [h1]; decide), if_pos h1] at h; exact out h
      · rw [if_neg (by rw [h7]; decide), if_neg (by rw [h7]; decide), if_pos h7, if_pos h6] at h; exact out h
      · rw [if_neg (by rw [h7]; decide), if_neg (by rw [h7]; decide), if_pos h7, if_neg h6] at h
        unfold onRet at h
        cases e2 : runF p ap ar lim n (.lines (c ++ [(k : Int)]) (findZ p t.name).toNat (locZ p (findZ p t.name)) (callVars p (findZ p t.name).toNat ws) ((findZ p t.name).toNat + 1)) s1 with
        | none => rw [e2] at h; cases h
        | some y =>
          obtain ⟨r2, s2⟩ := y
          have hf2 := run_fits p ap ar lim n _ _ _ _ e2
          rw [e2] at h
          simp only [Option.bind_some] at h
          refine ⟨r2, s2, rfl, ?_⟩
          cases r2 <;> simp only at h
          case stop q => exact .inl ⟨q, rfl, out h⟩
          case ret v => exact .inr ⟨v, rfl, out h⟩
          all_goals exact hf2.elim
      · rw [if_neg h0, if_neg h1, if_neg h7] at h; exact out h
    all_goals exact hf.elim
/-- A line, in its cases. -/
def AfterL (p : List PLine) (ap : Int → Int → Int → Int) (ar : TokL → Nat) (lim n : Nat) (c : List Int) (f : Nat) (L : List ByteArray) (vs : List Int) (k : Nat) (v : Int) (s1 : RunS) (z : RunRes × RunS) : Prop :=
  (lkZ p (k : Int) = 1 → runF p ap ar lim n (.lines c f L (vs.set (varIx L (nameAt p k)) v) (k + 1)) s1 = some z) ∧ (lkZ p (k : Int) = 2 → runF p ap ar lim n (.lines c f L vs (k + 1)) ⟨s1.out ++ [v], s1.vis⟩ = some z) ∧ (lkZ p (k : Int) = 6 → z = (.ret v, s1)) ∧
  (lkZ p (k : Int) = 3 ∨ lkZ p (k : Int) = 5 → v ≠ 0 → runF p ap ar lim n (.lines c f L vs (k + 1)) s1 = some z) ∧ (lkZ p (k : Int) = 3 → v = 0 → 0 ≤ elseZ p (k : Int) → runF p ap ar lim n (.lines c f L vs ((elseZ p (k : Int)).toNat + 1)) s1 = some z) ∧
  (lkZ p (k : Int) = 3 → v = 0 → ¬ 0 ≤ elseZ p (k : Int) → runF p ap ar lim n (.lines c f L vs ((beZ p (k : Int)).toNat + 1)) s1 = some z) ∧ (lkZ p (k : Int) = 5 → v = 0 → runF p ap ar lim n (.lines c f L vs ((beZ p (k : Int)).toNat + 1)) s1 = some z)
theorem lines_over (h : runF p ap ar lim n (.lines c f L vs k) s = some z) (he : beZ p (f : Int) ≤ (k : Int)) : z = (.ret 0, s) := by
  cases n with
  | zero => exact (no_fuel h).elim
  | succ n => rw [runF, if_pos he] at h; injection h with h; exact h.symm
theorem lines_else (h : runF p ap ar lim (n + 1) (.lines c f L vs k) s = some z) (he : ¬ beZ p (f : Int) ≤ (k : Int)) (h4 : lkZ p (k : Int) = 4) : runF p ap ar lim n (.lines c f L vs ((beZ p (elseOpen p k : Int)).toNat + 1)) s = some z := by
  rw [runF, if_neg he, if_pos h4] at h; exact h
theorem lines_back (h : runF p ap ar lim (n + 1) (.lines c f L vs k) s = some z) (he : ¬ beZ p (f : Int) ≤ (k : Int)) (h7 : lkZ p (k : Int) = 7) (h5 : lkZ p (endOpen p k : Int) = 5) : runF p ap ar lim n (.lines c f L vs (endOpen p k)) s = some z := by
  rw [runF, if_neg he, if_neg (by rw [h7]; decide), if_pos h7, if_pos h5] at h; exact h
theorem lines_on (h : runF p ap ar lim (n + 1) (.lines c f L vs k) s = some z) (he : ¬ beZ p (f : Int) ≤ (k : Int)) (h7 : lkZ p (k : Int) = 7) (h5 : lkZ p (endOpen p k : Int) ≠ 5) : runF p ap ar lim n (.lines c f L vs (k + 1)) s = some z := by
  rw [runF, if_neg he, if_neg (by rw [h7]; decide), if_pos h7, if_neg h5] at h; exact h
theorem lines_full (h : runF p ap ar lim (n + 1) (.lines c f L vs k) s = some z) (he : ¬ beZ p (f : Int) ≤ (k : Int)) (h4 : lkZ p (k : Int) ≠ 4) (h7 : lkZ p (k : Int) ≠ 7) (hv : s.vis.length = lim) : z = (.stop 1, s) := by
  rw [runF, if_neg he, if_neg h4, if_neg h7, if_pos hv] at h; injection h with h; exact h.symm
theorem lines_visit (h : runF p ap ar lim (n + 1) (.lines c f L vs k) s = some z) (he : ¬ beZ p (f : Int) ≤ (k : Int)) (h4 : lkZ p (k : Int) ≠ 4) (h7 : lkZ p (k : Int) ≠ 7) (hv : s.vis.length ≠ lim) :
    ∃ r1 s1, runF p ap ar lim n (.eval c k L vs 0) ⟨s.out, s.vis ++ [c ++ [(k : Int)]]⟩ = some (r1, s1) ∧ ((∃ q, r1 = .stop q ∧ z = (.stop q, s1)) ∨ ∃ v i1, r1 = .val v i1 ∧ AfterL p ap ar lim n c f L vs k v s1 z) := by
  rw [runF, if_neg he, if_neg h4, if_neg h7, if_neg hv] at h
  unfold onVal at h
  cases e1 : runF p ap ar lim n (.eval c k L vs 0) ⟨s.out, s.vis ++ [c ++ [(k : Int)]]⟩ with
  | none => rw [e1] at h; cases h
  | some y =>
    obtain ⟨r1, s1⟩ := y
    have hf := run_fits p ap ar lim n _ _ _ _ e1
    rw [e1] at h
    simp only [Option.bind_some] at h
    refine ⟨r1, s1, rfl, ?_⟩
    cases r1 <;> simp only at h
    case stop q => exact .inl ⟨q, rfl, by injection h with h; exact h.symm⟩
    case val v i1 =>
      refine .inr ⟨v, i1, rfl, ?_⟩
      unfold AfterL
      generalize lkZ p (k : Int) = kd at *
      refine ⟨fun e => ?_, fun e => ?_, fun e => ?_, fun e e2 => ?_, fun e e2 e3 => ?_, fun e e2 e3 => ?_, fun e e2 => ?_⟩
      · rw [if_pos e] at h; exact h
      · rw [if_neg (by rw [e]; decide), if_pos e] at h; exact h
      · rw [if_neg (by rw [e]; decide), if_neg (by rw [e]; decide), if_pos e] at h; injection h with h; exact h.symm
      · rw [if_neg (by omega), if_neg (by omega), if_neg (by omega), if_pos e2] at h; exact h
      · rw [if_neg (by omega), if_neg (by omega), if_neg (by omega), if_neg (by simpa using e2), if_pos ⟨e, e3⟩] at h; exact h
      · rw [if_neg (by omega), if_neg (by omega), if_neg (by omega), if_neg (by simpa using e2), if_neg (fun hc => e3 hc.2)] at h; exact h
      · rw [if_neg (by omega), if_neg (by omega), if_neg (by omega), if_neg (by simpa using e2), if_neg (fun hc => by rw [e] at hc; exact absurd hc.1 (by decide))] at h; exact h
    all_goals exact hf.elim
end
end Go.Proofs.YtcnnfhcpkbjolaaDoor

/-! Runs of programs, plain: the variables of a function, by place and by name. Nothing of the program -/
namespace Go.Proofs.YtcnnfhcpkbjolaaDoor
open Go.RowKit Go.Lib

theorem locF_pre (l : List PLine) : ∀ v, v <+: locF v l := by
  induction l with
  | nil => intro v; exact List.prefix_refl _
  | cons x r ih =>
    intro v
    unfold locF
    split
    · exact (List.prefix_append v [x.name]).trans (ih _)
    · exact ih v
theorem memB_mem (v : List ByteArray) (n : ByteArray) (h : memB v n = true) : n ∈ v := by
  unfold memB at h
  simpa using h
theorem locF_set (l : List PLine) : ∀ v, ∀ x ∈ l, x.kind = 1 → x.name ∈ locF v l := by
  induction l with
  | nil => intro v x h; cases h
  | cons y r ih =>
    intro v x hx h1
    unfold locF
    rcases List.mem_cons.1 hx with rfl | hx
    · by_cases hm : memB v x.name = false
      · rw [if_pos ⟨h1, hm⟩]
        exact (locF_pre r _).subset (by simp)
      · rw [if_neg (fun h => hm h.2)]
        exact (locF_pre r _).subset (memB_mem v _ (by simpa using hm))
    · split
      · exact ih _ x hx h1
      · exact ih _ x hx h1
section
variable {p : List PLine} (ho : OkI p) {f : Nat} (hf : f ∈ funs p)
include ho hf
theorem fun_parts : ∃ hl : f < p.length, p[f].kind = 0 ∧ (f : Int) < beZ p (f : Int) ∧ beZ p (f : Int) < (p.length : Int) ∧ locZ p (f : Int) = locF p[f].args (segZ p f (beZ p (f : Int)).toNat) := by
  obtain ⟨hl, h0⟩ := funs_at p f hf
  have hb : 0 ≤ beZ p (f : Int) := by
    have key : ∀ (l : List Nat) (n : Int), followF p n l → f ∈ l → 0 ≤ beZ p (f : Int) := by
      intro l
      induction l with
      | nil => intro n _ h; cases h
      | cons x r ih =>
        intro n h hm
        rcases List.mem_cons.1 hm with e | hm
        · rw [e]; exact h.2.1
        · exact ih _ h.2.2 hm
    exact key _ _ ho.2.2.1 hf
  refine ⟨hl, h0, beZ_gt p _ hb, (beZ_lt p _).2, ?_⟩
  unfold locZ argsZ segZ
  rw [if_pos ⟨hb, by rw [lkZ_at p f hl]; exact h0⟩, if_neg (by omega), Int.toNat_natCast, List.getElem?_eq_getElem hl]
theorem loc_args : ∃ hl : f < p.length, argsZ p (f : Int) = p[f].args ∧ p[f].args <+: locZ p (f : Int) ∧ p[f].args.length ≤ 4 ∧ p[f].args.Nodup := by
  obtain ⟨hl, h0, _, _, hloc⟩ := fun_parts ho hf
  refine ⟨hl, ?_, by rw [hloc]; exact locF_pre _ _, ?_⟩
  · unfold argsZ
    rw [if_neg (by omega), Int.toNat_natCast, List.getElem?_eq_getElem hl]
  · have h := ((lineB_iff _).1 (ho.1.2 _ (List.getElem_mem hl))).2.2.1
    have h2 := af_small _ _ h
    exact ⟨h2.1, ((diffB_iff _).1 h2.2).2⟩
theorem loc_len : (locZ p (f : Int)).length ≤ 8 := (ho.2.2.2.2.2 f hf).1
/-- A variable that is set in a function is one of its variables. -/
theorem loc_set {k : Nat} (h1 : f < k) (h2 : (k : Int) < beZ p (f : Int)) (hl : k < p.length) (hk : p[k].kind = 1) : p[k].name ∈ locZ p (f : Int) := by
  obtain ⟨_, _, _, _, hloc⟩ := fun_parts ho hf
  rw [hloc]
  refine locF_set _ _ _ ?_ hk
  unfold segZ
  rw [List.mem_iff_getElem?]
  refine ⟨k - f, ?_⟩
  rw [List.getElem?_take, if_pos (by omega), List.getElem?_drop, show f + (k - f) = k from by omega, List.getElem?_eq_getElem hl]
end
theorem var_at (L : List ByteArray) (n : ByteArray) (h : n ∈ L) : ∃ hl : varIx L n < L.length, L[varIx L n] = n := by
  have hlt : varIx L n < L.length := List.findIdx_lt_length_of_exists ⟨n, h, by simp⟩
  exact ⟨hlt, of_decide_eq_true (List.findIdx_getElem (w := hlt))⟩
theorem var_out (L : List ByteArray) (n : ByteArray) (h : n ∉ L) : varIx L n = L.length := by
  unfold varIx
  exact List.findIdx_eq_length.2 (fun x hx => decide_eq_false (fun e => h (e ▸ hx)))
/-- The value of a variable. -/
def valOf (L : List ByteArray) (vs : List Int) (n : ByteArray) : Int := (vs[varIx L n]?).getD 0
theorem valOf_set (L : List ByteArray) (vs : List Int) (n m : ByteArray) (v : Int) (hn : n ∈ L) (hl : vs.length = L.length) : valOf L (vs.set (varIx L n) v) m = if m = n then v else valOf L vs m := by
  obtain ⟨h1, h2⟩ := var_at L n hn
  unfold valOf
  by_cases e : m = n
  · subst e
    rw [if_pos rfl, List.getElem?_set_self (by omega)]
    rfl
  · rw [if_neg e, List.getElem?_set_ne]
    intro h
    by_cases hm : m ∈ L
    · obtain ⟨h3, h4⟩ := var_at L m hm
      apply e
      rw [← h2, ← h4]
      simp only [h]
    · rw [var_out L m hm] at h
      omega
theorem callVars_length {p : List PLine} {f : Nat} {ws : List Int} (h : ws.length ≤ (locZ p (f : Int)).length) : (callVars p f ws).length = (locZ p (f : Int)).length := by
  unfold callVars
  rw [List.length_append, List.length_replicate]
  omega
/-- Each line lies in a function. -/
theorem follow_around (p : List PLine) (l : List Nat) : ∀ n : Int, followF p n l → ∀ o : Nat, n ≤ (o : Int) → o < p.length → ∃ g ∈ l, g ≤ o ∧ (o : Int) ≤ beZ p (g : Int) := by
  induction l with
  | nil => intro n h o h1 h2; have : n = (p.length : Int) := h; omega
  | cons x r ih =>
    intro n h o h1 h2
    obtain ⟨hx, hb, hr⟩ := h
    by_cases ho : (o : Int) ≤ beZ p (x : Int)
    · exact ⟨x, List.mem_cons_self .., by omega, ho⟩
    · obtain ⟨g, hg, h3⟩ := ih _ hr o (by omega) h2
      exact ⟨g, List.mem_cons_of_mem _ hg, h3⟩
/-- The if of an else lies in the else's function. -/
theorem else_in {p : List PLine} (ho : OkI p) {f k : Nat} (hf : f ∈ funs p) (h1 : f < k) (h2 : (k : Int) < beZ p (f : Int)) (hl : k < p.length) (h4 : p[k].kind = 4) : f < elseOpen p k := by
  obtain ⟨j1, j2, j3⟩ := else_jump ho hl h4
  generalize elseOpen p k = o at *
  have h3 : lkZ p (o : Int) = 3 := by
    unfold elseZ at j2
    split at j2
    · rename_i hc; exact hc.2
    · omega
  have hob : 0 ≤ beZ p (o : Int) := by omega
  obtain ⟨g, hg, hgo, hob2⟩ := follow_around p (funs p) 0 ho.2.2.1 o (by omega) (by omega)
  obtain ⟨hgl, hg0⟩ := funs_at p g hg
  have hne : g ≠ o := fun e => by
    subst e
    rw [lkZ_at p g hgl, hg0] at h3
    exact absurd h3 (by decide)
  have hne2 : (o : Int) ≠ beZ p (g : Int) := fun e => by
    have := beZ_7 p (g : Int) (by omega)
    rw [← e, h3] at this
    exact absurd this (by decide)
  rcases Nat.lt_trichotomy g f with h | h | h
  · have a1 := follow_apart p (funs p) 0 ho.2.2.1 g hg f hf h
    have a2 := beZ_apart p g o (by omega) (by omega) (by omega) hob
    omega
  · omega
  · have := follow_apart p (funs p) 0 ho.2.2.1 f hf g hg h
    omega
theorem varIx_app (A R : List ByteArray) (n : ByteArray) : varIx (A ++ R) n = if varIx A n < A.length then varIx A n else varIx R n + A.length := by
  unfold varIx
  exact List.findIdx_append
theorem valOf_snoc (A : List ByteArray) (ws : List Int) (a n : ByteArray) (x : Int) (ha : a ∉ A) (hl : ws.length = A.length) : valOf (A ++ [a]) (ws ++ [x]) n = if n = a then x else valOf A ws n := by
  unfold valOf
  rw [varIx_app]
  by_cases hn : n ∈ A
  · obtain ⟨h1, _⟩ := var_at A n hn
    have hne : n ≠ a := fun e => ha (e ▸ hn)
    rw [if_pos h1, if_neg hne, List.getElem?_append_left (by omega)]
  · have h1 := var_out A n hn
    rw [if_neg (by omega)]
    by_cases e : n = a
    · subst e
      have h2 : varIx [n] n = 0 := by simp [varIx]
      rw [if_pos rfl, h2, List.getElem?_append_right (by omega), hl]
      simp
    · have h2 : varIx [a] n = 1 := by
        have : a ≠ n := fun h => e h.symm
        simp [varIx, List.findIdx_cons, this]
      rw [if_neg e, h2, h1, List.getElem?_eq_none (by simp; omega), List.getElem?_eq_none (by omega)]
theorem valOf_call (A R : List ByteArray) (ws : List Int) (k : Nat) (n : ByteArray) (hl : ws.length = A.length) : valOf (A ++ R) (ws ++ List.replicate k 0) n = valOf A ws n := by
  unfold valOf
  rw [varIx_app]
  by_cases hn : n ∈ A
  · obtain ⟨h1, _⟩ := var_at A n hn
    rw [if_pos h1, List.getElem?_append_left (by omega)]
  · have h1 := var_out A n hn
    rw [if_neg (by omega), h1, List.getElem?_append_right (by omega), List.getElem?_eq_none (show ws.length ≤ A.length by omega)]
    rcases hz : (List.replicate k (0 : Int))[varIx R n + A.length - ws.length]? with _ | v
    · rfl
    · have := List.mem_of_getElem? hz
      rw [(List.mem_replicate.1 this).2]
      rfl
end Go.Proofs.YtcnnfhcpkbjolaaDoor

/-! Rows of numbers, in rows of their own, within a row: what a call has made, and their marks. Nothing of the program -/
namespace Go.Proofs.YtcnnfhcpkbjolaaDoor
open Go.RowKit Go.Lib

/-- A row of numbers, and the slice value that stands for it. -/
structure IvL where
  xs : List Int
  v : Value
def ivV (X : List IvL) : List Value := X.map (·.v)
def ivX (X : List IvL) : List (List Int) := X.map (·.xs)
theorem ivV_length (X : List IvL) : (ivV X).length = X.length := by simp [ivV]
theorem ivX_length (X : List IvL) : (ivX X).length = X.length := by simp [ivX]
theorem ivV_append (X Y : List IvL) : ivV (X ++ Y) = ivV X ++ ivV Y := by simp [ivV]
theorem ivX_append (X Y : List IvL) : ivX (X ++ Y) = ivX X ++ ivX Y := by simp [ivX]
theorem ivV_get (X : List IvL) (j : Nat) (h : j < X.length) : (ivV X)[j]? = some X[j].v := by simp [ivV, h]
theorem ivX_get (X : List IvL) (j : Nat) (h : j < X.length) : (ivX X)[j]? = some X[j].xs := by simp [ivX, h]
theorem owns_iv {B e m : Nat} {w : World} {v : Value} {xs : List Value} {X : List IvL} (h : w.ownsRow B e 1 v m xs) (hl : ivV X = xs) : w.ownsRow B e 1 v X.length (ivV X) := by
  have hm : m = X.length := by have := h.1; rw [← hl, ivV_length] at this; omega
  rw [← hm, hl]; exact h
/-- Each in a row of its own, from B on, a later one behind an earlier one. -/
def MadeI (TI B : Nat) (w : World) (X : List IvL) : Prop :=
  (∀ x ∈ X, w.ownsRow B TI 1 x.v x.xs.length (intV x.xs)) ∧ X.Pairwise fun x y => ∀ g h, x.v.ownBlock = some g → y.v.ownBlock = some h → g < h
theorem MadeI.nil (TI B : Nat) (w : World) : MadeI TI B w [] := ⟨fun _ h => by simp at h, List.Pairwise.nil⟩
theorem MadeI.below {TI B : Nat} {w w' : World} {X : List IvL} (h : MadeI TI B w X) (hb : Below w.heap.size w w') : MadeI TI B w' X := ⟨fun x hx => owns_below (h.1 x hx) hb, h.2⟩
theorem MadeI.lt {TI B : Nat} {w : World} {X : List IvL} (h : MadeI TI B w X) (x : IvL) (hx : x ∈ X) (g : Nat) (hg : x.v.ownBlock = some g) : B ≤ g ∧ g < w.heap.size := (h.1 x hx).lt g hg
theorem MadeI.kept {TI B : Nat} {w w' : World} {X : List IvL} {r : Option Nat} (h : MadeI TI B w X) (hg : w.grownBy w' r) (hr : ∀ x ∈ X, ∀ g, x.v.ownBlock = some g → r ≠ some g) : MadeI TI B w' X :=
  ⟨fun x hx => far (h.1 x hx) hg (hr x hx), h.2⟩
theorem MadeI.snoc {TI B B' : Nat} {w w' : World} {X : List IvL} {x : IvL} (h : MadeI TI B w X) (hb : Below w.heap.size w w') (hx : w'.ownsRow B' TI 1 x.v x.xs.length (intV x.xs)) (hB : B ≤ B') (hw : w.heap.size ≤ B') : MadeI TI B w' (X ++ [x]) := by
  refine ⟨fun y hy => ?_, List.pairwise_append.2 ⟨h.2, List.pairwise_singleton _ _, fun y hy z hz g k hg hk => ?_⟩⟩
  · rcases List.mem_append.1 hy with hy | hy
    · exact (h.below hb).1 y hy
    · obtain rfl : y = x := by simpa using hy
      exact owns_lo hx hB
  · obtain rfl : z = x := by simpa using hz
    have h1 := (h.lt y hy g hg).2
    have := (hx.lt k hk).1
    omega
/-- One of them was written; the others are as they were. -/
theorem MadeI.put {TI B : Nat} {w w' : World} {A R : List IvL} {x : IvL} {ys : List Int} (h : MadeI TI B w (A ++ x :: R)) (hg : w.grownBy w' x.v.ownBlock) (h1 : w'.ownsRow B TI 1 x.v ys.length (intV ys)) : MadeI TI B w' (A ++ ⟨ys, x.v⟩ :: R) := by
  obtain ⟨hA, hxR, hc⟩ := List.pairwise_append.1 h.2
  obtain ⟨hx, hR⟩ := List.pairwise_cons.1 hxR
  refine ⟨fun y hy => ?_, List.pairwise_append.2 ⟨hA, List.pairwise_cons.2 ⟨fun y hy g k hg hk => hx y hy g k hg hk, hR⟩, fun a ha y hy g k hg hk => ?_⟩⟩
  · rcases List.mem_append.1 hy with hy | hy
    · exact far (h.1 y (List.mem_append_left _ hy)) hg (fun g e e' => by have := hc y hy x (List.mem_cons_self ..) g g e e'; omega)
    · rcases List.mem_cons.1 hy with rfl | hy
      · exact h1
      · exact far (h.1 y (List.mem_append_right _ (List.mem_cons_of_mem _ hy))) hg (fun g e e' => by have := hx y hy g g e' e; omega)
  · rcases List.mem_cons.1 hy with rfl | hy
    · exact hc a ha x (List.mem_cons_self ..) g k hg hk
    · exact hc a ha y (List.mem_cons_of_mem _ hy) g k hg hk
/-- The number behind the marks of such rows; the rows with their marks. -/
def miN (m : Nat) (X : List IvL) : Nat := X.foldl (fun a x => a + x.xs.length) m
def miX : Nat → List IvL → List IvL
  | _, [] => []
  | m, x :: r => ⟨mki m x.xs.length, x.v⟩ :: miX (m + x.xs.length) r
theorem miN_snoc (m : Nat) (X : List IvL) (x : IvL) : miN m (X ++ [x]) = miN m X + x.xs.length := by simp [miN]
theorem miX_snoc (X : List IvL) : ∀ m x, miX m (X ++ [x]) = miX m X ++ [⟨mki (miN m X) x.xs.length, x.v⟩] := by
  induction X with
  | nil => intro m x; rfl
  | cons y r ih => intro m x; simp only [List.cons_append, miX, ih]; rfl
theorem miX_length (X : List IvL) : ∀ m, (miX m X).length = X.length := by
  induction X with
  | nil => intro m; rfl
  | cons y r ih => intro m; simp [miX, ih]
theorem miX_step (m : Nat) (A R : List IvL) (x : IvL) : miX m (A ++ [x]) ++ R = miX m A ++ ⟨mki (miN m A) x.xs.length, x.v⟩ :: R := by
  rw [miX_snoc, List.append_assoc]
  rfl
theorem miV (X : List IvL) : ∀ m, ivV (miX m X) = ivV X := by
  induction X with
  | nil => intro m; rfl
  | cons y r ih =>
    intro m
    have := ih (m + y.xs.length)
    simp only [ivV] at this ⊢
    simp only [miX, List.map_cons, this]
end Go.Proofs.YtcnnfhcpkbjolaaDoor

/-! Where a run is kept in memory, and what a step of it may have turned. Nothing of the program -/
namespace Go.Proofs.YtcnnfhcpkbjolaaDoor
open Go.RowKit Go.Lib

/-- Two values are not rows in one block. -/
def Ap (u v : Value) : Prop := ∀ g, u.ownBlock = some g → v.ownBlock ≠ some g
theorem Ap.symm {u v : Value} (h : Ap u v) : Ap v u := fun g hv hu => h g hu hv
theorem Ap.none {v : Value} {n c : Nat} : Ap (.slice none n c) v := fun g h => by cases h
def Off (v : Value) (M : List Value) : Prop := ∀ u ∈ M, Ap v u
/-- Only the run's own blocks have turned: rb, and the rows M, which are M' behind; new ones have come. -/
structure Step (rb : Nat) (M M' : List Value) (w w' : World) : Prop where
  os : w'.os = w.os
  tape : w'.tape = w.tape
  output : w'.output = w.output
  size : w.heap.size ≤ w'.heap.size
  block : ∀ k, k < w.heap.size → k ≠ rb → (∀ v ∈ M, v.ownBlock ≠ some k) → w'.heap[k]? = w.heap[k]?
  rows : ∀ v ∈ M', ∀ g, v.ownBlock = some g → (∃ u ∈ M, u.ownBlock = some g) ∨ w.heap.size ≤ g
theorem Step.refl (rb : Nat) (M : List Value) (w : World) : Step rb M M w w := ⟨rfl, rfl, rfl, Nat.le_refl _, fun _ _ _ _ => rfl, fun v hv g hg => .inl ⟨v, hv, hg⟩⟩
theorem Step.trans {rb : Nat} {A B C : List Value} {a b c : World} (h : Step rb A B a b) (k : Step rb B C b c) : Step rb A C a c :=
  ⟨k.os.trans h.os, k.tape.trans h.tape, k.output.trans h.output, Nat.le_trans h.size k.size, fun i hi hr hm => (k.block i (Nat.lt_of_lt_of_le hi h.size) hr (fun v hv e => by
      rcases h.rows v hv i e with ⟨u, hu, e'⟩ | h'
      · exact hm u hu e'
      · omega)).trans (h.block i hi hr hm), fun v hv g hg => by
    rcases k.rows v hv g hg with ⟨u, hu, e⟩ | h'
    · exact h.rows u hu g e
    · exact .inr (Nat.le_trans h.size h')⟩
theorem Step.of_below {rb : Nat} {M : List Value} {w w' : World} (h : Below w.heap.size w w') : Step rb M M w w' := ⟨h.os, h.tape, h.output, h.size, fun k hk _ _ => h.block k hk, fun v hv g hg => .inl ⟨v, hv, hg⟩⟩
/-- The run's own cells were written. -/
theorem Step.of_set {rb : Nat} {M M' : List Value} {w : World} {j : Nat} {v : Value} (h : ∀ v ∈ M', ∀ g, v.ownBlock = some g → (∃ u ∈ M, u.ownBlock = some g) ∨ w.heap.size ≤ g) : Step rb M M' w (w.setCell ⟨rb, j, none⟩ v) :=
  ⟨rfl, rfl, rfl, by simp [World.setCell], fun k _ hk _ => set_other hk, h⟩
/-- One of its rows was appended to. -/
theorem Step.of_grown {rb : Nat} {M : List Value} {w w' : World} {u : Value} (hg : w.grownBy w' u.ownBlock) (hu : u ∈ M) : Step rb M M w w' :=
  ⟨hg.os, hg.tape, hg.output, hg.size, fun k hk _ hm => hg.block k hk (fun e => hm u hu e.symm), fun v hv g hg => .inl ⟨v, hv, hg⟩⟩
/-- A row that is not among the run's own is kept. -/
theorem Step.row {rb : Nat} {M M' : List Value} {w w' : World} {B T n s : Nat} {v : Value} {xs : List Value} (h : Step rb M M' w w') (hr : w.ownsRow B T s v n xs) (hne : v.ownBlock ≠ some rb) (ho : Off v M) : w'.ownsRow B T s v n xs := by
  refine ⟨hr.1, ?_⟩
  rcases hr.2 with h0 | ⟨g, cap, cur, rfl, hB, hh, r⟩
  · exact .inl h0
  · refine .inr ⟨g, cap, cur, rfl, hB, ?_, r⟩
    rw [h.block g (blk hh).2.2 (fun e => hne (by rw [e]; rfl)) (fun u hu => ho u hu g rfl)]
    exact hh
theorem Step.off {rb : Nat} {M M' : List Value} {w w' : World} {B T n s : Nat} {v : Value} {xs : List Value} (h : Step rb M M' w w') (hr : w.ownsRow B T s v n xs) (ho : Off v M) : Off v M' := fun u hu g hg hug => by
  rcases h.rows u hu g hug with ⟨u', hu', e⟩ | h'
  · exact ho u' hu' g hg e
  · have := (hr.lt g hg).2; omega
/-- A block of another type is kept. -/
theorem Step.keep {rb : Nat} {M M' : List Value} {w w' : World} {g : Nat} {o : Obj} (h : Step rb M M' w w') (hg : w.heap[g]? = some o) (hne : g ≠ rb) (ho : ∀ u ∈ M, u.ownBlock ≠ some g) : w'.heap[g]? = some o := by
  have hlt : g < w.heap.size := by
    rcases Nat.lt_or_ge g w.heap.size with h' | h'
    · exact h'
    · rw [Array.getElem?_eq_none h'] at hg; cases hg
  rw [h.block g hlt hne ho]
  exact hg
theorem Step.base {rb B : Nat} {M M' : List Value} {w w' : World} (h : Step rb M M' w w') (hB : B ≤ w.heap.size) (hrb : B ≤ rb) (hm : ∀ v ∈ M, ∀ g, v.ownBlock = some g → B ≤ g) : Below B w w' :=
  ⟨h.os, h.tape, h.output, h.size, fun k hk => h.block k (by omega) (by omega) (fun v hv e => by have := hm v hv k e; omega)⟩
theorem owns_blks {B T n s : Nat} {w w' : World} {v : Value} {xs : List Value} (h : w.ownsRow B T s v n xs) (hb : ∀ g, v.ownBlock = some g → w'.heap[g]? = w.heap[g]?) : w'.ownsRow B T s v n xs := by
  refine ⟨h.1, ?_⟩
  rcases h.2 with h | ⟨g, cap, cur, rfl, hB, hh, r⟩
  · exact .inl h
  · exact .inr ⟨g, cap, cur, rfl, hB, (hb g rfl).trans hh, r⟩
/-- Rows of different types lie in different blocks. -/
theorem ap_types {w : World} {B B' T T' n n' s s' : Nat} {u v : Value} {xs ys : List Value} (hu : w.ownsRow B T s u n xs) (hv : w.ownsRow B' T' s' v n' ys) (hT : T ≠ T') : Ap u v := fun g h h' => by
  rcases hu.2 with ⟨rfl, _⟩ | ⟨g1, c1, r1, rfl, _, e1, _⟩
  · cases h
  rcases hv.2 with ⟨rfl, _⟩ | ⟨g2, c2, r2, rfl, _, e2, _⟩
  · cases h'
  simp only [Value.ownBlock, Option.some.injEq] at h h'
  subst h h'
  rw [e1] at e2
  injection e2 with e2
  injection e2 with _ e3
  exact hT e3
theorem ne_types {w : World} {B T T' n s g : Nat} {v : Value} {xs : List Value} {cs : Array Value} {fr : Nat × Nat} (hv : w.ownsRow B T s v n xs) (hg : w.heap[g]? = some (.cells cs T' fr)) (hT : T ≠ T') : v.ownBlock ≠ some g := fun h => by
  rcases hv.2 with ⟨rfl, _⟩ | ⟨g1, c1, r1, rfl, _, e1, _⟩
  · cases h
  simp only [Value.ownBlock, Option.some.injEq] at h
  subst h
  rw [hg] at e1
  injection e1 with e1
  injection e1 with _ e3
  exact hT e3.symm
theorem ne_map {w : World} {B T n s g : Nat} {v : Value} {xs : List Value} (hv : w.ownsRow B T s v n xs) (hg : ∀ cs fr, w.heap[g]? ≠ some (.cells cs T fr)) : v.ownBlock ≠ some g := fun h => by
  rcases hv.2 with ⟨rfl, _⟩ | ⟨g1, c1, r1, rfl, _, e1, _⟩
  · cases h
  simp only [Value.ownBlock, Option.some.injEq] at h
  subst h
  exact hg _ _ e1
/-- What is put out and visited, in rows of their own. -/
structure RunR (TI TII B : Nat) (w : World) (s : RunS) (ov vv : Value) (X : List IvL) : Prop where
  out : w.ownsRow B TI 1 ov s.out.length (intV s.out)
  vis : w.ownsRow B TII 1 vv X.length (ivV X)
  xs : ivX X = s.vis
  made : MadeI TI B w X
  apart : ∀ x ∈ X, Ap x.v ov
theorem RunR.len {TI TII B : Nat} {w : World} {s : RunS} {ov vv : Value} {X : List IvL} (h : RunR TI TII B w s ov vv X) : X.length = s.vis.length := by rw [← h.xs, ivX_length]
theorem RunR.of_block {TI TII B : Nat} {w w' : World} {s : RunS} {ov vv : Value} {X : List IvL} (h : RunR TI TII B w s ov vv X) (ho : ∀ g, ov.ownBlock = some g → w'.heap[g]? = w.heap[g]?) (hv : ∀ g, vv.ownBlock = some g → w'.heap[g]? = w.heap[g]?) (hx : ∀ x ∈ X, ∀ g, x.v.ownBlock = some g → w'.heap[g]? = w.heap[g]?) : RunR TI TII B w' s ov vv X :=
  ⟨owns_blks h.out ho, owns_blks h.vis hv, h.xs, ⟨fun x hxx => owns_blks (h.made.1 x hxx) (hx x hxx), h.made.2⟩, h.apart⟩
theorem RunR.below {TI TII B : Nat} {w w' : World} {s : RunS} {ov vv : Value} {X : List IvL} (h : RunR TI TII B w s ov vv X) (hb : Below w.heap.size w w') : RunR TI TII B w' s ov vv X :=
  h.of_block (fun g hg => hb.block g (h.out.lt g hg).2) (fun g hg => hb.block g (h.vis.lt g hg).2) (fun x hx g hg => hb.block g ((h.made.1 x hx).lt g hg).2)
/-- A number was put out. -/
theorem RunR.put {TI TII B : Nat} {w w' : World} {s : RunS} {ov vv ov' : Value} {X : List IvL} {v : Int} (h : RunR TI TII B w s ov vv X) (hT : TI ≠ TII) (hg : w.grownBy w' ov.ownBlock) (ho : w'.ownsRow B TI 1 ov' (s.out.length + 1) (intV (s.out ++ [v]))) (hr : ov'.ownBlock = ov.ownBlock ∨ ∀ g, ov'.ownBlock = some g → w.heap.size ≤ g) : RunR TI TII B w' ⟨s.out ++ [v], s.vis⟩ ov' vv X := by
  have hx : ∀ x ∈ X, ∀ g, x.v.ownBlock = some g → ov.ownBlock ≠ some g := fun x hx g hg => h.apart x hx g hg
  refine ⟨by simpa using ho, far h.vis hg (fun g e e' => ap_types h.out h.vis hT g e' e), h.xs, h.made.kept hg (fun x hx' g hg' => hx x hx' g hg'), fun x hx' g hg' => ?_⟩
  rcases hr with hr | hr
  · rw [hr]; exact hx x hx' g hg'
  · intro e
    have h1 := hr g e
    have h2 := ((h.made.1 x hx').lt g hg').2
    omega
/-- A visit was told. -/
theorem RunR.told {TI TII B : Nat} {w w1 w' : World} {s : RunS} {ov vv vv' : Value} {X : List IvL} {x : IvL} (h : RunR TI TII B w s ov vv X) (hT : TI ≠ TII) (hb : Below w.heap.size w w1) (hx : w1.ownsRow B TI 1 x.v x.xs.length (intV x.xs)) (hnew : ∀ g, x.v.ownBlock = some g → w.heap.size ≤ g) (hg : w1.grownBy w' vv.ownBlock) (hv : w'.ownsRow B TII 1 vv' (X.length + 1) (ivV (X ++ [x]))) : RunR TI TII B w' ⟨s.out, s.vis ++ [x.xs]⟩ ov vv' (X ++ [x]) := by
  have h1 := h.below hb
  have hxv : ∀ g, x.v.ownBlock = some g → vv.ownBlock ≠ some g := fun g hg' e => ap_types hx h1.vis hT g hg' e
  refine ⟨far h1.out hg (fun g e e' => ap_types h1.out h1.vis hT g e e'), by simpa using hv, by rw [ivX_append, h.xs]; rfl, ?_, fun y hy => ?_⟩
  · have hm := h1.made.kept hg (fun y hy g hg' => fun e => ap_types (h1.made.1 y hy) h1.vis hT g hg' e)
    have hx' := far hx hg hxv
    refine ⟨fun y hy => ?_, List.pairwise_append.2 ⟨hm.2, List.pairwise_singleton _ _, fun y hy z hz g k hg' hk => ?_⟩⟩
    · rcases List.mem_append.1 hy with hy | hy
      · exact hm.1 y hy
      · obtain rfl : y = x := by simpa using hy
        exact hx'
    · obtain rfl : z = x := by simpa using hz
      have h2 := ((h.made.1 y hy).lt g hg').2
      have h3 := hnew k hk
      omega
  · rcases List.mem_append.1 hy with hy | hy
    · exact h.apart y hy
    · obtain rfl : y = x := by simpa using hy
      exact fun g hg' e => by
        have h2 := hnew g hg'
        have h3 := (h.out.lt g e).2
        omega
end Go.Proofs.YtcnnfhcpkbjolaaDoor

/-! Where the model keeps a run under way -/
namespace Go.Proofs.YtcnnfhcpkbjolaaDoor
open Go.RowKit Go.Lib

/-- The rows of a run. -/
def RM (ov vv cv : Value) (X : List IvL) : List Value := ov :: vv :: cv :: ivV X
theorem mem_RM {v ov vv cv : Value} {X : List IvL} : v ∈ RM ov vv cv X ↔ v = ov ∨ v = vv ∨ v = cv ∨ ∃ x ∈ X, x.v = v := by
  unfold RM ivV
  simp only [List.mem_cons, List.mem_map]
theorem RM.o {ov vv cv : Value} {X : List IvL} : ov ∈ RM ov vv cv X := mem_RM.2 (.inl rfl)
theorem RM.v {ov vv cv : Value} {X : List IvL} : vv ∈ RM ov vv cv X := mem_RM.2 (.inr (.inl rfl))
theorem RM.c {ov vv cv : Value} {X : List IvL} : cv ∈ RM ov vv cv X := mem_RM.2 (.inr (.inr (.inl rfl)))
theorem RM.x {ov vv cv : Value} {X : List IvL} {x : IvL} (h : x ∈ X) : x.v ∈ RM ov vv cv X := mem_RM.2 (.inr (.inr (.inr ⟨x, h, rfl⟩)))
structure SAt (T TI TII B rb : Nat) (w : World) (pv : Value) (lim : Int) (s : RunS) (c : List Int) (code : Int) (ov vv cv : Value) (X : List IvL) : Prop where
  row : w.heap[rb]? = some (.cells #[pv, .int .i64 lim, ov, vv, .int .i64 0, .int .i64 code, cv] T (0, 0))
  R : RunR TI TII B w s ov vv X
  calls : w.ownsRow B TI 1 cv c.length (intV c)
  co : Ap cv ov
  cx : ∀ x ∈ X, Ap x.v cv
  lo : B ≤ rb
section
variable {T TI TII B rb : Nat} {w w' : World} {pv : Value} {lim : Int} {s : RunS} {c : List Int} {code : Int} {ov vv cv : Value} {X : List IvL}
theorem SAt.lt (h : SAt T TI TII B rb w pv lim s c code ov vv cv X) : rb < w.heap.size := (blk h.row).2.2
theorem SAt.below (h : SAt T TI TII B rb w pv lim s c code ov vv cv X) (hb : Below w.heap.size w w') : SAt T TI TII B rb w' pv lim s c code ov vv cv X :=
  ⟨(hb.block rb h.lt).trans h.row, h.R.below hb, owns_below h.calls hb, h.co, h.cx, h.lo⟩
theorem SAt.ne_o (h : SAt T TI TII B rb w pv lim s c code ov vv cv X) (hT : TI ≠ T) : ov.ownBlock ≠ some rb := ne_types h.R.out h.row hT
theorem SAt.ne_v (h : SAt T TI TII B rb w pv lim s c code ov vv cv X) (hT : TII ≠ T) : vv.ownBlock ≠ some rb := ne_types h.R.vis h.row hT
theorem SAt.ne_c (h : SAt T TI TII B rb w pv lim s c code ov vv cv X) (hT : TI ≠ T) : cv.ownBlock ≠ some rb := ne_types h.calls h.row hT
/-- A field was written that is none of the rows. -/
theorem SAt.coded (h : SAt T TI TII B rb w pv lim s c code ov vv cv X) (hT : TI ≠ T) (hT2 : TII ≠ T) (d : Int) : SAt T TI TII B rb (w.setCell ⟨rb, 5, none⟩ (.int .i64 d)) pv lim s c d ov vv cv X := by
  have other : ∀ {v : Value}, v.ownBlock ≠ some rb → ∀ g, v.ownBlock = some g → (w.setCell ⟨rb, 5, none⟩ (.int .i64 d)).heap[g]? = w.heap[g]? := fun hv g hg => set_other (fun e => hv (by rw [hg, e]))
  exact ⟨heap_setCell_at h.row _, h.R.of_block (other (h.ne_o hT)) (other (h.ne_v hT2)) (fun x hx => other (ne_types (h.R.made.1 x hx) h.row hT)), owns_blks h.calls (other (h.ne_c hT)), h.co, h.cx, h.lo⟩
theorem SAt.rows_at (h : SAt T TI TII B rb w pv lim s c code ov vv cv X) : ∀ v ∈ RM ov vv cv X, ∀ g, v.ownBlock = some g → B ≤ g ∧ g < w.heap.size := fun v hv g hg => by
  rcases mem_RM.1 hv with rfl | rfl | rfl | ⟨x, hx, rfl⟩
  · exact h.R.out.lt g hg
  · exact h.R.vis.lt g hg
  · exact h.calls.lt g hg
  · exact (h.R.made.1 x hx).lt g hg
/-- A step leaves all that was there before the run. -/
theorem SAt.base {M' : List Value} (h : SAt T TI TII B rb w pv lim s c code ov vv cv X) (hs : Step rb (RM ov vv cv X) M' w w') : Below B w w' := hs.base (Nat.le_of_lt (Nat.lt_of_le_of_lt h.lo h.lt)) h.lo (fun v hv g hg => (h.rows_at v hv g hg).1)
/-- A row that is none of the run's own was appended to. -/
theorem SAt.kept {r : Option Nat} (h : SAt T TI TII B rb w pv lim s c code ov vv cv X) (hg : w.grownBy w' r) (hrb : r ≠ some rb) (hne : ∀ u ∈ RM ov vv cv X, ∀ g, u.ownBlock = some g → r ≠ some g) : SAt T TI TII B rb w' pv lim s c code ov vv cv X := by
  have keep : ∀ v ∈ RM ov vv cv X, ∀ g, v.ownBlock = some g → w'.heap[g]? = w.heap[g]? := fun v hv g hgv => hg.block g (h.rows_at v hv g hgv).2 (fun e => hne v hv g hgv e.symm)
  exact ⟨(hg.block rb h.lt (fun e => hrb e.symm)).trans h.row, h.R.of_block (keep ov RM.o) (keep vv RM.v) (fun x hx => keep x.v (RM.x hx)), owns_blks h.calls (keep cv RM.c), h.co, h.cx, h.lo⟩
/-- A row of the call's own was appended to. -/
theorem Step.own {rb : Nat} {M M' : List Value} {a b c : World} {r : Option Nat} (h : Step rb M M' a b) (hg : b.grownBy c r) (hr : ∀ g, r = some g → a.heap.size ≤ g) : Step rb M M' a c :=
  ⟨hg.os.trans h.os, hg.tape.trans h.tape, hg.output.trans h.output, Nat.le_trans h.size hg.size, fun k hk hrb hm => (hg.block k (Nat.lt_of_lt_of_le hk h.size) (fun e => by have := hr k e.symm; omega)).trans (h.block k hk hrb hm), h.rows⟩
theorem Step.on {rb : Nat} {M M' : List Value} {a b c : World} (h : Step rb M M' a b) (hb : Below b.heap.size b c) : Step rb M M' a c := h.own (grown_of_below hb none) (fun g e => by cases e)
theorem off_lies {v : Value} {M : List Value} {g n c H : Nat} (h : Off v M) (hM : ∀ u ∈ M, ∀ q, u.ownBlock = some q → q < H) (hat : v.ownBlock = some g ∨ g = H) : Off (.slice (some ⟨g, 0, none⟩) n c) M := fun u hu q hq e => by
  simp only [Value.ownBlock, Option.some.injEq] at hq
  subst hq
  rcases hat with h1 | h1
  · exact h u hu _ h1 e
  · have := hM u hu _ e; omega
theorem off_ne {v : Value} {M : List Value} (h : Off v M) : ∀ u ∈ M, ∀ g, u.ownBlock = some g → v.ownBlock ≠ some g := fun u hu g hg e => h u hu g e hg
/-- A visit was told: a row of its own, handed to the visits, which were stored back. -/
theorem SAt.told {w1 w3 : World} {vv' : Value} {x : IvL} (h : SAt T TI TII B rb w pv lim s c code ov vv cv X) (hT : TI ≠ T) (hT2 : TII ≠ T) (hT3 : TI ≠ TII) (hb : Below w.heap.size w w1) (hx : w1.ownsRow w.heap.size TI 1 x.v x.xs.length (intV x.xs)) (hg : w1.grownBy w3 vv.ownBlock) (hv : w3.ownsRow B TII 1 vv' (X.length + 1) (ivV (X ++ [x]))) (hat : ∀ g, vv'.ownBlock = some g → vv.ownBlock = some g ∨ w.heap.size ≤ g) :
    SAt T TI TII B rb (w3.setCell ⟨rb, 3, none⟩ vv') pv lim ⟨s.out, s.vis ++ [x.xs]⟩ c code ov vv' cv (X ++ [x]) ∧ Step rb (RM ov vv cv X) (RM ov vv' cv (X ++ [x])) w (w3.setCell ⟨rb, 3, none⟩ vv') := by
  have h1 := h.below hb
  have hnew : ∀ g, x.v.ownBlock = some g → w.heap.size ≤ g := fun g hg => (hx.lt g hg).1
  have hlt := h.lt
  have hR := h.R.told hT3 hb (owns_lo hx (Nat.le_of_lt (Nat.lt_of_le_of_lt h.lo hlt))) hnew hg hv
  have hrow : w3.heap[rb]? = some (.cells #[pv, .int .i64 lim, ov, vv, .int .i64 0, .int .i64 code, cv] T (0, 0)) := (hg.block rb h1.lt (fun e => h1.ne_v hT2 e.symm)).trans h1.row
  have hcal : w3.ownsRow B TI 1 cv c.length (intV c) := far h1.calls hg (fun g e e' => ap_types h1.calls h1.R.vis hT3 g e e')
  have other : ∀ {v : Value}, v.ownBlock ≠ some rb → ∀ g, v.ownBlock = some g → (w3.setCell ⟨rb, 3, none⟩ vv').heap[g]? = w3.heap[g]? := fun hv g hg => set_other (fun e => hv (by rw [hg, e]))
  refine ⟨⟨heap_setCell_at hrow _, hR.of_block (other (ne_types hR.out hrow hT)) (other (ne_types hR.vis hrow hT2)) (fun y hy => other (ne_types (hR.made.1 y hy) hrow hT)), owns_blks hcal (other (ne_types hcal hrow hT)), h.co, fun y hy => ?_, h.lo⟩, ?_⟩
  · rcases List.mem_append.1 hy with hy | hy
    · exact h.cx y hy
    · obtain rfl : y = x := by simpa using hy
      exact fun g hg' e => by
        have := hnew g hg'
        have := (h.calls.lt g e).2
        omega
  · have st : Step rb (RM ov vv cv X) (RM ov vv cv X) w w3 := (Step.of_below hb).trans (Step.of_grown hg RM.v)
    refine ⟨st.os, st.tape, st.output, by simpa [World.setCell] using st.size, fun k hk hr hm => (set_other hr).trans (st.block k hk hr hm), fun v hv' g hg' => ?_⟩
    rcases mem_RM.1 hv' with rfl | rfl | rfl | ⟨y, hy, rfl⟩
    · exact .inl ⟨_, RM.o, hg'⟩
    · rcases hat g hg' with e | e
      · exact .inl ⟨_, RM.v, e⟩
      · exact .inr e
    · exact .inl ⟨_, RM.c, hg'⟩
    · rcases List.mem_append.1 hy with hy | hy
      · exact .inl ⟨_, RM.x hy, hg'⟩
      · obtain rfl : y = x := by simpa using hy
        exact .inr (hnew g hg')
/-- A number was put out. -/
theorem SAt.put {w3 : World} {ov' : Value} {v : Int} (h : SAt T TI TII B rb w pv lim s c code ov vv cv X) (hT : TI ≠ T) (hT2 : TII ≠ T) (hT3 : TI ≠ TII) (hg : w.grownBy w3 ov.ownBlock) (ho : w3.ownsRow B TI 1 ov' (s.out.length + 1) (intV (s.out ++ [v]))) (hat : ∀ g, ov'.ownBlock = some g → ov.ownBlock = some g ∨ w.heap.size ≤ g) :
    SAt T TI TII B rb (w3.setCell ⟨rb, 2, none⟩ ov') pv lim ⟨s.out ++ [v], s.vis⟩ c code ov' vv cv X ∧ Step rb (RM ov vv cv X) (RM ov' vv cv X) w (w3.setCell ⟨rb, 2, none⟩ ov') := by
  have hrow : w3.heap[rb]? = some (.cells #[pv, .int .i64 lim, ov, vv, .int .i64 0, .int .i64 code, cv] T (0, 0)) := (hg.block rb h.lt (fun e => h.ne_o hT e.symm)).trans h.row
  have hcal : w3.ownsRow B TI 1 cv c.length (intV c) := far h.calls hg (fun g e e' => h.co g e e')
  have hvis : w3.ownsRow B TII 1 vv X.length (ivV X) := far h.R.vis hg (fun g e e' => ap_types h.R.out h.R.vis hT3 g e' e)
  have hmade := h.R.made.kept hg (fun x hx g e e' => h.R.apart x hx g e e')
  have other : ∀ {v : Value}, v.ownBlock ≠ some rb → ∀ g, v.ownBlock = some g → (w3.setCell ⟨rb, 2, none⟩ ov').heap[g]? = w3.heap[g]? := fun hv g hg => set_other (fun e => hv (by rw [hg, e]))
  have hR : RunR TI TII B w3 ⟨s.out ++ [v], s.vis⟩ ov' vv X := ⟨by simpa using ho, hvis, h.R.xs, hmade, fun x hx g e e' => by
    rcases hat g e' with h1 | h1
    · exact h.R.apart x hx g e h1
    · have := ((h.R.made.1 x hx).lt g e).2; omega⟩
  refine ⟨⟨heap_setCell_at hrow _, hR.of_block (other (ne_types ho hrow hT)) (other (ne_types hvis hrow hT2)) (fun y hy => other (ne_types (hmade.1 y hy) hrow hT)), owns_blks hcal (other (ne_types hcal hrow hT)), fun g e e' => ?_, h.cx, h.lo⟩, ?_⟩
  · rcases hat g e' with h1 | h1
    · exact h.co g e h1
    · have := (h.calls.lt g e).2; omega
  · have st : Step rb (RM ov vv cv X) (RM ov vv cv X) w w3 := Step.of_grown hg RM.o
    refine ⟨st.os, st.tape, st.output, by simpa [World.setCell] using st.size, fun k hk hr hm => (set_other hr).trans (st.block k hk hr hm), fun v hv' g hg' => ?_⟩
    rcases mem_RM.1 hv' with rfl | rfl | rfl | ⟨y, hy, rfl⟩
    · rcases hat g hg' with e | e
      · exact .inl ⟨_, RM.o, e⟩
      · exact .inr e
    · exact .inl ⟨_, RM.v, hg'⟩
    · exact .inl ⟨_, RM.c, hg'⟩
    · exact .inl ⟨_, RM.x hy, hg'⟩
/-- A call began. -/
theorem SAt.push {w3 : World} {cv' : Value} {k : Int} (h : SAt T TI TII B rb w pv lim s c code ov vv cv X) (hT : TI ≠ T) (hT2 : TII ≠ T) (hT3 : TI ≠ TII) (hg : w.grownBy w3 cv.ownBlock) (hc : w3.ownsRow B TI 1 cv' (c.length + 1) (intV (c ++ [k]))) (hat : ∀ g, cv'.ownBlock = some g → cv.ownBlock = some g ∨ w.heap.size ≤ g) :
    SAt T TI TII B rb (w3.setCell ⟨rb, 6, none⟩ cv') pv lim s (c ++ [k]) code ov vv cv' X ∧ Step rb (RM ov vv cv X) (RM ov vv cv' X) w (w3.setCell ⟨rb, 6, none⟩ cv') := by
  have hrow : w3.heap[rb]? = some (.cells #[pv, .int .i64 lim, ov, vv, .int .i64 0, .int .i64 code, cv] T (0, 0)) := (hg.block rb h.lt (fun e => h.ne_c hT e.symm)).trans h.row
  have hout : w3.ownsRow B TI 1 ov s.out.length (intV s.out) := far h.R.out hg (fun g e e' => h.co g e' e)
  have hvis : w3.ownsRow B TII 1 vv X.length (ivV X) := far h.R.vis hg (fun g e e' => ap_types h.calls h.R.vis hT3 g e' e)
  have hmade := h.R.made.kept hg (fun x hx g e e' => h.cx x hx g e e')
  have other : ∀ {v : Value}, v.ownBlock ≠ some rb → ∀ g, v.ownBlock = some g → (w3.setCell ⟨rb, 6, none⟩ cv').heap[g]? = w3.heap[g]? := fun hv g hg => set_other (fun e => hv (by rw [hg, e]))
  have hR : RunR TI TII B w3 s ov vv X := ⟨hout, hvis, h.R.xs, hmade, h.R.apart⟩
  refine ⟨⟨heap_setCell_at hrow _, hR.of_block (other (ne_types hout hrow hT)) (other (ne_types hvis hrow hT2)) (fun y hy => other (ne_types (hmade.1 y hy) hrow hT)), owns_blks (by simpa using hc) (other (ne_types hc hrow hT)), fun g e e' => ?_, fun x hx g e e' => ?_, h.lo⟩, ?_⟩
  · rcases hat g e with h1 | h1
    · exact h.co g h1 e'
    · have := (h.R.out.lt g e').2; omega
  · rcases hat g e' with h1 | h1
    · exact h.cx x hx g e h1
    · have := ((h.R.made.1 x hx).lt g e).2; omega
  · have st : Step rb (RM ov vv cv X) (RM ov vv cv X) w w3 := Step.of_grown hg RM.c
    refine ⟨st.os, st.tape, st.output, by simpa [World.setCell] using st.size, fun k hk hr hm => (set_other hr).trans (st.block k hk hr hm), fun v hv' g hg' => ?_⟩
    rcases mem_RM.1 hv' with rfl | rfl | rfl | ⟨y, hy, rfl⟩
    · exact .inl ⟨_, RM.o, hg'⟩
    · exact .inl ⟨_, RM.v, hg'⟩
    · rcases hat g hg' with e | e
      · exact .inl ⟨_, RM.c, e⟩
      · exact .inr e
    · exact .inl ⟨_, RM.x hy, hg'⟩
theorem owns_less {w : World} {B T m n cap : Nat} {a : Option Addr} {l : List Value} (h : w.ownsRow B T 1 (.slice a n cap) n l) (hm : m ≤ n) (hn : 0 < n) : w.ownsRow B T 1 (.slice a m cap) m (l.take m) := by
  have hl := h.1
  refine ⟨by rw [List.length_take]; omega, ?_⟩
  rcases h.2 with ⟨_, h0⟩ | ⟨g, cap', cur, e, hB, hh, hn', hc, hs, ht⟩
  · omega
  · injection e with e1 e2 e3
    subst e1 e3
    refine .inr ⟨g, cap, cur, rfl, hB, hh, by omega, hc, hs, ?_⟩
    rw [← ht, List.take_take, Nat.mul_one, Nat.mul_one, Nat.min_eq_left hm]
/-- A call ended. -/
theorem SAt.pop {a : Option Addr} {cap : Nat} {k : Int} (h : SAt T TI TII B rb w pv lim s (c ++ [k]) code ov vv (.slice a (c ++ [k]).length cap) X) (hT : TI ≠ T) (hT2 : TII ≠ T) :
    SAt T TI TII B rb (w.setCell ⟨rb, 6, none⟩ (.slice a c.length cap)) pv lim s c code ov vv (.slice a c.length cap) X ∧ Step rb (RM ov vv (.slice a (c ++ [k]).length cap) X) (RM ov vv (.slice a c.length cap) X) w (w.setCell ⟨rb, 6, none⟩ (.slice a c.length cap)) := by
  have hc : w.ownsRow B TI 1 (.slice a c.length cap) c.length (intV c) := by
    have := owns_less (m := c.length) h.calls (by simp) (by simp)
    rw [intV_append, List.take_left' (intV_length c)] at this
    exact this
  have hown : ∀ n g, (Value.slice a n cap).ownBlock = some g → ∀ m, (Value.slice a m cap).ownBlock = some g := fun n g e m => by cases a <;> exact e
  have other : ∀ {v : Value}, v.ownBlock ≠ some rb → ∀ g, v.ownBlock = some g → (w.setCell ⟨rb, 6, none⟩ (.slice a c.length cap)).heap[g]? = w.heap[g]? := fun hv g hg => set_other (fun e => hv (by rw [hg, e]))
  refine ⟨⟨heap_setCell_at h.row _, h.R.of_block (other (h.ne_o hT)) (other (h.ne_v hT2)) (fun y hy => other (ne_types (h.R.made.1 y hy) h.row hT)), owns_blks hc (other (ne_types hc h.row hT)), fun g e => h.co g (hown _ g e _), fun x hx g e e' => h.cx x hx g e (hown _ g e' _), h.lo⟩, Step.of_set (fun v hv' g hg' => ?_)⟩
  rcases mem_RM.1 hv' with rfl | rfl | rfl | ⟨y, hy, rfl⟩
  · exact .inl ⟨_, RM.o, hg'⟩
  · exact .inl ⟨_, RM.v, hg'⟩
  · exact .inl ⟨_, RM.c, hown _ g hg' _⟩
  · exact .inl ⟨_, RM.x hy, hg'⟩
/-- What the run does not own is kept. -/
theorem SAt.keep {M' : List Value} {g : Nat} {cs : Array Value} {T' : TypeId} {fr : Nat × Nat} (h : SAt T TI TII B rb w pv lim s c code ov vv cv X) (hs : Step rb (RM ov vv cv X) M' w w') (hg : w.heap[g]? = some (.cells cs T' fr)) (h1 : T ≠ T') (h2 : TI ≠ T') (h3 : TII ≠ T') : w'.heap[g]? = some (.cells cs T' fr) :=
  hs.keep hg (fun e => by
    have := h.row
    rw [← e, hg] at this
    injection this with this
    injection this with _ e3
    exact h1 e3.symm) (fun u hu => by
    rcases mem_RM.1 hu with rfl | rfl | rfl | ⟨y, hy, rfl⟩
    · exact ne_types h.R.out hg h2
    · exact ne_types h.R.vis hg h3
    · exact ne_types h.calls hg h2
    · exact ne_types (h.R.made.1 y hy) hg h2)
theorem SAt.off {B' T' n m : Nat} {v : Value} {xs : List Value} (h : SAt T TI TII B rb w pv lim s c code ov vv cv X) (hr : w.ownsRow B' T' m v n xs) (h2 : TI ≠ T') (h3 : TII ≠ T') : Off v (RM ov vv cv X) := fun u hu => by
  rcases mem_RM.1 hu with rfl | rfl | rfl | ⟨y, hy, rfl⟩
  · exact ap_types hr h.R.out (Ne.symm h2)
  · exact ap_types hr h.R.vis (Ne.symm h3)
  · exact ap_types hr h.calls (Ne.symm h2)
  · exact ap_types hr (h.R.made.1 y hy) (Ne.symm h2)
/-- A row made since is none of the run's own. -/
theorem SAt.off_new {v : Value} (h : SAt T TI TII B rb w pv lim s c code ov vv cv X) (hv : ∀ g, v.ownBlock = some g → w.heap.size ≤ g) : Off v (RM ov vv cv X) := fun u hu g hg e => by
  have h1 := hv g hg
  have h2 := h.rows_at u hu g e
  omega
end
end Go.Proofs.YtcnnfhcpkbjolaaDoor

/-! What the model's perform keeps: the run, its variables, its loops -/
namespace Go.Proofs.YtcnnfhcpkbjolaaDoor
open Go.RowKit Go.Lib

structure PfR (T TI TII TS B rb : Nat) (pv : Value) (lim : Int) (c : List Int) (b0 : Nat) (L : List ByteArray) (lo va lv : Value) (ls vs : List Int) (st : RunS) (ov vv cv : Value) (X : List IvL) (wr : World) : Prop where
  run : SAt T TI TII B rb wr pv lim st c 0 ov vv cv X
  loc : wr.ownsRow b0 TS 1 lo L.length (strV L)
  vals : wr.ownsRow b0 TI 1 va vs.length (intV vs)
  loops : wr.ownsRow b0 TI 1 lv ls.length (intV ls)
  offV : Off va (RM ov vv cv X)
  offL : Off lv (RM ov vv cv X)
  ap : Ap va lv
section
variable {T TI TII TS B rb b0 : Nat} {w w' : World} {pv : Value} {lim : Int} {st st' : RunS} {c ls vs : List Int} {L : List ByteArray} {lo va lv ov vv cv ov' vv' cv' : Value} {X X' : List IvL}
theorem PfR.below (h : PfR T TI TII TS B rb pv lim c b0 L lo va lv ls vs st ov vv cv X w) (hb : Below w.heap.size w w') : PfR T TI TII TS B rb pv lim c b0 L lo va lv ls vs st ov vv cv X w' :=
  ⟨h.run.below hb, owns_below h.loc hb, owns_below h.vals hb, owns_below h.loops hb, h.offV, h.offL, h.ap⟩
/-- A step of the run. -/
theorem PfR.go (h : PfR T TI TII TS B rb pv lim c b0 L lo va lv ls vs st ov vv cv X w) (hT : TI ≠ T) (hT2 : TS ≠ T) (hT3 : TI ≠ TS) (hT4 : TII ≠ TS) (hs : Step rb (RM ov vv cv X) (RM ov' vv' cv' X') w w') (hr : SAt T TI TII B rb w' pv lim st' c 0 ov' vv' cv' X') : PfR T TI TII TS B rb pv lim c b0 L lo va lv ls vs st' ov' vv' cv' X' w' :=
  ⟨hr, hs.row h.loc (ne_types h.loc h.run.row hT2) (h.run.off h.loc hT3 hT4), hs.row h.vals (ne_types h.vals h.run.row hT) h.offV, hs.row h.loops (ne_types h.loops h.run.row hT) h.offL, hs.off h.vals h.offV, hs.off h.loops h.offL, h.ap⟩
/-- A variable was set. -/
theorem PfR.wrote (h : PfR T TI TII TS B rb pv lim c b0 L lo va lv ls vs st ov vv cv X w) (hT : TI ≠ T) (hT3 : TI ≠ TS) {vs' : List Int} (hg : w.grownBy w' va.ownBlock) (hv : w'.ownsRow b0 TI 1 va vs'.length (intV vs')) : PfR T TI TII TS B rb pv lim c b0 L lo va lv ls vs' st ov vv cv X w' :=
  ⟨h.run.kept hg (ne_types h.vals h.run.row hT) (off_ne h.offV), far h.loc hg (fun g e e' => ap_types h.vals h.loc hT3 g e' e), hv, far h.loops hg (fun g e e' => h.ap g e' e), h.offV, h.offL, h.ap⟩
/-- The loops were appended to. -/
theorem PfR.looped (h : PfR T TI TII TS B rb pv lim c b0 L lo va lv ls vs st ov vv cv X w) (hT : TI ≠ T) (hT3 : TI ≠ TS) {ls' : List Int} {g n cc H : Nat} (hH : w.heap.size ≤ H) (hg : w.grownBy w' lv.ownBlock) (hv : w'.ownsRow b0 TI 1 (.slice (some ⟨g, 0, none⟩) n cc) ls'.length (intV ls')) (hat : lv.ownBlock = some g ∨ g = H) : PfR T TI TII TS B rb pv lim c b0 L lo va (.slice (some ⟨g, 0, none⟩) n cc) ls' vs st ov vv cv X w' :=
  ⟨h.run.kept hg (ne_types h.loops h.run.row hT) (off_ne h.offL), far h.loc hg (fun g e e' => ap_types h.loops h.loc hT3 g e' e), far h.vals hg (fun g e e' => h.ap g e e'), hv, h.offV, off_lies h.offL (fun u hu q hq => Nat.lt_of_lt_of_le (h.run.rows_at u hu q hq).2 hH) hat, fun q e e' => by
    simp only [Value.ownBlock, Option.some.injEq] at e'
    subst e'
    rcases hat with h1 | h1
    · exact h.ap _ e h1
    · have := (h.vals.lt _ e).2; omega⟩
/-- The last loop was left. -/
theorem PfR.left {a : Option Addr} {cap : Nat} {o : Int} (h : PfR T TI TII TS B rb pv lim c b0 L lo va (.slice a (ls ++ [o]).length cap) (ls ++ [o]) vs st ov vv cv X w) : PfR T TI TII TS B rb pv lim c b0 L lo va (.slice a ls.length cap) ls vs st ov vv cv X w := by
  have hown : ∀ n g, (Value.slice a n cap).ownBlock = some g → ∀ m, (Value.slice a m cap).ownBlock = some g := fun n g e m => by cases a <;> exact e
  have hl : w.ownsRow b0 TI 1 (.slice a ls.length cap) ls.length (intV ls) := by
    have := owns_less (m := ls.length) h.loops (by simp) (by simp)
    rw [intV_append, List.take_left' (intV_length ls)] at this
    exact this
  exact ⟨h.run, h.loc, h.vals, hl, h.offV, fun u hu g e => h.offL u hu g (hown _ g e _), fun g e e' => h.ap g e (hown _ g e' _)⟩
end
end Go.Proofs.YtcnnfhcpkbjolaaDoor
