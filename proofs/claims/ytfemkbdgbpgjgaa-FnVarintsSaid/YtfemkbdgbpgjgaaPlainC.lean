/- Plain facts: What ParseLine hands back; Rows of lines that a call has made: each line's slices lie in rows of their own, apart from one another; and a text cut at its line feeds; Plain facts: Plain facts on the marks that the laws write into lists of strings; The marks that the laws write into rows of tokens; Marks that the laws write into lines in memory: which line holds which marks, and that the lines stay apart. Nothing of the program. -/
import Derived.Test.YtfemkbdgbpgjgaaPlainB
import Derived.Test.YtfemkbdgbpgjgaaPlainA
/-! What ParseLine hands back. Nothing of the program -/
namespace Go.Proofs.Ytfemkbdgbpgjgaa
open Go.RowKit Go.Lib

/-- A line and whether it is one were returned, the line's slices in rows of their own from block B on. -/
def PlRes (TS TK B : Nat) (r : PLine × Bool) (w : World) (e : Ending) (w' : World) : Prop :=
  ∃ va ve, e = .returned (.tuple #[.agg #[.int .i64 r.1.kind, .string r.1.name, va, ve], .bool r.2]) ∧ w'.ownsRow B TS 1 va r.1.args.length (strV r.1.args) ∧ w'.ownsRow B TK 3 ve r.1.expr.length (toksV r.1.expr) ∧ Below w.heap.size w w'
end Go.Proofs.Ytfemkbdgbpgjgaa

/-! Rows of lines that a call has made: each line's slices lie in rows of their own, apart from one another; and a text cut at its line feeds. Nothing of the program -/
namespace Go.Proofs.Ytfemkbdgbpgjgaa
open Go.RowKit Go.Lib

/-- A line's own blocks. -/
def LnL.has (x : LnL) (g : Nat) : Prop := x.va.ownBlock = some g ∨ x.ve.ownBlock = some g
/-- Each line's slices in rows of their own, from B on, a later line's behind an earlier one's. -/
def Made (TS TK : TypeId) (B : Nat) (w : World) (X : List LnL) : Prop :=
  (∀ x ∈ X, w.ownsRow B TS 1 x.va x.args.length (strV x.args) ∧ w.ownsRow B TK 3 x.ve x.expr.length (toksV x.expr)) ∧ X.Pairwise fun x y => ∀ g h, x.has g → y.has h → g < h
theorem Made.nil (TS TK : TypeId) (B : Nat) (w : World) : Made TS TK B w [] := ⟨fun _ h => by simp at h, List.Pairwise.nil⟩
theorem Made.below {TS TK : TypeId} {B : Nat} {w w' : World} {X : List LnL} (h : Made TS TK B w X) (hb : Below w.heap.size w w') : Made TS TK B w' X :=
  ⟨fun x hx => ⟨owns_below (h.1 x hx).1 hb, owns3_below (h.1 x hx).2 hb⟩, h.2⟩
theorem Made.lt {TS TK : TypeId} {B : Nat} {w : World} {X : List LnL} (h : Made TS TK B w X) (x : LnL) (hx : x ∈ X) (g : Nat) (hg : x.has g) : B ≤ g ∧ g < w.heap.size := by
  rcases hg with hg | hg
  · exact (h.1 x hx).1.lt g hg
  · exact (h.1 x hx).2.lt g hg
theorem Made.grown {TS TK TL : TypeId} {B : Nat} {w w' : World} {X : List LnL} {r : Option Nat} (h : Made TS TK B w X) (hg : w.grownBy w' r) (hr : ∀ g, r = some g → w.heap.size ≤ g ∨ ∃ cs, w.heap[g]? = some (.cells cs TL (0, 0))) (h1 : TL ≠ TS) (h2 : TL ≠ TK) : Made TS TK B w' X := by
  refine ⟨fun x hx => ⟨owns_other (h.1 x hx).1 hg (fun g e => ?_), owns_other (h.1 x hx).2 hg (fun g e => ?_)⟩, h.2⟩
  · rcases hr g e with h | ⟨cs, h⟩
    · exact .inl h
    · exact .inr ⟨cs, _, h, h1⟩
  · rcases hr g e with h | ⟨cs, h⟩
    · exact .inl h
    · exact .inr ⟨cs, _, h, h2⟩
theorem Made.snoc {TS TK : TypeId} {B B' : Nat} {w w' : World} {X : List LnL} {x : LnL} (h : Made TS TK B w X) (hb : Below w.heap.size w w') (hx : w'.ownsRow B' TS 1 x.va x.args.length (strV x.args) ∧ w'.ownsRow B' TK 3 x.ve x.expr.length (toksV x.expr)) (hB : B ≤ B') (hw : w.heap.size ≤ B') : Made TS TK B w' (X ++ [x]) := by
  refine ⟨fun y hy => ?_, List.pairwise_append.2 ⟨h.2, List.pairwise_singleton _ _, fun y hy z hz g k hg hk => ?_⟩⟩
  · rcases List.mem_append.1 hy with hy | hy
    · exact (h.below hb).1 y hy
    · obtain rfl : y = x := by simpa using hy
      exact ⟨owns_lo hx.1 hB, owns_lo hx.2 hB⟩
  · obtain rfl : z = x := by simpa using hz
    have h1 := (h.lt y hy g hg).2
    rcases hk with hk | hk
    · have := (hx.1.lt k hk).1; omega
    · have := (hx.2.lt k hk).1; omega
/-- ParseProgram's answer. -/
def PpRes (TL TS TK B : Nat) (r : List PLine × Bool) (w : World) (e : Ending) (w' : World) : Prop :=
  ∃ v X, e = .returned (.tuple #[v, .bool r.2]) ∧ plL X = r.1 ∧ w'.ownsRow B TL 4 v X.length (lnsV X) ∧ Made TS TK B w' X ∧ Below w.heap.size w w'
/-- What is still to be read of s, where the lines p have been read. -/
def Left (s : ByteArray) (p : List PLine) (q : ByteArray) : Prop := q.size ≤ s.size ∧ lns [] s.data.toList = (lns [] q.data.toList).map (p ++ ·)
theorem Left.start (s : ByteArray) : Left s [] s := ⟨Nat.le_refl _, by simp⟩
theorem Left.stop {s q : ByteArray} {p : List PLine} (h : Left s p q) (hq : q.size = 0) : lns [] s.data.toList = some p := by
  obtain rfl := empty_of q hq
  rw [h.2]
  simp [lns]
theorem cut_parts (q : ByteArray) (o : Nat) (h : indexByte q.data.toList 10 = (o : Int)) : o < q.size ∧ q.data.toList = (q.extract 0 o).data.toList ++ 10 :: (q.extract (o + 1) q.size).data.toList ∧ (∀ c ∈ (q.extract 0 o).data.toList, c ≠ 10) ∧ (q.extract (o + 1) q.size).size < q.size := by
  obtain ⟨hat, hno⟩ := indexByte_some h
  obtain ⟨hol, he⟩ := List.getElem?_eq_some_iff.1 hat
  have hos : o < q.size := by rwa [list_len] at hol
  have t1 : (q.extract 0 o).data.toList = q.data.toList.take o := by simp [ByteArray.data_extract]
  have t2 : (q.extract (o + 1) q.size).data.toList = q.data.toList.drop (o + 1) := by
    simp only [ByteArray.data_extract, Array.toList_extract, List.extract_eq_take_drop]
    rw [List.take_of_length_le]
    rw [List.length_drop, list_len]
    exact Nat.le_refl _
  refine ⟨hos, ?_, ?_, ?_⟩
  · rw [t1, t2]
    have h1 := List.take_append_drop o q.data.toList
    rw [List.drop_eq_getElem_cons hol, he] at h1
    exact h1.symm
  · intro c hc e
    subst e
    rw [t1] at hc
    obtain ⟨k, hk⟩ := List.mem_iff_getElem?.1 hc
    rw [List.getElem?_take] at hk
    split at hk
    · rename_i hlt
      exact hno k hlt hk
    · cases hk
  · rw [← list_len, t2, List.length_drop, list_len]
    omega
theorem Left.step {s q : ByteArray} {p : List PLine} {o : Nat} (h : Left s p q) (ho : indexByte q.data.toList 10 = (o : Int)) (hp : (plZ (q.extract 0 o)).2 = true) : Left s (p ++ [(plZ (q.extract 0 o)).1]) (q.extract (o + 1) q.size) := by
  obtain ⟨_, e, hn, hl⟩ := cut_parts q o ho
  refine ⟨by have := h.1; omega, ?_⟩
  rw [h.2, e, lns_line _ _ hn, bytes_id, if_pos hp, Option.map_map]
  congr 1
  funext x
  simp
theorem Left.bad {s q : ByteArray} {p : List PLine} {o : Nat} (h : Left s p q) (ho : indexByte q.data.toList 10 = (o : Int)) (hp : (plZ (q.extract 0 o)).2 = false) : lns [] s.data.toList = none := by
  obtain ⟨_, e, hn, hl⟩ := cut_parts q o ho
  rw [h.2, e, lns_line _ _ hn, bytes_id, if_neg (by rw [hp]; decide)]
  rfl
theorem Left.opened {s q : ByteArray} {p : List PLine} (h : Left s p q) (ho : indexByte q.data.toList 10 = -1) (hq : q.size ≠ 0) : lns [] s.data.toList = none := by
  rw [h.2, lns_open _ (fun c hc e => by
    subst e
    obtain ⟨k, hk⟩ := List.mem_iff_getElem?.1 hc
    exact indexByte_none ho k hk) (fun e => hq (by rw [← list_len, e]; rfl))]
  rfl
theorem ppZ_full {s q : ByteArray} {p : List PLine} (h : Left s p q) (hl : 60 < p.length) : ppZ s = ([], false) := by
  cases hq : lns [] q.data.toList with
  | none => exact ppZ_none s (by rw [h.2, hq]; rfl)
  | some r => exact ppZ_long s (p ++ r) (by rw [h.2, hq]; rfl) (by rw [List.length_append]; omega)
theorem from_list (s : ByteArray) (t : Nat) : (s.extract t s.size).data.toList = s.data.toList.drop t := by
  simp only [ByteArray.data_extract, Array.toList_extract, List.extract_eq_take_drop]
  rw [List.take_of_length_le]
  rw [List.length_drop, list_len]
  exact Nat.le_refl _
theorem from_size (s : ByteArray) (t : Nat) : (s.extract t s.size).size = s.size - t := by rw [← list_len, from_list, List.length_drop, list_len]
/-- The next line feed behind t is at k. -/
theorem from_index (s : ByteArray) (t k : Nat) (htk : t ≤ k) (hk : s.data.toList[k]? = some 10) (hno : ∀ j, t ≤ j → j < k → s.data.toList[j]? ≠ some 10) : indexByte (s.extract t s.size).data.toList 10 = ((k - t : Nat) : Int) := by
  obtain ⟨hkl, he⟩ := List.getElem?_eq_some_iff.1 hk
  have h1 : s.data.toList.drop t = (s.data.toList.drop t).take (k - t) ++ 10 :: s.data.toList.drop (k + 1) := by
    have h2 := List.take_append_drop (k - t) (s.data.toList.drop t)
    rw [List.drop_drop, show t + (k - t) = k from by omega, List.drop_eq_getElem_cons hkl, he] at h2
    exact h2.symm
  rw [from_list, h1, index_at]
  · rw [List.length_take, List.length_drop]
    congr 1
    omega
  · intro hm
    obtain ⟨j, hj⟩ := List.mem_iff_getElem?.1 hm
    rw [List.getElem?_take] at hj
    split at hj
    · rw [List.getElem?_drop] at hj
      exact hno _ (by omega) (by omega) hj
    · cases hj
theorem from_none (s : ByteArray) (t : Nat) (hno : ∀ j, t ≤ j → j < s.size → s.data.toList[j]? ≠ some 10) : indexByte (s.extract t s.size).data.toList 10 = -1 := by
  rcases Int.lt_or_le (indexByte (s.extract t s.size).data.toList 10) 0 with h | h
  · have := indexByte_ge (s.extract t s.size).data.toList 10; omega
  · obtain ⟨o, ho⟩ := Int.eq_ofNat_of_zero_le h
    have h1 := (indexByte_some ho).1
    rw [from_list, List.getElem?_drop] at h1
    have h2 := (List.getElem?_eq_some_iff.1 h1).1
    rw [list_len] at h2
    exact absurd h1 (hno _ (by omega) h2)
theorem from_part (s : ByteArray) (t k : Nat) (h : t ≤ k) (hk : k ≤ s.size) : (s.extract t s.size).extract 0 (k - t) = s.extract t k := by
  apply bl_eq
  rw [ByteArray.data_extract, Array.toList_extract, from_list, ByteArray.data_extract, Array.toList_extract, List.extract_eq_take_drop, List.extract_eq_take_drop]
  simp
theorem from_rest (s : ByteArray) (t k : Nat) (h : t ≤ k) (hk : k < s.size) : (s.extract t s.size).extract (k - t + 1) (s.extract t s.size).size = s.extract (k + 1) s.size := by
  apply bl_eq
  rw [from_list, from_list, from_list, List.drop_drop]
  congr 1
  omega
end Go.Proofs.Ytfemkbdgbpgjgaa

/-! Plain facts: Plain facts on the marks that the laws write into lists of strings; The marks that the laws write into rows of tokens. Nothing of the program -/
/-! Plain facts on the marks that the laws write into lists of strings. Nothing of the program -/
namespace Go.Proofs.Ytfemkbdgbpgjgaa
open Go.RowKit Go.Lib

/-- The mark of the number k. -/
def mkT (k : Nat) : ByteArray := ⟨(109 :: decDigits k).toArray⟩
/-- The marks from k on, n of them. -/
def mks (k n : Nat) : List ByteArray := (List.range n).map fun j => mkT (k + j)
theorem mks_length (k n : Nat) : (mks k n).length = n := by simp [mks]
theorem mks_get (k n j : Nat) (h : j < n) : (mks k n)[j]? = some (mkT (k + j)) := by simp [mks, h]

theorem strV_set (l : List ByteArray) (k : Nat) (x : ByteArray) : (strV l).set k (.string x) = strV (l.set k x) := by simp [strV, List.map_set]
/-- The first k of a list's elements are marks, the others are what they were. -/
def half (m k : Nat) (l : List ByteArray) : List ByteArray := mks m k ++ l.drop k
theorem half_length (m k : Nat) (l : List ByteArray) (h : k ≤ l.length) : (half m k l).length = l.length := by simp [half, mks_length]; omega
theorem half_zero (m : Nat) (l : List ByteArray) : half m 0 l = l := by simp [half, mks]
theorem half_all (m : Nat) (l : List ByteArray) : half m l.length l = mks m l.length := by simp [half]
theorem half_set (m k : Nat) (l : List ByteArray) (h : k < l.length) : (half m k l).set k (mkT (m + k)) = half m (k + 1) l := by
  unfold half
  have e : mks m (k + 1) = mks m k ++ [mkT (m + k)] := by simp [mks, List.range_succ]
  rw [e, List.set_append_right _ _ (by rw [mks_length]; exact Nat.le_refl _), mks_length, Nat.sub_self, List.append_assoc]
  congr 1
  rw [List.drop_eq_getElem_cons h]
  rfl
end Go.Proofs.Ytfemkbdgbpgjgaa

/-! The marks that the laws write into rows of tokens. Nothing of the program -/
namespace Go.Proofs.Ytfemkbdgbpgjgaa
open Go.RowKit Go.Lib

def mkTok (m j : Nat) : TokL := ⟨((m + 3 * j : Nat) : Int), ((m + 3 * j + 1 : Nat) : Int), mkT (m + 3 * j + 2)⟩
def mkTs (m n : Nat) : List TokL := (List.range n).map (mkTok m)
theorem mkTs_length (m n : Nat) : (mkTs m n).length = n := by simp [mkTs]
theorem mkTs_get (m n j : Nat) (h : j < (mkTs m n).length) : (mkTs m n)[j] = mkTok m j := by simp [mkTs]
end Go.Proofs.Ytfemkbdgbpgjgaa

/-! Marks that the laws write into lines in memory: which line holds which marks, and that the lines stay apart. Nothing of the program -/
namespace Go.Proofs.Ytfemkbdgbpgjgaa
open Go.RowKit Go.Lib

/-- The number behind a line's marks. -/
def nxt (m : Nat) (x : LnL) : Nat := m + 2 + x.args.length + 3 * x.expr.length
/-- A line with marks from m on. -/
def mk1 (m : Nat) (x : LnL) : LnL := ⟨(m : Int), mkT (m + 1), mks (m + 2) x.args.length, mkTs (m + 2 + x.args.length) x.expr.length, x.va, x.ve⟩
def mkN (m : Nat) (X : List LnL) : Nat := X.foldl nxt m
def mkX : Nat → List LnL → List LnL
  | _, [] => []
  | m, x :: r => mk1 m x :: mkX (nxt m x) r
theorem mkN_snoc (m : Nat) (X : List LnL) (x : LnL) : mkN m (X ++ [x]) = nxt (mkN m X) x := by simp [mkN]
theorem mkX_snoc (X : List LnL) : ∀ m x, mkX m (X ++ [x]) = mkX m X ++ [mk1 (mkN m X) x] := by
  induction X with
  | nil => intro m x; rfl
  | cons y r ih => intro m x; simp only [List.cons_append, mkX, ih]; rfl
theorem mkX_length (X : List LnL) : ∀ m, (mkX m X).length = X.length := by
  induction X with
  | nil => intro m; rfl
  | cons y r ih => intro m; simp [mkX, ih]
theorem mkN_le (X : List LnL) : ∀ m, (∀ x ∈ X, x.args.length ≤ 4 ∧ x.expr.length ≤ 20) → mkN m X ≤ m + 66 * X.length := by
  induction X with
  | nil => intro m _; exact Nat.le_refl _
  | cons y r ih =>
    intro m h
    have h1 := h y (List.mem_cons_self ..)
    have h2 := ih (nxt m y) (fun x hx => h x (List.mem_cons_of_mem _ hx))
    have h3 : mkN m (y :: r) = mkN (nxt m y) r := rfl
    rw [h3, List.length_cons]
    unfold nxt at h2 ⊢
    omega
theorem mkN_ge (X : List LnL) : ∀ m, m ≤ mkN m X := by
  induction X with
  | nil => intro m; exact Nat.le_refl _
  | cons y r ih =>
    intro m
    have h2 := ih (nxt m y)
    have h3 : mkN m (y :: r) = mkN (nxt m y) r := rfl
    rw [h3]
    unfold nxt at h2 ⊢
    omega
theorem mkX_get (X : List LnL) : ∀ m k (h : k < X.length), ∃ h' : k < (mkX m X).length, (mkX m X)[k] = mk1 (mkN m (X.take k)) X[k] := by
  induction X with
  | nil => intro m k h; simp at h
  | cons y r ih =>
    intro m k h
    cases k with
    | zero => exact ⟨by rw [mkX_length]; exact h, rfl⟩
    | succ k =>
      obtain ⟨h', e⟩ := ih (nxt m y) k (by simpa using h)
      exact ⟨by rw [mkX_length]; exact h, e⟩
theorem mkN_take (m : Nat) (X : List LnL) (k : Nat) (h : k < X.length) : mkN m (X.take (k + 1)) = nxt (mkN m (X.take k)) X[k] := by
  rw [List.take_succ_eq_append_getElem h, mkN_snoc]
theorem lnsV_set2 (A R : List LnL) (x : LnL) (a : Int) (b : ByteArray) :
    ((lnsV (A ++ x :: R)).set (A.length * 4) (.int .i64 a)).set (A.length * 4 + 1) (.string b) = lnsV (A ++ ⟨a, b, x.args, x.expr, x.va, x.ve⟩ :: R) := by
  have hl : (lnsV A).length = A.length * 4 := lnsV_length A
  rw [lnsV_append, lnsV_append, List.set_append_right _ _ (by omega), List.set_append_right _ _ (by omega), hl, Nat.sub_self, Nat.add_sub_cancel_left]
  rfl
theorem far {B T n s : Nat} {w w' : World} {v : Value} {xs : List Value} {r : Option Nat} (h : w.ownsRow B T s v n xs) (hg : w.grownBy w' r) (hne : ∀ g, v.ownBlock = some g → r ≠ some g) : w'.ownsRow B T s v n xs :=
  h.kept hg (by
    cases hv : v.ownBlock with
    | none => exact .inl rfl
    | some g => exact .inr (fun e => hne g hv e.symm))
/-- One line's own rows were written; the others are as they were. -/
theorem Made.put {TS TK : TypeId} {B : Nat} {w w' : World} {A R : List LnL} {x x' : LnL} {r : Option Nat} (h : Made TS TK B w (A ++ x :: R)) (hg : w.grownBy w' r) (hr : ∀ g, r = some g → x.has g) (hva : x'.va = x.va) (hve : x'.ve = x.ve)
    (h1 : w'.ownsRow B TS 1 x'.va x'.args.length (strV x'.args)) (h2 : w'.ownsRow B TK 3 x'.ve x'.expr.length (toksV x'.expr)) : Made TS TK B w' (A ++ x' :: R) := by
  have hh : ∀ g, x'.has g ↔ x.has g := fun g => by unfold LnL.has; rw [hva, hve]
  obtain ⟨hA, hxR, hc⟩ := List.pairwise_append.1 h.2
  obtain ⟨hx, hR⟩ := List.pairwise_cons.1 hxR
  refine ⟨fun y hy => ?_, List.pairwise_append.2 ⟨hA, List.pairwise_cons.2 ⟨fun y hy g k hg hk => hx y hy g k ((hh g).1 hg) hk, hR⟩, fun a ha y hy g k hg hk => ?_⟩⟩
  · have old : ∀ y ∈ A ++ x :: R, (∀ g, y.has g → ∀ k, x.has k → g ≠ k) → w'.ownsRow B TS 1 y.va y.args.length (strV y.args) ∧ w'.ownsRow B TK 3 y.ve y.expr.length (toksV y.expr) := fun y hy hne =>
      ⟨far (h.1 y hy).1 hg (fun g e e' => hne g (.inl e) g (hr g e') rfl), far (h.1 y hy).2 hg (fun g e e' => hne g (.inr e) g (hr g e') rfl)⟩
    rcases List.mem_append.1 hy with hy | hy
    · exact old y (List.mem_append_left _ hy) (fun g hg k hk e => by have := hc y hy x (List.mem_cons_self ..) g k hg hk; omega)
    · rcases List.mem_cons.1 hy with rfl | hy
      · exact ⟨h1, h2⟩
      · exact old y (List.mem_append_right _ (List.mem_cons_of_mem _ hy)) (fun g hg k hk e => by have := hx y hy k g hk hg; omega)
  · rcases List.mem_cons.1 hy with rfl | hy
    · exact hc a ha x (List.mem_cons_self ..) g k hg ((hh k).1 hk)
    · exact hc a ha y (List.mem_cons_of_mem _ hy) g k hg hk
/-- Made lines lie in memory. -/
theorem Made.all {TS TK : TypeId} {B : Nat} {w : World} {X : List LnL} (h : Made TS TK B w X) : AllIn TS TK w X := fun x hx => ⟨owns_base (h.1 x hx).1, owns_base (h.1 x hx).2⟩
theorem Made.old {TS TK : TypeId} {B B' : Nat} {w w' : World} {X : List LnL} (h : Made TS TK B w X) (hb : Below B' w w') (hlt : w.heap.size ≤ B') : Made TS TK B w' X :=
  h.below (hb.mono hlt)
end Go.Proofs.Ytfemkbdgbpgjgaa
