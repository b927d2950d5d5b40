/- Where a run is kept in memory, and what a step of it may have turned; Where the model keeps a function that it compiles; Without replaced calls, plain: as many calls among the items as tokens that call; no chains; What the promise asks of a function's items, plain: the law's own list of starts; Compiling as the program does it, plain: the jumps of a body are told at its end, the depth is told anew at each line; Where the program keeps a function that it compiles: the compiler, and a body; A region that draws its order and ends in one store: loads are taken first though the store hits their cells; Rows of tokens and rows of ints side by side; A row of texts read from some place on, and what is left of it behind its first text; What the program's compiler leaves as it is, and bounds; Jumps told as soon as their line is there, and jumps told at the end, plain; The program's compiler makes what the model's makes: expressions first, then the lines of a body; The program's compiler makes what the model's makes: the lines of a body, and a whole function; Folding, plain: the folded expression from an index on, operand by operand; A function's number is its place among the functions; Each end within a function has its beginning. -/
import Derived.Test.YtaplbefdijcceaaGreatDoorI02
import Derived.Test.YtaplbefdijcceaaGreatDoorI00
import Derived.Test.YtaplbefdijcceaaGreatDoorI01
import Derived.Maps.OwnSet
import Derived.Deep.RegionHeld
import Derived.StillTail
import Derived.Laws.MakeOwn
import Derived.Laws.Slices
namespace Go.Proofs.YtaplbefdijcceaaGreatDoor
open Go.RowKit Go.Lib
def Ap (u v : Value) : Prop := ∀ g, u.ownBlock = some g → v.ownBlock ≠ some g
def Off (v : Value) (M : List Value) : Prop := ∀ u ∈ M, Ap v u
structure Step (rb : Nat) (M M' : List Value) (w w' : World) : Prop where
  os : w'.os = w.os
  tape : w'.tape = w.tape
  output : w'.output = w.output
  size : w.heap.size ≤ w'.heap.size
  block : ∀ k, k < w.heap.size → k ≠ rb → (∀ v ∈ M, v.ownBlock ≠ some k) → w'.heap[k]? = w.heap[k]?
  rows : ∀ v ∈ M', ∀ g, v.ownBlock = some g → (∃ u ∈ M, u.ownBlock = some g) ∨ w.heap.size ≤ g
theorem Step.refl (rb : Nat) (M : List Value) (w : World) : Step rb M M w w := ⟨rfl, rfl, rfl, Nat.le_refl _, fun _ _ _ _ => rfl, fun v hv g hg => .inl ⟨v, hv, hg⟩⟩
theorem Step.trans {rb : Nat} {A B C : List Value} {a b c : World} (h : Step rb A B a b) (k : Step rb B C b c) : Step rb A C a c :=
  ⟨k.os.trans h.os, k.tape.trans h.tape, k.output.trans h.output, Nat.le_trans h.size k.size, fun i hi hr hm => (k.block i (Nat.lt_of_lt_of_le hi h.size) hr (fun v hv e => by
      rcases h.rows v hv i e with ⟨u, hu, e'⟩ | h'
      · exact hm u hu e'
      · omega)).trans (h.block i hi hr hm), fun v hv g hg => by
    rcases k.rows v hv g hg with ⟨u, hu, e⟩ | h'
    · exact h.rows u hu g e
    · exact .inr (Nat.le_trans h.size h')⟩
theorem Step.of_below {rb : Nat} {M : List Value} {w w' : World} (h : Below w.heap.size w w') : Step rb M M w w' := ⟨h.os, h.tape, h.output, h.size, fun k hk _ _ => h.block k hk, fun v hv g hg => .inl ⟨v, hv, hg⟩⟩
theorem Step.of_set {rb : Nat} {M M' : List Value} {w : World} {j : Nat} {v : Value} (h : ∀ v ∈ M', ∀ g, v.ownBlock = some g → (∃ u ∈ M, u.ownBlock = some g) ∨ w.heap.size ≤ g) : Step rb M M' w (w.setCell ⟨rb, j, none⟩ v) :=
  ⟨rfl, rfl, rfl, by simp [World.setCell], fun k _ hk _ => set_other hk, h⟩
theorem Step.of_grown {rb : Nat} {M : List Value} {w w' : World} {u : Value} (hg : w.grownBy w' u.ownBlock) (hu : u ∈ M) : Step rb M M w w' :=
  ⟨hg.os, hg.tape, hg.output, hg.size, fun k hk _ hm => hg.block k hk (fun e => hm u hu e.symm), fun v hv g hg => .inl ⟨v, hv, hg⟩⟩
theorem Step.row {rb : Nat} {M M' : List Value} {w w' : World} {B T n s : Nat} {v : Value} {xs : List Value} (h : Step rb M M' w w') (hr : w.ownsRow B T s v n xs) (hne : v.ownBlock ≠ some rb) (ho : Off v M) : w'.ownsRow B T s v n xs := by
  refine ⟨hr.1, ?_⟩
  rcases hr.2 with h0 | ⟨g, cap, cur, rfl, hB, hh, r⟩
  · exact .inl h0
  · refine .inr ⟨g, cap, cur, rfl, hB, ?_, r⟩
    rw [h.block g (blk hh).2.2 (fun e => hne (by rw [e]; rfl)) (fun u hu => ho u hu g rfl)]
    exact hh
theorem Step.base {rb B : Nat} {M M' : List Value} {w w' : World} (h : Step rb M M' w w') (hB : B ≤ w.heap.size) (hrb : B ≤ rb) (hm : ∀ v ∈ M, ∀ g, v.ownBlock = some g → B ≤ g) : Below B w w' :=
  ⟨h.os, h.tape, h.output, h.size, fun k hk => h.block k (by omega) (by omega) (fun v hv e => by have := hm v hv k e; omega)⟩
theorem owns_blks {B T n s : Nat} {w w' : World} {v : Value} {xs : List Value} (h : w.ownsRow B T s v n xs) (hb : ∀ g, v.ownBlock = some g → w'.heap[g]? = w.heap[g]?) : w'.ownsRow B T s v n xs := by
  refine ⟨h.1, ?_⟩
  rcases h.2 with h | ⟨g, cap, cur, rfl, hB, hh, r⟩
  · exact .inl h
  · exact .inr ⟨g, cap, cur, rfl, hB, (hb g rfl).trans hh, r⟩
theorem ap_types {w : World} {B B' T T' n n' s s' : Nat} {u v : Value} {xs ys : List Value} (hu : w.ownsRow B T s u n xs) (hv : w.ownsRow B' T' s' v n' ys) (hT : T ≠ T') : Ap u v := fun g h h' => by
  rcases hu.2 with ⟨rfl, _⟩ | ⟨g1, c1, r1, rfl, _, e1, _⟩
  · cases h
  rcases hv.2 with ⟨rfl, _⟩ | ⟨g2, c2, r2, rfl, _, e2, _⟩
  · cases h'
  simp only [Value.ownBlock, Option.some.injEq] at h h'
  subst h h'
  rw [e1] at e2
  injection e2 with e2
  injection e2 with _ e3
  exact hT e3
theorem ne_types {w : World} {B T T' n s g : Nat} {v : Value} {xs : List Value} {cs : Array Value} {fr : Nat × Nat} (hv : w.ownsRow B T s v n xs) (hg : w.heap[g]? = some (.cells cs T' fr)) (hT : T ≠ T') : v.ownBlock ≠ some g := fun h => by
  rcases hv.2 with ⟨rfl, _⟩ | ⟨g1, c1, r1, rfl, _, e1, _⟩
  · cases h
  simp only [Value.ownBlock, Option.some.injEq] at h
  subst h
  rw [hg] at e1
  injection e1 with e1
  injection e1 with _ e3
  exact hT e3.symm
structure RunR (TI TII B : Nat) (w : World) (s : RunS) (ov vv : Value) (X : List IvL) : Prop where
  out : w.ownsRow B TI 1 ov s.out.length (intV s.out)
  vis : w.ownsRow B TII 1 vv X.length (ivV X)
  xs : ivX X = s.vis
  made : MadeI TI B w X
  apart : ∀ x ∈ X, Ap x.v ov
end Go.Proofs.YtaplbefdijcceaaGreatDoor

namespace Go.Proofs.YtaplbefdijcceaaGreatDoor
open Go.RowKit Go.Lib
def natI (l : List Nat) : List Int := l.map fun (n : Nat) => (n : Int)
theorem natI_length (l : List Nat) : (natI l).length = l.length := by simp [natI]
structure ItW where
  it : ItL
  v : Value
def itC (x : ItW) : List Value := [.int .i64 x.it.code, .int .i64 x.it.arg, .int .i64 (x.it.line : Int), .bool x.it.start, x.v, .int .i64 x.it.depth, .bool x.it.ent]
def itV (X : List ItW) : List Value := X.flatMap itC
theorem itV_append (X Y : List ItW) : itV (X ++ Y) = itV X ++ itV Y := by unfold itV; rw [List.flatMap_append]
theorem itV_length (X : List ItW) : (itV X).length = X.length * 7 := by
  induction X with
  | nil => rfl
  | cons x r ih => unfold itV at ih ⊢; rw [List.flatMap_cons, List.length_append, ih, List.length_cons]; simp [itC]; omega
def chL (X : List ItW) : List IvL := X.map fun x => ⟨natI x.it.chain, x.v⟩
structure ScW where
  sc : ScL
  lv : List Nat
  chv : Value
  lcv : Value
  lvv : Value
def scC (y : ScW) : List Value := [.int .i64 (y.sc.f : Int), y.chv, y.lcv, .int .i64 (y.sc.first : Int), .bool y.sc.outer, y.lvv]
def scV (Y : List ScW) : List Value := Y.flatMap scC
structure MkE where
  pv : Value
  b0 : Int
  b1 : Int
  b2 : Bool
  b3 : Bool
  E : CmpE
def mrow (Z : MkE) (s : CmpS) (iv sv : Value) : Array Value :=
  #[Z.pv, .int .i64 Z.b0, .int .i64 Z.b1, .bool Z.b2, .bool Z.b3, .bool Z.E.framed, .int .i64 Z.E.words, .int .i64 (s.most : Int), .int .i64 (Z.E.args : Int), .int .i64 s.depth, iv, sv, .bool s.start]
structure CT where
  m : TypeId
  x : TypeId
  s : TypeId
  i : TypeId
  t : TypeId
structure CAt (T : CT) (B rb : Nat) (w : World) (Z : MkE) (s : CmpS) (scs : List ScL) (LO : List (List Nat)) (iv sv : Value) (X : List ItW) (Y : List ScW) : Prop where
  row : w.heap[rb]? = some (.cells (mrow Z s iv sv) T.m (0, 0))
  its : w.ownsRow B T.x 7 iv X.length (itV X)
  items : X.map (·.it) = s.items
  chn : MadeI T.i B w (chL X)
  scr : w.ownsRow B T.s 6 sv Y.length (scV Y)
  scps : Y.map (·.sc) = scs.reverse
  ych : ∀ y ∈ Y, w.ownsRow B T.i 1 y.chv y.sc.chain.length (intV (natI y.sc.chain))
  ylc : ∀ y ∈ Y, w.ownsRow B T.t 1 y.lcv y.sc.locs.length (strV y.sc.locs)
  ylv : ∀ y ∈ Y, w.ownsRow B T.i 1 y.lvv y.lv.length (intV (natI y.lv))
  lvs : (Y.map (·.lv)).reverse = s.leaves :: LO
  apx : ∀ x ∈ X, ∀ y ∈ Y, Ap x.v y.lvv
  apy : ∀ y ∈ Y, ∀ y' ∈ Y, Ap y.chv y'.lvv
  apl : Y.Pairwise fun y y' => Ap y.lvv y'.lvv
  lo : B ≤ rb
section
variable {T : CT} {B rb : Nat} {w w' : World} {Z : MkE} {s : CmpS} {scs : List ScL} {LO : List (List Nat)} {iv sv : Value} {X : List ItW} {Y : List ScW}
theorem mem_chL {X : List ItW} {z : IvL} : z ∈ chL X ↔ ∃ x ∈ X, (⟨natI x.it.chain, x.v⟩ : IvL) = z := by unfold chL; rw [List.mem_map]
end
end Go.Proofs.YtaplbefdijcceaaGreatDoor

namespace Go.Proofs.YtaplbefdijcceaaGreatDoor
open Go.RowKit Go.Lib
structure NoInl (p : List PLine) (g : Nat) (L : List ItL) : Prop where
  ch : ∀ x ∈ L, x.chain = []
  ca : callI L = callL p g (beZ p (g : Int)).toNat
  ne : 0 < L.length
theorem itV_at (X : List ItW) (j : Nat) (h : j < X.length) (i : Nat) (hi : i < 7) : (itV X)[j * 7 + i]? = (itC X[j])[i]? := by
  unfold itV
  induction X generalizing j with
  | nil => cases h
  | cons x r ih =>
    cases j with
    | zero =>
      rw [List.flatMap_cons, Nat.zero_mul, Nat.zero_add, List.getElem_cons_zero, List.getElem?_append_left (by simp [itC]; omega)]
    | succ j =>
      rw [List.flatMap_cons, List.getElem_cons_succ, List.getElem?_append_right (by simp [itC]; omega), ← ih j (by simpa using h)]
      congr 1
      simp [itC]; omega
end Go.Proofs.YtaplbefdijcceaaGreatDoor

namespace Go.Proofs.YtaplbefdijcceaaGreatDoor
open Go.RowKit Go.Lib
def startsL (l : List ItL) : List Int := (l.filter fun x => x.start && x.chain.isEmpty).map fun x => (x.line : Int)
theorem startsL_snoc (l : List ItL) (k : Nat) (h : k < l.length) : startsL (l.take (k + 1)) = startsL (l.take k) ++ (if l[k].start = true ∧ l[k].chain = [] then [(l[k].line : Int)] else []) := by
  unfold startsL
  rw [List.take_succ_eq_append_getElem h, List.filter_append, List.map_append]
  congr 1
  by_cases h1 : l[k].start = true ∧ l[k].chain = []
  · rw [if_pos h1]; simp [h1.1, h1.2]
  · rw [if_neg h1]
    have : (l[k].start && l[k].chain.isEmpty) = false := by
      cases h2 : l[k].start
      · rfl
      · cases h3 : l[k].chain with
        | nil => exact absurd ⟨h2, h3⟩ h1
        | cons a r => rfl
    simp [this]
theorem startsL_mem {l : List ItL} {j : Nat} (h : Has j [] l) : (j : Int) ∈ startsL l := by
  obtain ⟨x, hx, h1, h2, h3⟩ := h
  unfold startsL
  exact List.mem_map.2 ⟨x, List.mem_filter.2 ⟨hx, by rw [h2, h3]; rfl⟩, by rw [h1]⟩
structure ItsL (p : List PLine) (inl g : Nat) (L : List ItL) : Prop where
  it : ∀ x ∈ L, (x.code = 10 ∨ x.code = 11 → 0 ≤ x.arg ∧ x.arg < (L.length : Int)) ∧ x.chain.length ≤ inl ∧ x.line < p.length
  st : ∀ j (h : j < p.length), g < j → (j : Int) < beZ p (g : Int) → p[j].expr ≠ [] → (j : Int) ∈ startsL L
  hd : HeadOk L
  n3 : 3 ≤ L.length
theorem its_ok {p : List PLine} (ho : OkI p) {fo fr : Bool} {inl g : Nat} (hg : g ∈ funs p) {L : List ItL} (h : CompTo (if fo = true then foldP p else p) fr inl g L) : ItsL p inl g L := by
  obtain ⟨hfl, hfk0, hfe, hel, _⟩ := fun_parts ho hg
  have hb : 0 ≤ beZ p (g : Int) := by omega
  have key : ∀ p', (p'.length = p.length ∧ (∀ k, lkZ p' k = lkZ p k) ∧ ∀ k, beZ p' k = beZ p k) → CompTo p' fr inl g L → ItsL p inl g L := by
    rintro p' ⟨e1, e2, e3⟩ hc
    obtain ⟨h1, h2, h3, h4⟩ := comp_items hc (by rw [e3]; exact hb)
    refine ⟨fun x hx => by have := h1 x hx; rw [e1] at this; exact this, fun j hj hgj hje hx => startsL_mem (h2 j hgj (by rw [e3]; omega) ?_ ?_), h3, h4⟩
    · rw [e2, lkZ_at _ _ hj]
      intro hk
      have he := ((lineB_iff _).1 (ho.1.2 _ (List.getElem_mem hj))).2.2.2
      rw [hk, show exprK 4 = false from rfl] at he
      exact hx (by simpa [efB] using he)
    · rw [e2, lkZ_at _ _ hj]
      intro hk
      have he := ((lineB_iff _).1 (ho.1.2 _ (List.getElem_mem hj))).2.2.2
      rw [hk, show exprK 7 = false from rfl] at he
      exact hx (by simpa [efB] using he)
  cases fo with
  | false => exact key p ⟨rfl, fun _ => rfl, fun _ => rfl⟩ h
  | true => exact key (foldP p) ⟨foldP_length p, lkZ_fold p, beZ_fold p⟩ h
end Go.Proofs.YtaplbefdijcceaaGreatDoor

namespace Go.Proofs.YtaplbefdijcceaaGreatDoor
open Go.RowKit Go.Lib
def nxZ (p : List PLine) (k : Nat) : Int :=
  if lkZ p (k : Int) = 3 then (if 0 ≤ elseZ p (k : Int) then elseZ p (k : Int) + 1 else beZ p (k : Int) + 1)
  else if lkZ p (k : Int) = 5 then beZ p (k : Int) + 1
  else beZ p (elseOpen p k : Int) + 1
structure CiS where
  items : List ItL
  depth : Int
  used : Nat
  pend : Bool
  jumps : List (Nat × Nat)
  firsts : List Nat
inductive IJob where
  | expr (scs : List ScL) (k i : Nat)
  | args (scs : List ScL) (k i m : Nat)
  | lines (scs : List ScL) (k : Nat) (d : Int)
def emitJ (E : CmpE) (t : CiS) (code arg : Int) (line : Nat) (chain : List Nat) : CiS :=
  { t with items := t.items ++ [⟨code, arg, line, t.pend, chain, if E.framed && decide (code ≠ 13) then 0 else t.depth, E.framed && decide (code ≠ 13)⟩], pend := false }
def incJ (t : CiS) (d : Int) : CiS := { t with depth := t.depth + d }
def storeJ (E : CmpE) (t : CiS) (sc : ScL) (i k : Nat) (chain : List Nat) : CiS := incJ (emitJ E t ((placeZ E t.depth sc i).1 + 1) (placeZ E t.depth sc i).2 k chain) (-1)
def numJ (E : CmpE) (t : CiS) (v : Int) (k : Nat) (chain : List Nat) : CiS := incJ (emitJ E t 0 v k chain) 1
def storesJ (E : CmpE) (x : ScL) (k : Nat) (chain : List Nat) : Nat → CiS → CiS
  | 0, t => t
  | i + 1, t => storesJ E x k chain i (storeJ E t x i k chain)
def zerosJ (E : CmpE) (x : ScL) (k : Nat) (chain : List Nat) : Nat → Nat → CiS → CiS
  | 0, _, t => t
  | m + 1, i, t => zerosJ E x k chain m (i + 1) (storeJ E (numJ E t 0 k chain) x i k chain)
def spaceJ (E : CmpE) (k : Nat) (chain : List Nat) (t : CiS) : CiS := if t.pend = true then emitJ E t 15 0 k chain else t
def enterJ (E : CmpE) (sc x : ScL) (k : Nat) (t : CiS) : CiS :=
  let n := (argsZ E.p (x.f : Int)).length
  spaceJ E k sc.chain (zerosJ E x k sc.chain (x.locs.length - n) n (storesJ E x k sc.chain n { t with used := max t.used (x.first + x.locs.length) }))
def replJ (E : CmpE) (scs : List ScL) (n g : Nat) : Bool :=
  !(decide (E.inl ≤ scs.length - 1) || (decide (9 < beZ E.p (g : Int) - (g : Int)) || decide (200 ≤ n))) && scs.all fun sc => decide (sc.f ≠ g)
theorem replJ_is (E : CmpE) (scs : List ScL) (s : CmpS) (g : Nat) : replB E scs s g = replJ E scs s.items.length g := rfl
def jumpJ (E : CmpE) (t : CiS) (code : Int) (l k : Nat) (chain : List Nat) : CiS := { emitJ E t code 0 k chain with jumps := t.jumps ++ [(t.items.length, l)] }
def leaveJ (E : CmpE) (t : CiS) (sc : ScL) (k : Nat) : CiS :=
  if sc.outer = false then jumpJ E t 10 ((beZ E.p (sc.f : Int)).toNat + 1) k sc.chain
  else if E.framed = true then emitJ E t 14 (E.args : Int) k sc.chain
  else emitJ E t 16 ((E.args : Int) + 16 * E.words) k sc.chain
def firstJ (f : Nat) (F : List Nat) (l : Nat) : Int := (((F[l - (f + 1)]?).getD 0 : Nat) : Int)
def applyJ (f : Nat) (F : List Nat) (J : List (Nat × Nat)) (l : List ItL) : List ItL := J.foldl (fun l j => setArg l j.1 (firstJ f F j.2)) l
abbrev CiO := Option (Nat × CiS)
def cmiF (E : CmpE) : Nat → IJob → CiS → CiO
  | 0, _, _ => none
  | n + 1, .args scs k i 0, t => some (i, t)
  | n + 1, .args scs k i (m + 1), t => (cmiF E n (.expr scs k i) t).bind fun y => cmiF E n (.args scs k y.1 m) y.2
  | n + 1, .expr scs k i, t =>
    let u := tokAt E.p k i
    let sc := curS scs
    (cmiF E n (.args scs k (i + 1) (arN u)) t).bind fun y =>
      if u.kind = 0 then some (y.1, { emitJ E y.2 0 u.num k sc.chain with depth := t.depth + 1 })
      else if u.kind = 1 then some (y.1, { emitJ E y.2 (placeZ E y.2.depth sc (varIx sc.locs u.name)).1 (placeZ E y.2.depth sc (varIx sc.locs u.name)).2 k sc.chain with depth := t.depth + 1 })
      else if u.kind = 7 then
        let g := (findZ E.p u.name).toNat
        if replJ E scs y.2.items.length g = true then
          let x := newSc E sc g k
          let t1 := enterJ E sc x k y.2
          (cmiF E n (.lines (x :: scs) (g + 1) t1.depth) { t1 with jumps := [], firsts := [], pend := false }).map fun z => (y.1, { z.2 with depth := t.depth + 1, pend := t1.pend, jumps := y.2.jumps, firsts := y.2.firsts })
        else some (y.1, { emitJ E y.2 12 (funNo E.p g) k sc.chain with depth := t.depth + 1 })
      else some (y.1, { emitJ E y.2 (5 + u.kind - 2) 0 k sc.chain with depth := t.depth + 1 })
  | n + 1, .lines scs k d, t =>
    let sc := curS scs
    let e := beZ E.p (sc.f : Int)
    let t1 := { t with depth := d, firsts := t.firsts ++ [t.items.length] }
    if e < (k : Int) then some (0, { t with firsts := t.firsts ++ [t.items.length], items := applyJ sc.f (t.firsts ++ [t.items.length]) t.jumps t.items })
    else if lkZ E.p (k : Int) = 4 then cmiF E n (.lines scs (k + 1) d) (jumpJ E t1 10 (nxZ E.p k).toNat k sc.chain)
    else if lkZ E.p (k : Int) = 7 then
      if (k : Int) = e then cmiF E n (.lines scs (k + 1) d) (if sc.outer = true then leaveJ E (numJ E t1 0 k sc.chain) sc k else numJ E t1 0 k sc.chain)
      else if lkZ E.p (endOpen E.p k : Int) = 5 then cmiF E n (.lines scs (k + 1) d) (jumpJ E t1 10 (endOpen E.p k) k sc.chain)
      else cmiF E n (.lines scs (k + 1) d) t1
    else
      (cmiF E n (.expr scs k 0) { t1 with pend := true }).bind fun y =>
        if lkZ E.p (k : Int) = 1 then cmiF E n (.lines scs (k + 1) d) (storeJ E y.2 sc (varIx sc.locs (nameAt E.p k)) k sc.chain)
        else if lkZ E.p (k : Int) = 2 then cmiF E n (.lines scs (k + 1) d) (emitJ E y.2 17 0 k sc.chain)
        else if lkZ E.p (k : Int) = 6 then cmiF E n (.lines scs (k + 1) d) (leaveJ E y.2 sc k)
        else cmiF E n (.lines scs (k + 1) d) (jumpJ E y.2 11 (nxZ E.p k).toNat k sc.chain)
structure Tie (s : CmpS) (t : CiS) : Prop where
  len : t.items.length = s.items.length
  ne : 0 < s.items.length
  dep : t.depth = s.depth
  use : t.used = s.most
  pen : t.pend = s.start
structure Gr (s : CmpS) (t : CiS) (s' : CmpS) (t' : CiS) : Prop where
  new : ∃ new, s'.items = s.items ++ new ∧ t'.items = t.items ++ new
  lv : s'.leaves = s.leaves
  ju : t'.jumps = t.jumps
  fi : t'.firsts = t.firsts
  tie : Tie s' t'
theorem Gr.refl {s : CmpS} {t : CiS} (h : Tie s t) : Gr s t s t := ⟨⟨[], by simp, by simp⟩, rfl, rfl, rfl, h⟩
theorem Gr.trans {s s1 s2 : CmpS} {t t1 t2 : CiS} (h : Gr s t s1 t1) (h' : Gr s1 t1 s2 t2) : Gr s t s2 t2 := by
  obtain ⟨a, ha, ha'⟩ := h.new
  obtain ⟨b, hb, hb'⟩ := h'.new
  exact ⟨⟨a ++ b, by rw [hb, ha, List.append_assoc], by rw [hb', ha', List.append_assoc]⟩, h'.lv.trans h.lv, h'.ju.trans h.ju, h'.fi.trans h.fi, h'.tie⟩
theorem Gr.emit {s : CmpS} {t : CiS} (h : Tie s t) (E : CmpE) (code arg : Int) (k : Nat) (chain : List Nat) (hc : code ≠ 13) : Gr s t (emitI E s code arg k chain) (emitJ E t code arg k chain) := by
  have hne : s.items.isEmpty = false := by
    cases hs : s.items with
    | nil => have := h.ne; rw [hs] at this; simp at this
    | cons a r => rfl
  refine ⟨⟨[⟨code, arg, k, s.start, chain, if E.framed && !s.items.isEmpty then 0 else s.depth, E.framed && !s.items.isEmpty⟩], rfl, ?_⟩, rfl, rfl, rfl, ⟨?_, ?_, h.dep, h.use, rfl⟩⟩
  · show t.items ++ [_] = _
    rw [h.pen, h.dep, hne, decide_eq_true hc]
    rfl
  · show (t.items ++ [_]).length = (s.items ++ [_]).length
    simp [h.len]
  · show 0 < (s.items ++ [_]).length
    simp
theorem Gr.inc {s s1 : CmpS} {t t1 : CiS} (h : Gr s t s1 t1) (d : Int) : Gr s t (incD s1 d) (incJ t1 d) :=
  ⟨h.new, h.lv, h.ju, h.fi, ⟨h.tie.len, h.tie.ne, by show t1.depth + d = s1.depth + d; rw [h.tie.dep], h.tie.use, h.tie.pen⟩⟩
theorem Gr.depI {s s1 : CmpS} {t t1 : CiS} (h : Gr s t s1 t1) (dd d : Int) (hd : s1.depth + dd = d) : Gr s t (incD s1 dd) { t1 with depth := d } := ⟨h.new, h.lv, h.ju, h.fi, ⟨h.tie.len, h.tie.ne, hd.symm, h.tie.use, h.tie.pen⟩⟩
theorem placeZ_ne (E : CmpE) (d : Int) (sc : ScL) (i : Nat) : (placeZ E d sc i).1 ≠ 13 ∧ (placeZ E d sc i).1 + 1 ≠ 13 := by have := placeZ_code E d sc i; omega
theorem Gr.store {s : CmpS} {t : CiS} (h : Tie s t) (E : CmpE) (sc : ScL) (i k : Nat) (chain : List Nat) : Gr s t (storeI E s sc i k chain) (storeJ E t sc i k chain) := by
  unfold storeI storeJ
  rw [h.dep]
  exact (Gr.emit h E _ _ k chain (placeZ_ne E s.depth sc i).2).inc (-1)
theorem Gr.num {s : CmpS} {t : CiS} (h : Tie s t) (E : CmpE) (v : Int) (k : Nat) (chain : List Nat) : Gr s t (numI E s v k chain) (numJ E t v k chain) := (Gr.emit h E _ _ k chain (by decide)).inc 1
theorem Gr.stores (E : CmpE) (x : ScL) (k : Nat) (chain : List Nat) : ∀ (n : Nat) {s : CmpS} {t : CiS}, Tie s t → Gr s t (storesI E x k chain n s) (storesJ E x k chain n t) ∧ (storesI E x k chain n s).depth = s.depth - n := by
  intro n
  induction n with
  | zero => intro s t h; exact ⟨Gr.refl h, by show s.depth = s.depth - ((0 : Nat) : Int); simp⟩
  | succ n ih =>
    intro s t h
    have h1 := Gr.store h E x n k chain
    have h2 := ih h1.tie
    refine ⟨h1.trans h2.1, ?_⟩
    show (storesI E x k chain n (storeI E s x n k chain)).depth = _
    rw [h2.2]
    show s.depth + -1 - (n : Int) = s.depth - ((n + 1 : Nat) : Int)
    omega
theorem Gr.zeros (E : CmpE) (x : ScL) (k : Nat) (chain : List Nat) : ∀ (m i : Nat) {s : CmpS} {t : CiS}, Tie s t → Gr s t (zerosI E x k chain m i s) (zerosJ E x k chain m i t) ∧ (zerosI E x k chain m i s).depth = s.depth := by
  intro m
  induction m with
  | zero => intro i s t h; exact ⟨Gr.refl h, rfl⟩
  | succ m ih =>
    intro i s t h
    have h0 := Gr.num h E 0 k chain
    have h1 := Gr.store h0.tie E x i k chain
    have h2 := ih (i + 1) h1.tie
    refine ⟨(h0.trans h1).trans h2.1, ?_⟩
    show (zerosI E x k chain m (i + 1) (storeI E (numI E s 0 k chain) x i k chain)).depth = _
    rw [h2.2]
    show s.depth + 1 + -1 = s.depth
    omega
theorem Gr.enter {s : CmpS} {t : CiS} (h : Tie s t) (E : CmpE) (sc x : ScL) (k : Nat) : Gr s t (enterI E sc x k s) (enterJ E sc x k t) ∧ (enterI E sc x k s).depth = s.depth - ((argsZ E.p (x.f : Int)).length : Int) ∧ (enterI E sc x k s).start = false := by
  have h0 : Tie { s with most := max s.most (x.first + x.locs.length) } { t with used := max t.used (x.first + x.locs.length) } := ⟨h.len, h.ne, h.dep, by show max t.used _ = max s.most _; rw [h.use], h.pen⟩
  have h1 := Gr.stores E x k sc.chain (argsZ E.p (x.f : Int)).length h0
  have h2 := Gr.zeros E x k sc.chain (x.locs.length - (argsZ E.p (x.f : Int)).length) (argsZ E.p (x.f : Int)).length h1.1.tie
  have h3 : Gr s t (zerosI E x k sc.chain (x.locs.length - (argsZ E.p (x.f : Int)).length) (argsZ E.p (x.f : Int)).length (storesI E x k sc.chain (argsZ E.p (x.f : Int)).length { s with most := max s.most (x.first + x.locs.length) })) (zerosJ E x k sc.chain (x.locs.length - (argsZ E.p (x.f : Int)).length) (argsZ E.p (x.f : Int)).length (storesJ E x k sc.chain (argsZ E.p (x.f : Int)).length { t with used := max t.used (x.first + x.locs.length) })) := by
    have := h1.1.trans h2.1
    exact ⟨this.new, this.lv, this.ju, this.fi, this.tie⟩
  unfold enterI enterJ spaceJ
  dsimp only
  rw [h3.tie.pen]
  split
  · refine ⟨h3.trans (Gr.emit h3.tie E 15 0 k sc.chain (by decide)), ?_, rfl⟩
    show (zerosI E x k sc.chain _ _ _).depth = _
    rw [h2.2, h1.2]
  · rename_i hs
    exact ⟨h3, by rw [h2.2, h1.2], by simpa using hs⟩
end Go.Proofs.YtaplbefdijcceaaGreatDoor

namespace Go.Proofs.YtaplbefdijcceaaGreatDoor
open Go.RowKit Go.Lib Go.Maps
structure JT where
  c : TypeId
  b : TypeId
  x : TypeId
  j : TypeId
  i : TypeId
  t : TypeId
def JT.ok (T : JT) : Prop := T.c ≠ T.b ∧ T.x ≠ T.c ∧ T.x ≠ T.b ∧ T.j ≠ T.c ∧ T.j ≠ T.b ∧ T.i ≠ T.c ∧ T.i ≠ T.b ∧ T.x ≠ T.j ∧ T.x ≠ T.i ∧ T.i ≠ T.j
def juC (e : Nat × Nat) : List Value := [.int .i64 (e.1 : Int), .int .i64 (e.2 : Int)]
def juV (l : List (Nat × Nat)) : List Value := l.flatMap juC
theorem juV_append (X Y : List (Nat × Nat)) : juV (X ++ Y) = juV X ++ juV Y := by unfold juV; rw [List.flatMap_append]
theorem juV_at (X : List (Nat × Nat)) (i : Nat) (h : i < X.length) : (juV X)[i * 2]? = some (.int .i64 (X[i].1 : Int)) ∧ (juV X)[i * 2 + 1]? = some (.int .i64 (X[i].2 : Int)) := by
  unfold juV
  induction X generalizing i with
  | nil => cases h
  | cons x r ih =>
    cases i with
    | zero => exact ⟨rfl, rfl⟩
    | succ i =>
      have e1 : ∀ q, (juC x ++ r.flatMap juC)[(i + 1) * 2 + q]? = (r.flatMap juC)[i * 2 + q]? := fun q => by
        rw [List.getElem?_append_right (by simp [juC]; omega)]
        congr 1
        simp [juC]; omega
      rw [List.flatMap_cons, List.getElem_cons_succ]
      exact ⟨(e1 0).trans (ih i (by simpa using h)).1, (e1 1).trans (ih i (by simpa using h)).2⟩
def ptrV : Option Nat → Value
  | none => .pointer none
  | some a => .pointer (some ⟨a, 0, none⟩)
structure KcE where
  pv : Value
  fv : Value
  E : CmpE
def crow (K : KcE) (t : CiS) (iv : Value) : Array Value :=
  #[K.pv, K.fv, .int .i64 (K.E.inl : Int), .bool K.E.framed, .int .i64 (K.E.args : Int), .int .i64 K.E.words, .int .i64 (t.used : Int), .int .i64 t.depth, iv]
structure BdW where
  bb : Nat
  ab : Option Nat
  chv : Value
  mb : Nat
  fb : Nat
def freeN (E : CmpE) (sc : ScL) : Nat := if sc.outer = true then sc.locs.length - E.args else sc.first + sc.locs.length
def brow (cb : Nat) (E : CmpE) (sc : ScL) (b : BdW) (jv : Value) (line : Nat) (pend : Bool) : Array Value :=
  #[.pointer (some ⟨cb, 0, none⟩), ptrV b.ab, .int .i64 (sc.f : Int), b.chv, .map (some b.mb), .int .i64 (freeN E sc : Int), .int .i64 (line : Int), .bool pend, .map (some b.fb), jv]
def slotZ (E : CmpE) (sc : ScL) (i : Nat) : Int :=
  if sc.outer = true ∧ i < E.args then ((E.args - i : Nat) : Int)
  else -(((if sc.outer = true then i - E.args else sc.first + i) + 1 : Nat) : Int)
theorem place_slot (E : CmpE) (d : Int) (sc : ScL) (i : Nat) : placeZ E d sc i = if E.framed = true then (1, if 0 < slotZ E sc i then slotZ E sc i + 1 else slotZ E sc i) else (3, d + slotZ E sc i) := by
  unfold placeZ slotZ
  by_cases h : sc.outer = true ∧ i < E.args
  · rw [if_pos h, if_pos h]
    by_cases hf : E.framed = true
    · rw [if_pos hf, if_pos hf, if_pos (by omega)]
      exact Prod.ext rfl (by omega)
    · rw [if_neg hf, if_neg hf]
  · rw [if_neg h, if_neg h]
    dsimp only
    generalize (if sc.outer = true then i - E.args else sc.first + i) = m
    by_cases hf : E.framed = true
    · rw [if_pos hf, if_pos hf, if_neg (by omega)]
      exact Prod.ext rfl (by show -1 - (m : Int) = -((m + 1 : Nat) : Int); omega)
    · rw [if_neg hf, if_neg hf]
      exact Prod.ext rfl (by show d - 1 - (m : Int) = d + -((m + 1 : Nat) : Int); omega)
def kN (n : ByteArray) : Lit := .string n.data.toList
abbrev zI : DataW Unit := .lit (.int .i64 0)
def SlotOk (E : CmpE) (sc : ScL) (D : DataW Unit) : Prop := ∀ n ∈ sc.locs, D.atKey (kN n) zI = .lit (.int .i64 (slotZ E sc (varIx sc.locs n)))
def FirOk (f : Nat) (l : List Nat) (D : DataW Unit) : Prop := ∀ q, f < q → q - (f + 1) < l.length → D.atKey (.int .i64 (q : Int)) zI = .lit (.int .i64 (firstJ f l q))
section
variable (T : JT) (P : Program) (B cb : Nat) (w : World)
structure CcAt (K : KcE) (t : CiS) (iv : Value) (X : List ItW) : Prop where
  row : w.heap[cb]? = some (.cells (crow K t iv) T.c (0, 0))
  its : w.ownsRow B T.x 7 iv X.length (itV X)
  items : X.map (·.it) = t.items
  chn : MadeI T.i B w (chL X)
  lo : B ≤ cb
structure BdAt (E : CmpE) (sc : ScL) (b : BdW) (jv : Value) (jl : List (Nat × Nat)) (fl : List Nat) (line : Nat) (pend : Bool) : Prop where
  row : w.heap[b.bb]? = some (.cells (brow cb E sc b jv line pend) T.b (0, 0))
  ch : w.ownsRow B T.i 1 b.chv sc.chain.length (intV (natI sc.chain))
  slots : ∃ n D, w.ownsMap P T.t (plainElem P T.i) b.mb n D ∧ SlotOk E sc D ∧ n ≤ 1048576
  firsts : ∃ D, w.ownsMap P T.i (plainElem P T.i) b.fb fl.length D ∧ FirOk sc.f fl D
  jr : w.ownsRow B T.j 2 jv jl.length (juV jl)
  lo : B ≤ cb
  lt : cb < b.bb
  lm : cb < b.mb
  lf : cb < b.fb
  mf : b.mb ≠ b.fb
end
structure CiAt (T : JT) (P : Program) (B cb : Nat) (w : World) (K : KcE) (t : CiS) (iv : Value) (X : List ItW) (sc : ScL) (b : BdW) (jv : Value) (line : Nat) : Prop where
  cc : CcAt T B cb w K t iv X
  bd : BdAt T P B cb w K.E sc b jv t.jumps t.firsts line t.pend
def psV (g : Nat) : Value := .slice (some ⟨g, 0, none⟩) 0 0
def ME (iv : Value) (bb : Nat) : List Value := [iv, psV bb]
def ML (iv jv : Value) (b : BdW) : List Value := [iv, psV b.bb, jv, psV b.fb]
theorem map_keep {H : Type} {P : Program} {k : TypeId} {R : Value → Option (DataW H × List MemPlace)} {b n : Nat} {D : DataW H} {w w' : World} (h : w.ownsMap P k R b n D) (hb : w'.heap[b]? = w.heap[b]?) : w'.ownsMap P k R b n D := by
  obtain ⟨es, clock, h1, h2⟩ := h
  exact ⟨es, clock, hb.trans h1, h2⟩
theorem map_not {H : Type} {P : Program} {k : TypeId} {R : Value → Option (DataW H × List MemPlace)} {b n g : Nat} {D : DataW H} {w : World} (h : w.ownsMap P k R b n D) {cs : Array Value} {t : TypeId} {fr : Nat × Nat} (hg : w.heap[g]? = some (.cells cs t fr)) : b ≠ g := fun e => by
  obtain ⟨es, clock, h1, _⟩ := h
  rw [e, hg] at h1
  cases h1
theorem map_row {H : Type} {P : Program} {k : TypeId} {R : Value → Option (DataW H × List MemPlace)} {b m : Nat} {D : DataW H} {w : World} (h : w.ownsMap P k R b m D) {B T n s : Nat} {v : Value} {xs : List Value} (hv : w.ownsRow B T s v n xs) : v.ownBlock ≠ some b := fun e => by
  obtain ⟨es, clock, h1, _⟩ := h
  rcases hv.2 with ⟨rfl, _⟩ | ⟨g, cap, cur, rfl, _, hh, _⟩
  · cases e
  · rw [show g = b from Option.some.inj e, h1] at hh
    cases hh
section
variable {T : JT} {P : Program} {B cb : Nat} {w w' : World} {K : KcE} {E : CmpE} {t : CiS} {iv jv : Value} {X : List ItW} {sc : ScL} {b : BdW} {jl : List (Nat × Nat)} {fl : List Nat} {line : Nat} {pend : Bool}
theorem CcAt.lt (h : CcAt T B cb w K t iv X) : cb < w.heap.size := (blk h.row).2.2
theorem BdAt.blt (h : BdAt T P B cb w E sc b jv jl fl line pend) : b.bb < w.heap.size := (blk h.row).2.2
theorem CcAt.chx (h : CcAt T B cb w K t iv X) {x : ItW} (hx : x ∈ X) : w.ownsRow B T.i 1 x.v (natI x.it.chain).length (intV (natI x.it.chain)) := h.chn.1 ⟨natI x.it.chain, x.v⟩ (mem_chL.2 ⟨x, hx, rfl⟩)
theorem CcAt.same (h : CcAt T B cb w K t iv X) (hc : w'.heap[cb]? = w.heap[cb]?) (hi : ∀ g, iv.ownBlock = some g → w'.heap[g]? = w.heap[g]?) (hx : ∀ x ∈ X, ∀ g, x.v.ownBlock = some g → w'.heap[g]? = w.heap[g]?) : CcAt T B cb w' K t iv X :=
  ⟨hc.trans h.row, owns_blks h.its hi, h.items, ⟨fun z hz => by obtain ⟨x, hx', rfl⟩ := mem_chL.1 hz; exact owns_blks (h.chn.1 _ hz) (hx x hx'), h.chn.2⟩, h.lo⟩
theorem CcAt.below (h : CcAt T B cb w K t iv X) (hb : Below w.heap.size w w') : CcAt T B cb w' K t iv X :=
  h.same (hb.block cb h.lt) (fun g hg => hb.block g (h.its.lt g hg).2) (fun _ hx g hg => hb.block g ((h.chx hx).lt g hg).2)
theorem BdAt.keep (h : BdAt T P B cb w E sc b jv jl fl line pend) (hb : w'.heap[b.bb]? = w.heap[b.bb]?) (hm : w'.heap[b.mb]? = w.heap[b.mb]?) (hf : w'.heap[b.fb]? = w.heap[b.fb]?) (hc : ∀ g, b.chv.ownBlock = some g → w'.heap[g]? = w.heap[g]?) (hj : ∀ g, jv.ownBlock = some g → w'.heap[g]? = w.heap[g]?) :
    BdAt T P B cb w' E sc b jv jl fl line pend := by
  obtain ⟨n, D, h1, h2, h3⟩ := h.slots
  obtain ⟨D', h4, h5⟩ := h.firsts
  exact ⟨hb.trans h.row, owns_blks h.ch hc, ⟨n, D, map_keep h1 hm, h2, h3⟩, ⟨D', map_keep h4 hf, h5⟩, owns_blks h.jr hj, h.lo, h.lt, h.lm, h.lf, h.mf⟩
theorem BdAt.mlt (h : BdAt T P B cb w E sc b jv jl fl line pend) : b.mb < w.heap.size := by
  obtain ⟨n, D, h1, _⟩ := h.slots
  exact h1.lt
theorem BdAt.flt (h : BdAt T P B cb w E sc b jv jl fl line pend) : b.fb < w.heap.size := by
  obtain ⟨D, h1, _⟩ := h.firsts
  exact h1.lt
theorem BdAt.below (h : BdAt T P B cb w E sc b jv jl fl line pend) (hb : Below w.heap.size w w') : BdAt T P B cb w' E sc b jv jl fl line pend :=
  h.keep (hb.block _ h.blt) (hb.block _ h.mlt) (hb.block _ h.flt) (fun g hg => hb.block g (h.ch.lt g hg).2) (fun g hg => hb.block g (h.jr.lt g hg).2)
theorem CiAt.below (h : CiAt T P B cb w K t iv X sc b jv line) (hb : Below w.heap.size w w') : CiAt T P B cb w' K t iv X sc b jv line := ⟨h.cc.below hb, h.bd.below hb⟩
structure Sep (T : JT) (cb : Nat) (iv jv : Value) (X : List ItW) (b : BdW) : Prop where
  ic : iv.ownBlock ≠ some cb
  ib : iv.ownBlock ≠ some b.bb
  im : iv.ownBlock ≠ some b.mb
  fi : iv.ownBlock ≠ some b.fb
  ij : Ap iv jv
  ih : Ap iv b.chv
  ix : ∀ x ∈ X, Ap iv x.v
  jc : jv.ownBlock ≠ some cb
  jb : jv.ownBlock ≠ some b.bb
  jm : jv.ownBlock ≠ some b.mb
  jf : jv.ownBlock ≠ some b.fb
  jh : Ap jv b.chv
  jx : ∀ x ∈ X, Ap jv x.v
  hc : b.chv.ownBlock ≠ some cb
  hb : b.chv.ownBlock ≠ some b.bb
  hm : b.chv.ownBlock ≠ some b.mb
  hf : b.chv.ownBlock ≠ some b.fb
  xc : ∀ x ∈ X, x.v.ownBlock ≠ some cb
  xb : ∀ x ∈ X, x.v.ownBlock ≠ some b.bb
  xf : ∀ x ∈ X, x.v.ownBlock ≠ some b.fb
  bc : b.bb ≠ cb
  mc : b.mb ≠ cb
  fc : b.fb ≠ cb
  mb : b.mb ≠ b.bb
  fb : b.fb ≠ b.bb
theorem CiAt.sep (h : CiAt T P B cb w K t iv X sc b jv line) (hT : T.ok) : Sep T cb iv jv X b := by
  obtain ⟨t1, t2, t3, t4, t5, t6, t7, t8, t9, t10⟩ := hT
  obtain ⟨n, D, m1, _⟩ := h.bd.slots
  obtain ⟨D', f1, _⟩ := h.bd.firsts
  exact { ic := ne_types h.cc.its h.cc.row t2, ib := ne_types h.cc.its h.bd.row t3, im := map_row m1 h.cc.its, fi := map_row f1 h.cc.its, ij := ap_types h.cc.its h.bd.jr t8, ih := ap_types h.cc.its h.bd.ch t9, ix := fun x hx => ap_types h.cc.its (h.cc.chx hx) t9
          jc := ne_types h.bd.jr h.cc.row t4, jb := ne_types h.bd.jr h.bd.row t5, jm := map_row m1 h.bd.jr, jf := map_row f1 h.bd.jr, jh := ap_types h.bd.jr h.bd.ch t10.symm, jx := fun x hx => ap_types h.bd.jr (h.cc.chx hx) t10.symm
          hc := ne_types h.bd.ch h.cc.row t6, hb := ne_types h.bd.ch h.bd.row t7, hm := map_row m1 h.bd.ch, hf := map_row f1 h.bd.ch, xc := fun x hx => ne_types (h.cc.chx hx) h.cc.row t6, xb := fun x hx => ne_types (h.cc.chx hx) h.bd.row t7, xf := fun x hx => map_row f1 (h.cc.chx hx)
          bc := by have := h.bd.lt; omega, mc := map_not m1 h.cc.row, fc := map_not f1 h.cc.row, mb := map_not m1 h.bd.row, fb := map_not f1 h.bd.row }
theorem CiAt.cellC (h : CiAt T P B cb w K t iv X sc b jv line) (hT : T.ok) (j : Nat) (u : Value) {t' : CiS} (he : (crow K t iv).setIfInBounds j u = crow K t' iv) (hi : t'.items = t.items) (hj : t'.jumps = t.jumps) (hf : t'.firsts = t.firsts) (hp : t'.pend = t.pend) :
    CiAt T P B cb (w.setCell ⟨cb, j, none⟩ u) K t' iv X sc b jv line := by
  have s := h.sep hT
  have other : ∀ {g : Nat}, g ≠ cb → (w.setCell ⟨cb, j, none⟩ u).heap[g]? = w.heap[g]? := fun hg => set_other hg
  refine ⟨⟨by rw [← he]; exact heap_setCell_at h.cc.row _, owns_blks h.cc.its fun g hg => other fun e => s.ic (by rw [hg, e]), h.cc.items.trans hi.symm, ⟨fun z hz => by obtain ⟨x, hx', rfl⟩ := mem_chL.1 hz; exact owns_blks (h.cc.chn.1 _ hz) fun g hg => other fun e => s.xc x hx' (by rw [hg, e]), h.cc.chn.2⟩, h.cc.lo⟩, ?_⟩
  rw [hj, hf, hp]
  exact h.bd.keep (other s.bc) (other s.mc) (other s.fc) (fun g hg => other fun e => s.hc (by rw [hg, e])) (fun g hg => other fun e => s.jc (by rw [hg, e]))
theorem cellC_step {M : List Value} (w : World) (j : Nat) (u : Value) : Step cb M M w (w.setCell ⟨cb, j, none⟩ u) := Step.of_set (fun v hv g hg => .inl ⟨v, hv, hg⟩)
theorem CiAt.cellB (h : CiAt T P B cb w K t iv X sc b jv line) (hT : T.ok) (j : Nat) (u : Value) {t' : CiS} {line' : Nat} (he : (brow cb K.E sc b jv line t.pend).setIfInBounds j u = brow cb K.E sc b jv line' t'.pend) (hi : t'.items = t.items) (hu : t'.used = t.used) (hd : t'.depth = t.depth) (hj : t'.jumps = t.jumps) (hf : t'.firsts = t.firsts) :
    CiAt T P B cb (w.setCell ⟨b.bb, j, none⟩ u) K t' iv X sc b jv line' := by
  have s := h.sep hT
  have other : ∀ {g : Nat}, g ≠ b.bb → (w.setCell ⟨b.bb, j, none⟩ u).heap[g]? = w.heap[g]? := fun hg => set_other hg
  obtain ⟨n, D, m1, m2⟩ := h.bd.slots
  obtain ⟨D', f1, f2⟩ := h.bd.firsts
  refine ⟨⟨?_, owns_blks h.cc.its fun g hg => other fun e => s.ib (by rw [hg, e]), h.cc.items.trans hi.symm, ⟨fun z hz => by obtain ⟨x, hx', rfl⟩ := mem_chL.1 hz; exact owns_blks (h.cc.chn.1 _ hz) fun g hg => other fun e => s.xb x hx' (by rw [hg, e]), h.cc.chn.2⟩, h.cc.lo⟩, ?_⟩
  · rw [other s.bc.symm, h.cc.row]
    unfold crow
    rw [hu, hd]
  · rw [hj, hf]
    exact ⟨by rw [← he]; exact heap_setCell_at h.bd.row _, owns_blks h.bd.ch fun g hg => other fun e => s.hb (by rw [hg, e]), ⟨n, D, map_keep m1 (other s.mb), m2⟩, ⟨D', map_keep f1 (other s.fb), f2⟩, owns_blks h.bd.jr fun g hg => other fun e => s.jb (by rw [hg, e]), h.bd.lo, h.bd.lt, h.bd.lm, h.bd.lf, h.bd.mf⟩
theorem cellB_step {M : List Value} (w : World) {bb : Nat} (hm : psV bb ∈ M) (j : Nat) (u : Value) : Step cb M M w (w.setCell ⟨bb, j, none⟩ u) :=
  ⟨rfl, rfl, rfl, by simp [World.setCell], fun k _ _ hk => set_other (fun e => hk _ hm (by rw [e]; rfl)), fun v hv g hg => .inl ⟨v, hv, hg⟩⟩
theorem mem_ME {iv : Value} {bb : Nat} : psV bb ∈ ME iv bb := by unfold ME; simp
theorem mem_ML {iv jv : Value} {b : BdW} : psV b.bb ∈ ML iv jv b := by unfold ML; simp
theorem Step.lines {iv iv' : Value} (h : Step cb (ME iv b.bb) (ME iv' b.bb) w w') : Step cb (ML iv jv b) (ML iv' jv b) w w' := by
  refine ⟨h.os, h.tape, h.output, h.size, fun k hk hr hm => h.block k hk hr (fun v hv => hm v ?_), fun v hv g hg => ?_⟩
  · unfold ME at hv
    unfold ML
    simp only [List.mem_cons, List.not_mem_nil, or_false] at hv ⊢
    rcases hv with rfl | rfl
    · exact .inl rfl
    · exact .inr (.inl rfl)
  · unfold ML at hv ⊢
    simp only [List.mem_cons, List.not_mem_nil, or_false] at hv
    rcases hv with rfl | rfl | rfl | rfl
    · rcases h.rows _ (List.mem_cons_self ..) g hg with ⟨u, hu, e⟩ | e
      · unfold ME at hu
        simp only [List.mem_cons, List.not_mem_nil, or_false] at hu
        rcases hu with rfl | rfl
        · exact .inl ⟨_, List.mem_cons_self .., e⟩
        · exact .inl ⟨psV b.bb, by simp, e⟩
      · exact .inr e
    · exact .inl ⟨psV b.bb, by simp, hg⟩
    · exact .inl ⟨v, by simp, hg⟩
    · exact .inl ⟨psV b.fb, by simp, hg⟩
theorem CiAt.emitted {w1 w3 : World} {iv' cv : Value} {code arg : Int} (h : CiAt T P B cb w K t iv X sc b jv line) (hT : T.ok) (hb : Below w.heap.size w w1) (hx : w1.ownsRow w.heap.size T.i 1 cv sc.chain.length (intV (natI sc.chain)))
    (hg : w1.grownBy w3 iv.ownBlock) (d : Int) (e : Bool) (hd : d = if K.E.framed && decide (code ≠ 13) then 0 else t.depth) (he : e = (K.E.framed && decide (code ≠ 13)))
    (hi : w3.ownsRow B T.x 7 iv' (X.length + 1) (itV (X ++ [⟨⟨code, arg, line, t.pend, sc.chain, d, e⟩, cv⟩]))) (hat : ∀ g, iv'.ownBlock = some g → iv.ownBlock = some g ∨ w.heap.size ≤ g) :
    CiAt T P B cb ((w3.setCell ⟨cb, 8, none⟩ iv').setCell ⟨b.bb, 7, none⟩ (.bool false)) K (emitJ K.E t code arg line sc.chain) iv' (X ++ [⟨⟨code, arg, line, t.pend, sc.chain, d, e⟩, cv⟩]) sc b jv line ∧ Step cb (ME iv b.bb) (ME iv' b.bb) w ((w3.setCell ⟨cb, 8, none⟩ iv').setCell ⟨b.bb, 7, none⟩ (.bool false)) := by
  have h1 := h.below hb
  have s := h1.sep hT
  have hlt := h.cc.lt
  have hnew : ∀ g, cv.ownBlock = some g → w.heap.size ≤ g := fun g hg => (hx.lt g hg).1
  have hB : B ≤ w.heap.size := Nat.le_of_lt (Nat.lt_of_le_of_lt h.cc.lo hlt)
  have hgb : ∀ {g : Nat}, g < w1.heap.size → iv.ownBlock ≠ some g → w3.heap[g]? = w1.heap[g]? := fun hl hn => hg.block _ hl (fun e => hn e.symm)
  have hcb3 : w3.heap[cb]? = some (.cells (crow K t iv) T.c (0, 0)) := (hgb h1.cc.lt s.ic).trans h1.cc.row
  have hbb3 : w3.heap[b.bb]? = some (.cells (brow cb K.E sc b jv line t.pend) T.b (0, 0)) := (hgb h1.bd.blt s.ib).trans h1.bd.row
  have fx : ∀ x ∈ X, ∀ g, x.v.ownBlock = some g → iv.ownBlock ≠ some g := fun x hx' g e e' => s.ix x hx' g e' e
  have hT' := hT
  obtain ⟨t1, t2, t3, t4, t5, t6, t7, t8, t9, t10⟩ := hT'
  have fcv : ∀ g, cv.ownBlock = some g → iv.ownBlock ≠ some g := fun g e e' => ap_types h1.cc.its hx t9 g e' e
  have hx3 := far hx hg fcv
  have hl1 : (natI sc.chain).length = sc.chain.length := natI_length sc.chain
  have hmk := h1.cc.chn.kept hg (fun z hz g e e' => by
      obtain ⟨x, hx', rfl⟩ := mem_chL.1 hz
      exact fx x hx' g e e')
  have e1 : chL (X ++ [⟨⟨code, arg, line, t.pend, sc.chain, d, e⟩, cv⟩]) = chL X ++ [⟨natI sc.chain, cv⟩] := by unfold chL; rw [List.map_append]; rfl
  have hcvc : cv.ownBlock ≠ some cb := fun e => by have := hnew cb e; omega
  have hcc : CcAt T B cb (w3.setCell ⟨cb, 8, none⟩ iv') K { emitJ K.E t code arg line sc.chain with pend := t.pend } iv' (X ++ [⟨⟨code, arg, line, t.pend, sc.chain, d, e⟩, cv⟩]) := by
    have other : ∀ {v : Value}, v.ownBlock ≠ some cb → ∀ g, v.ownBlock = some g → (w3.setCell ⟨cb, 8, none⟩ iv').heap[g]? = w3.heap[g]? := fun hv g hg => set_other (fun e => hv (by rw [hg, e]))
    refine ⟨heap_setCell_at hcb3 _, ?_, ?_, ?_, h.cc.lo⟩
    · rw [List.length_append, List.length_singleton]
      exact owns_blks hi (other (ne_types hi hcb3 t2))
    · rw [List.map_append, h.cc.items]
      unfold emitJ
      rw [hd, he]
      rfl
    · rw [e1]
      refine ⟨fun z hz => ?_, List.pairwise_append.2 ⟨hmk.2, List.pairwise_singleton _ _, fun z hz z' hz' g k' e e' => ?_⟩⟩
      · rcases List.mem_append.1 hz with hz | hz
        · obtain ⟨x, hx', rfl⟩ := mem_chL.1 hz
          exact owns_blks (hmk.1 _ hz) (other (s.xc x hx'))
        · obtain rfl : z = ⟨natI sc.chain, cv⟩ := by simpa using hz
          show (w3.setCell _ _).ownsRow B T.i 1 cv (natI sc.chain).length _
          rw [hl1]
          exact owns_blks (owns_lo hx3 hB) (other hcvc)
      · obtain rfl : z' = ⟨natI sc.chain, cv⟩ := by simpa using hz'
        have := (h.cc.chn.lt z hz g e).2
        have := hnew k' e'
        omega
  have hbd : BdAt T P B cb (w3.setCell ⟨cb, 8, none⟩ iv') K.E sc b jv t.jumps t.firsts line t.pend := by
    have k1 : ∀ {g : Nat}, g < w1.heap.size → g ≠ cb → iv.ownBlock ≠ some g → (w3.setCell ⟨cb, 8, none⟩ iv').heap[g]? = w1.heap[g]? := fun hl hc hn => (set_other hc).trans (hgb hl hn)
    exact h1.bd.keep (k1 h1.bd.blt s.bc s.ib) (k1 h1.bd.mlt s.mc s.im) (k1 h1.bd.flt s.fc s.fi) (fun g hg => k1 (h1.bd.ch.lt g hg).2 (fun e => s.hc (by rw [hg, e])) (fun e => s.ih g e hg)) (fun g hg => k1 (h1.bd.jr.lt g hg).2 (fun e => s.jc (by rw [hg, e])) (fun e => s.ij g e hg))
  have hci : CiAt T P B cb (w3.setCell ⟨cb, 8, none⟩ iv') K { emitJ K.E t code arg line sc.chain with pend := t.pend } iv' (X ++ [⟨⟨code, arg, line, t.pend, sc.chain, d, e⟩, cv⟩]) sc b jv line := ⟨hcc, hbd⟩
  refine ⟨hci.cellB hT 7 (.bool false) rfl rfl rfl rfl rfl rfl, ?_⟩
  have st : Step cb (ME iv b.bb) (ME iv b.bb) w w3 := (Step.of_below hb).trans (Step.of_grown hg (by unfold ME; exact List.mem_cons_self ..))
  have st2 : Step cb (ME iv b.bb) (ME iv' b.bb) w (w3.setCell ⟨cb, 8, none⟩ iv') := ⟨st.os, st.tape, st.output, by simpa [World.setCell] using st.size, fun k hk hr hm => (set_other hr).trans (st.block k hk hr hm), fun v hv g hg' => by
    unfold ME at hv ⊢
    simp only [List.mem_cons, List.not_mem_nil, or_false] at hv
    rcases hv with rfl | rfl
    · rcases hat g hg' with e | e
      · exact .inl ⟨iv, List.mem_cons_self .., e⟩
      · exact .inr e
    · exact .inl ⟨_, List.mem_cons_of_mem _ (List.mem_cons_self ..), hg'⟩⟩
  exact st2.trans (cellB_step _ mem_ME 7 _)
theorem CiAt.jumped {w3 : World} {jv' : Value} (h : CiAt T P B cb w K t iv X sc b jv line) (hT : T.ok) (m l : Nat) (hg : w.grownBy w3 jv.ownBlock) (hi : w3.ownsRow B T.j 2 jv' (t.jumps.length + 1) (juV (t.jumps ++ [(m, l)]))) (hat : ∀ g, jv'.ownBlock = some g → jv.ownBlock = some g ∨ w.heap.size ≤ g) :
    CiAt T P B cb (w3.setCell ⟨b.bb, 9, none⟩ jv') K { t with jumps := t.jumps ++ [(m, l)] } iv X sc b jv' line ∧ Step cb (ML iv jv b) (ML iv jv' b) w (w3.setCell ⟨b.bb, 9, none⟩ jv') := by
  have s := h.sep hT
  have k1 : ∀ {g : Nat}, g < w.heap.size → g ≠ b.bb → jv.ownBlock ≠ some g → (w3.setCell ⟨b.bb, 9, none⟩ jv').heap[g]? = w.heap[g]? := fun hl hc hn => (set_other hc).trans (hg.block _ hl (fun e => hn e.symm))
  have hbb3 : w3.heap[b.bb]? = some (.cells (brow cb K.E sc b jv line t.pend) T.b (0, 0)) := (hg.block _ h.bd.blt (fun e => s.jb e.symm)).trans h.bd.row
  obtain ⟨n, D, m1, m2⟩ := h.bd.slots
  obtain ⟨D', f1, f2⟩ := h.bd.firsts
  refine ⟨⟨?_, ?_⟩, ?_⟩
  · have := h.cc.same (w' := w3.setCell ⟨b.bb, 9, none⟩ jv') (k1 h.cc.lt s.bc.symm s.jc) (fun g hg' => k1 (h.cc.its.lt g hg').2 (fun e => s.ib (by rw [hg', e])) (fun e => s.ij g hg' e)) (fun x hx g hg' => k1 ((h.cc.chx hx).lt g hg').2 (fun e => s.xb x hx (by rw [hg', e])) (fun e => s.jx x hx g e hg'))
    exact ⟨this.row, this.its, this.items, this.chn, this.lo⟩
  · refine ⟨heap_setCell_at hbb3 _, owns_blks h.bd.ch fun g hg' => k1 (h.bd.ch.lt g hg').2 (fun e => s.hb (by rw [hg', e])) (fun e => s.jh g e hg'), ⟨n, D, map_keep m1 (k1 h.bd.mlt s.mb s.jm), m2⟩, ⟨D', map_keep f1 (k1 h.bd.flt s.fb s.jf), f2⟩, ?_, h.bd.lo, h.bd.lt, h.bd.lm, h.bd.lf, h.bd.mf⟩
    rw [List.length_append, List.length_singleton]
    exact owns_blks hi fun g hg' => set_other (fun e => ne_types hi hbb3 hT.2.2.2.2.1 (by rw [hg', e]))
  · have st : Step cb (ML iv jv b) (ML iv jv b) w w3 := Step.of_grown hg (by unfold ML; simp)
    have st2 : Step cb (ML iv jv b) (ML iv jv b) w (w3.setCell ⟨b.bb, 9, none⟩ jv') := st.trans (cellB_step _ mem_ML 9 _)
    refine ⟨st2.os, st2.tape, st2.output, st2.size, st2.block, fun v hv g hg' => ?_⟩
    unfold ML at hv ⊢
    simp only [List.mem_cons, List.not_mem_nil, or_false] at hv
    rcases hv with rfl | rfl | rfl | rfl
    · exact .inl ⟨_, List.mem_cons_self .., hg'⟩
    · exact .inl ⟨psV b.bb, by simp, hg'⟩
    · rcases hat g hg' with e | e
      · exact .inl ⟨jv, by simp, e⟩
      · exact .inr e
    · exact .inl ⟨psV b.fb, by simp, hg'⟩
theorem CiAt.firsted {w3 : World} {D : DataW Unit} {n : Nat} (h : CiAt T P B cb w K t iv X sc b jv line) (hT : T.ok) (hg : w.grownBy w3 (some b.fb)) (hown : w3.ownsMap P T.i (plainElem P T.i) b.fb n D) (hn : n = t.firsts.length + 1) (m : Nat) (hD : FirOk sc.f (t.firsts ++ [m]) D) :
    CiAt T P B cb w3 K { t with firsts := t.firsts ++ [m] } iv X sc b jv line ∧ Step cb (ML iv jv b) (ML iv jv b) w w3 := by
  have s := h.sep hT
  have k1 : ∀ {g : Nat}, g < w.heap.size → g ≠ b.fb → w3.heap[g]? = w.heap[g]? := fun hl hn => hg.block _ hl (fun e => hn (Option.some.inj e))
  obtain ⟨n', D', m1, m2⟩ := h.bd.slots
  refine ⟨⟨?_, ?_⟩, ?_⟩
  · have := h.cc.same (w' := w3) (k1 h.cc.lt s.fc.symm) (fun g hg' => k1 (h.cc.its.lt g hg').2 (fun e => s.fi (by rw [hg', e]))) (fun x hx g hg' => k1 ((h.cc.chx hx).lt g hg').2 (fun e => s.xf x hx (by rw [hg', e])))
    exact ⟨this.row, this.its, this.items, this.chn, this.lo⟩
  · refine ⟨(k1 h.bd.blt s.fb.symm).trans h.bd.row, owns_blks h.bd.ch fun g hg' => k1 (h.bd.ch.lt g hg').2 (fun e => s.hf (by rw [hg', e])), ⟨n', D', map_keep m1 (k1 h.bd.mlt h.bd.mf), m2⟩, ⟨D, ?_, hD⟩, owns_blks h.bd.jr fun g hg' => k1 (h.bd.jr.lt g hg').2 (fun e => s.jf (by rw [hg', e])), h.bd.lo, h.bd.lt, h.bd.lm, h.bd.lf, h.bd.mf⟩
    rw [List.length_append, List.length_singleton, ← hn]
    exact hown
  · have := Step.of_grown (rb := cb) (M := ML iv jv b) (u := psV b.fb) (w := w) (w' := w3) hg (by unfold ML; simp)
    exact this
end
end Go.Proofs.YtaplbefdijcceaaGreatDoor

namespace Go.Proofs.YtaplbefdijcceaaGreatDoor
open Go.RowKit Go.Lib
theorem eA1 {α : Type _} {xs : List α} {i : Nat} (h : i < xs.toArray.size) : xs.toArray[i] = xs[i]'(by simpa using h) := rfl
theorem eA2 {α : Type _} {a : α} {as : List α} {h : 0 < (a :: as).length} : (a :: as)[0] = a := rfl
theorem eA3 {α : Type _} {a : α} {as : List α} {i : Nat} {h : i + 1 < (a :: as).length} : (a :: as)[i + 1] = as[i]'(Nat.lt_of_succ_lt_succ h) := rfl
theorem eS1 {α : Type _} (l : List α) (i : Nat) (a : α) : l.toArray.setIfInBounds i a = (l.set i a).toArray := List.setIfInBounds_toArray ..
theorem eS2 {α : Type _} {x a : α} {xs : List α} : (x :: xs).set 0 a = a :: xs := rfl
theorem eS3 {α : Type _} {x a : α} {xs : List α} {n : Nat} : (x :: xs).set (n + 1) a = x :: xs.set n a := rfl
section
variable {P : Program} {ops : Array Oper} {Q : Exit → Act → World → Prop} {S : World → Prop} {n : Nat}
def AnyE (P : Program) (ops : Array Oper) (Q : Exit → Act → World → Prop) (S : World → Prop) (n : Nat) : Nat → Array Bool → Act → World → Prop
  | 0, l, a, w => Region.ready .any ops l = [] ∧ Q .normal a w
  | f + 1, l, a, w => (Region.ready .any ops l = [] → Q .normal a w) ∧ ∀ i ∈ Region.ready .any ops l, wpOp P ops Q i (fun a' w' => (i < n → S w') ∧ AnyE P ops Q S n f (l.setIfInBounds i true) a' w') a w
theorem any_of_E : ∀ (f : Nat) (l : Array Bool) (a : Act) (w : World), AnyE P ops Q S n f l a w → wpAny P .any ops Q f l a w
  | 0, _, _, _, h => h
  | f + 1, _, _, _, h => ⟨h.1, fun i hi => wpOp_mono (fun a' w' h' => any_of_E f _ a' w' h'.2) (h.2 i hi)⟩
theorem E_first {i : Nat} {oi : Oper} {v : Value} (hs : Region.sinkB .any ops n = true) (hc : Region.chainB .any ops n = true) (hn : n < ops.size) (hin : i < n) (hi : ops[i]? = some oi)
    (hsel : ∀ (j : Nat) (o : Oper) cs b, ops[j]? = some o → o.op ≠ .select cs b) (hQ : ∀ c a w, Q (.panic c) (a.put oi.dst v) w → Q (.panic c) a w) :
    ∀ (f : Nat) (l : Array Bool) (a : Act) (w : World), HeadInv .any ops n l →
      (∀ j oj, ops[j]? = some oj → j ≠ i → l.getD j true = false → (∀ e ∈ oj.after, Region.binds .any e = true → e.on ≠ i) → oi.apart ops oj = true) →
      i ∈ Region.ready .any ops l → YieldsIf P ops S oi v a → S w → AnyE P ops Q S n f (l.setIfInBounds i true) (a.put oi.dst v) w → AnyE P ops Q S n (f + 1) l a w := by
  intro f
  induction f with
  | zero =>
    intro l a w _ _ hr hy hS H
    refine ⟨fun h => (by rw [h] at hr; cases hr), fun j hj => ?_⟩
    by_cases hji : j = i
    · subst hji; exact hy.wpOp hi hS ⟨fun _ => hS, H⟩
    · have := ready_mono hj hji
      rw [H.1] at this
      cases this
  | succ f ih =>
    intro l a w inv hfree hr hy hS H
    refine ⟨fun h => (by rw [h] at hr; cases hr), fun j hj => ?_⟩
    by_cases hji : j = i
    · subst hji; exact hy.wpOp hi hS ⟨fun _ => hS, H⟩
    have hun := (mem_ready.1 hr).1
    have hjn : j < n := by
      rcases Nat.lt_or_ge j n with h | h
      · exact h
      · exact absurd hj (tail_waits hs hc hn inv _ i rfl hin hun j h)
    have h1 := H.2 j (ready_mono hj hji)
    obtain ⟨hjun, oj, hoj, hall⟩ := mem_ready.1 hj
    have hnot : ∀ e ∈ oj.after, Region.binds .any e = true → e.on ≠ i := fun e he hb heq => by
      have h2 := hall e he hb
      rw [heq, getD_both hun] at h2
      cases h2
    refine wpOp_mono (fun a' w' h3 => ?_) (wpOp_putIf hoj (hfree j oj hoj hji hjun hnot) (fun cs b => hsel i oi cs b hi) (fun cs b => hsel j oj cs b hoj) hQ hy h1)
    have hSw := h3.2.1 hjn
    refine ⟨fun _ => hSw, ih (l.setIfInBounds j true) a' w' (inv.set hj hjn) (fun k ok hk hki hk2 hno => hfree k ok hk hki ?_ hno) (ready_mono hr (Ne.symm hji)) h3.1 hSw ?_⟩
    · by_cases hjk : j = k
      · rw [← hjk]; exact hjun
      · rw [getD_set_ne true hjk] at hk2; exact hk2
    · rw [Array.setIfInBounds_comm _ _ hji]
      exact h3.2.2
def AnyT (P : Program) (ops : Array Oper) (Q : Exit → Act → World → Prop) (S : World → Prop) (n f : Nat) (l : Array Bool) (a : Act) (w : World) : Prop := HeadInv .any ops n l → AnyE P ops Q S n f l a w
theorem E_take {i f : Nat} {oi : Oper} {v : Value} {l : Array Bool} {a : Act} {w : World} (hi : ops[i]? = some oi) (hck : (Region.sinkB .any ops n && (Region.chainB .any ops n && (decide (n < ops.size) && (decide (i < n) && (Region.noSelect ops && (Region.free .any ops l i && (Region.ready .any ops l).contains i)))))) = true)
    (hQ : ∀ c a w, Q (.panic c) (a.put oi.dst v) w → Q (.panic c) a w) (hy : YieldsIf P ops S oi v a) (hS : S w)
    (h : AnyT P ops Q S n f (l.setIfInBounds i true) (a.put oi.dst v) w) : AnyT P ops Q S n (f + 1) l a w := fun inv => by
  simp only [Bool.and_eq_true, decide_eq_true_eq] at hck
  obtain ⟨hs, hc, hn, hin, hsel, hf, hr⟩ := hck
  have hr' : i ∈ Region.ready .any ops l := by simpa using hr
  exact E_first hs hc hn hin hi (Region.noSelect_spec hsel) hQ f l a w inv (Region.free_spec hi hf) hr' hy hS (h (inv.set hr' hin))
def AllE (P : Program) (ops : Array Oper) (Q : Exit → Act → World → Prop) (S : World → Prop) (n f : Nat) (l : Array Bool) (a : Act) (w : World) (rs : List Nat) : Prop :=
  ∀ i ∈ rs, i ∈ Region.ready .any ops l → i < n → HeadInv .any ops n l → wpOp P ops Q i (fun a' w' => (i < n → S w') ∧ AnyE P ops Q S n f (l.setIfInBounds i true) a' w') a w
theorem AllE.nil {f : Nat} {l : Array Bool} {a : Act} {w : World} : AllE P ops Q S n f l a w [] := fun _ h => by cases h
theorem AllE.cons {f i : Nat} {l : Array Bool} {a : Act} {w : World} {o : Oper} {rs : List Nat} (ho : ops[i]? = some o)
    (h : ∀ K' : Act → World → Prop, Shut (∀ a w, S w → (S w → AnyT P ops Q S n f (l.setIfInBounds i true) a w) → K' a w) → if Region.wanted o (yielded ops a.tmps) = true then Oper.wp P o a w K' Q else K' (a.put o.dst undef) w)
    (hs : AllE P ops Q S n f l a w rs) : AllE P ops Q S n f l a w (i :: rs) := fun j hj hr hin inv => by
  rcases List.mem_cons.1 hj with rfl | hj
  · exact wpOp_step ho (fun K' hK => h K' (fun a w hS hW => hK a w ⟨fun _ => hS, hW hS (inv.set hr hin)⟩))
  · exact hs j hj hr hin inv
theorem E_ready {f : Nat} {l : Array Bool} {a : Act} {w : World} {rs : List Nat} (hr : Region.ready .any ops l = rs) (hne : (rs.isEmpty = false) ∧ rs.all (fun i => decide (i < n)) = true) (h : AllE P ops Q S n f l a w rs) : AnyT P ops Q S n (f + 1) l a w := fun inv =>
  ⟨fun h0 => (by rw [hr] at h0; rw [h0] at hne; exact absurd hne.1 (by decide)), fun i hi => by
    have hi' := hi
    rw [hr] at hi'
    exact h i hi' hi (of_decide_eq_true (List.all_eq_true.1 hne.2 i hi')) inv⟩
theorem E_last {f : Nat} {l : Array Bool} {a : Act} {w : World} {o : Oper} (hr : Region.ready .any ops l = [n]) (ho : ops[n]? = some o) (hr2 : Region.ready .any ops (l.setIfInBounds n true) = [])
    (h : ∀ K' : Act → World → Prop, Shut (∀ a w, Q .normal a w → K' a w) → if Region.wanted o (yielded ops a.tmps) = true then Oper.wp P o a w K' Q else K' (a.put o.dst undef) w) : AnyT P ops Q S n (f + 1) l a w := fun _ =>
  ⟨fun h0 => (by rw [hr] at h0; cases h0), fun i hi => by
    rw [hr] at hi
    obtain rfl : i = n := by simpa using hi
    refine wpOp_step ho (fun K' hK => h K' (fun a w hq => hK a w ⟨fun h => absurd h (Nat.lt_irrefl _), ?_⟩))
    cases f with
    | zero => exact ⟨hr2, hq⟩
    | succ f => exact ⟨fun _ => hq, by rw [hr2]; intro j hj; cases hj⟩⟩
theorem head_start (n m : Nat) (h : ops.size = m) : HeadInv .any ops n (Array.replicate m false) :=
  ⟨by simp [h], fun j oj _ hl => (by rw [getD_replicate_false] at hl; cases hl), fun t _ ht => (by
    have : t < m := by omega
    simp [this])⟩
theorem E_start {id : Nat} {a : Act} {w : World} (n : Nat) (hm : P.follows .mixedOrders = true) (hS : S w.drew) (h : S w.drew → AnyT P ops Q S n ops.size (Array.replicate ops.size false) a w.drew) : (Code.region id ops true).wp P Q a w :=
  wp_region_any hm (any_of_E _ _ _ _ (h hS (head_start n _ rfl)))
end
theorem step_append_run {P : Program} {w w' : World} {o : Oper} {a : Act} {ops : Array Oper} {K : Act → World → Prop} {Q : Exit → Act → World → Prop} {E : Prop} (hgd : o.guard = none) (s x : Operand) (t : TypeId)
    (ho : o.op = .call { callee := .builtin .append, args := #[s, x], argTypes := #[t, t] }) (v y v' : Value) (hs : a.eval s = v) (hx : a.eval x = y) (hr : (Builtin.append_ #[t, t] o.type #[v, y]).run P w = .ok v' w') (h : K (a.put o.dst v') w') :
    if Region.wanted o (yielded ops a.tmps) = true then Oper.wp P o a w K Q else E := by
  have hw : Region.wanted o (yielded ops a.tmps) = true := by simp [Region.wanted, hgd]
  rw [if_pos hw]
  unfold Oper.wp execOp
  simp only [ho, resolve, invoke, builtin, Sem.run_bind, Sem.run_pure, Result.andThen_ok, List.map_toArray, List.map_cons, List.map_nil, hs, hx, hr]
  exact h
end Go.Proofs.YtaplbefdijcceaaGreatDoor

namespace Go.Proofs.YtaplbefdijcceaaGreatDoor
open Go.RowKit Go.Lib
theorem owns_lower {B B' T n s : Nat} {w : World} {v : Value} {xs : List Value} (h : w.ownsRow B T s v n xs) (hb : B' ≤ B) : w.ownsRow B' T s v n xs :=
  ⟨h.1, h.2.imp id fun ⟨g, cap, cur, e, hB, r⟩ => ⟨g, cap, cur, e, Nat.le_trans hb hB, r⟩⟩
theorem toks_src {B T : Nat} {w : World} {v : Value} {l : List TokL} (h : w.ownsRow B T 3 v l.length (toksV l)) (hp : 0 < l.length) : ∃ g cap, v = .slice (some ⟨g, 0, none⟩) l.length cap ∧ g < w.heap.size ∧ B ≤ g ∧ ∀ j u, (toksV l)[j]? = some u → w.cell? ((⟨g, 0, none⟩ : Addr).add j) = some u := by
  rcases h.2 with ⟨_, h0⟩ | ⟨g, cap, cur, rfl, hB, hg, _⟩
  · omega
  · exact ⟨g, cap, rfl, (h.lt g rfl).2, hB, fun j u hu => h.cells rfl j u hu⟩
theorem toks_cells1 (l : List TokL) : ∀ u ∈ toksV l, u.oneCell' = true := by
  intro u hu
  obtain ⟨t, _, h⟩ := List.mem_flatMap.1 hu
  simp only [tokV, List.mem_cons, List.not_mem_nil, or_false] at h
  rcases h with rfl | rfl | rfl <;> rfl
theorem rows_apart {B B' T T' n n' s s' : Nat} {w : World} {v v' : Value} {xs xs' : List Value} (h : w.ownsRow B T s v n xs) (h' : w.ownsRow B' T' s' v' n' xs') (hT : T ≠ T') : v.ownBlock = none ∨ v.ownBlock ≠ v'.ownBlock := by
  rcases h.2 with ⟨rfl, _⟩ | ⟨g1, c1, r1, rfl, _, e1, _⟩
  · exact .inl rfl
  · refine .inr fun e => ?_
    rcases h'.2 with ⟨rfl, _⟩ | ⟨g2, c2, r2, rfl, _, e2, _⟩
    · cases e
    · simp only [Value.ownBlock, Option.some.injEq] at e
      subst e
      rw [e1] at e2
      injection e2 with e2
      injection e2 with _ e3
      exact hT e3
theorem tok_row {T B : Nat} (w : World) (t : TokL) (hB : B ≤ w.heap.size) : (w.alloc (.cells #[.int .i64 t.kind, .int .i64 t.num, .string t.name] T)).ownsRow B T 3 (.slice (some ⟨w.heap.size, 0, none⟩) 1 1) [t].length (toksV [t]) := by
  have := World.ownsRow_lit (base := B) (e := T) (size := 3) w #[.int .i64 t.kind, .int .i64 t.num, .string t.name] 1 hB (by decide) rfl
  rw [toksV_one]
  exact this
end Go.Proofs.YtaplbefdijcceaaGreatDoor

namespace Go.Proofs.YtaplbefdijcceaaGreatDoor
open Go.RowKit Go.Lib
def ReadO (w : World) (a : Option Addr) (l : List ByteArray) : Prop := ∀ j (h : j < l.length), ∃ g o, a = some ⟨g, o, none⟩ ∧ w.cell? ⟨g, o + j, none⟩ = some (.string l[j])
theorem readO_of {w : World} {a : Option Addr} {l : List ByteArray} (h : ReadS w a l) : ReadO w a l := by
  intro j hj
  obtain ⟨g, e, c⟩ := h j hj
  exact ⟨g, 0, e, by rw [Nat.zero_add]; exact c⟩
end Go.Proofs.YtaplbefdijcceaaGreatDoor

namespace Go.Proofs.YtaplbefdijcceaaGreatDoor
open Go.RowKit Go.Lib
structure Onw (t t' : CiS) : Prop where
  len : t.items.length ≤ t'.items.length
  used : t'.used = t.used
  ju : t'.jumps = t.jumps
  fi : t'.firsts = t.firsts
theorem Onw.refl (t : CiS) : Onw t t := ⟨Nat.le_refl _, rfl, rfl, rfl⟩
theorem Onw.trans {t t1 t2 : CiS} (h : Onw t t1) (h' : Onw t1 t2) : Onw t t2 := ⟨Nat.le_trans h.len h'.len, h'.used.trans h.used, h'.ju.trans h.ju, h'.fi.trans h.fi⟩
theorem onw_emit (E : CmpE) (t : CiS) (code arg : Int) (k : Nat) (chain : List Nat) : Onw t (emitJ E t code arg k chain) := ⟨by unfold emitJ; simp, rfl, rfl, rfl⟩
theorem emitJ_len (E : CmpE) (t : CiS) (code arg : Int) (k : Nat) (chain : List Nat) : (emitJ E t code arg k chain).items.length = t.items.length + 1 := by unfold emitJ; simp
theorem onw_store (E : CmpE) (t : CiS) (x : ScL) (i k : Nat) (chain : List Nat) : Onw t (storeJ E t x i k chain) := by
  have := onw_emit E t ((placeZ E t.depth x i).1 + 1) (placeZ E t.depth x i).2 k chain
  exact ⟨this.len, this.used, this.ju, this.fi⟩
theorem onw_num (E : CmpE) (t : CiS) (v : Int) (k : Nat) (chain : List Nat) : Onw t (numJ E t v k chain) := by
  have := onw_emit E t 0 v k chain
  exact ⟨this.len, this.used, this.ju, this.fi⟩
theorem onw_stores (E : CmpE) (x : ScL) (k : Nat) (chain : List Nat) : ∀ (n : Nat) (t : CiS), Onw t (storesJ E x k chain n t) ∧ (storesJ E x k chain n t).depth = t.depth - n ∧ (storesJ E x k chain n t).items.length = t.items.length + n := by
  intro n
  induction n with
  | zero => intro t; exact ⟨Onw.refl t, by show t.depth = t.depth - ((0 : Nat) : Int); simp, rfl⟩
  | succ n ih =>
    intro t
    obtain ⟨h1, h2, h3⟩ := ih (storeJ E t x n k chain)
    refine ⟨(onw_store E t x n k chain).trans h1, ?_, ?_⟩
    · show (storesJ E x k chain n (storeJ E t x n k chain)).depth = _
      rw [h2]
      show t.depth + -1 - (n : Int) = t.depth - ((n + 1 : Nat) : Int)
      omega
    · show (storesJ E x k chain n (storeJ E t x n k chain)).items.length = _
      rw [h3]
      show (emitJ E t _ _ k chain).items.length + n = _
      rw [emitJ_len]
      omega
theorem onw_zeros (E : CmpE) (x : ScL) (k : Nat) (chain : List Nat) : ∀ (m i : Nat) (t : CiS), Onw t (zerosJ E x k chain m i t) ∧ (zerosJ E x k chain m i t).depth = t.depth ∧ (zerosJ E x k chain m i t).items.length = t.items.length + 2 * m := by
  intro m
  induction m with
  | zero => intro i t; exact ⟨Onw.refl t, rfl, rfl⟩
  | succ m ih =>
    intro i t
    obtain ⟨h1, h2, h3⟩ := ih (i + 1) (storeJ E (numJ E t 0 k chain) x i k chain)
    refine ⟨((onw_num E t 0 k chain).trans (onw_store E _ x i k chain)).trans h1, ?_, ?_⟩
    · show (zerosJ E x k chain m (i + 1) (storeJ E (numJ E t 0 k chain) x i k chain)).depth = _
      rw [h2]
      show t.depth + 1 + -1 = t.depth
      omega
    · show (zerosJ E x k chain m (i + 1) (storeJ E (numJ E t 0 k chain) x i k chain)).items.length = _
      rw [h3]
      show (emitJ E (numJ E t 0 k chain) _ _ k chain).items.length + 2 * m = _
      rw [emitJ_len]
      show (emitJ E t 0 0 k chain).items.length + 1 + 2 * m = _
      rw [emitJ_len]
      omega
theorem onw_space (E : CmpE) (k : Nat) (chain : List Nat) (t : CiS) : Onw t (spaceJ E k chain t) ∧ (spaceJ E k chain t).depth = t.depth ∧ (spaceJ E k chain t).pend = false := by
  unfold spaceJ
  by_cases h : t.pend = true
  · rw [if_pos h]; exact ⟨onw_emit E t 15 0 k chain, rfl, rfl⟩
  · rw [if_neg h]; exact ⟨Onw.refl t, rfl, by simpa using h⟩
theorem onw_enter (E : CmpE) (sc x : ScL) (k : Nat) (t : CiS) : t.items.length ≤ (enterJ E sc x k t).items.length ∧ (enterJ E sc x k t).used = max t.used (x.first + x.locs.length) ∧ (enterJ E sc x k t).jumps = t.jumps ∧ (enterJ E sc x k t).firsts = t.firsts ∧ (enterJ E sc x k t).depth = t.depth - ((argsZ E.p (x.f : Int)).length : Int) ∧ (enterJ E sc x k t).pend = false := by
  have h1 := onw_stores E x k sc.chain (argsZ E.p (x.f : Int)).length { t with used := max t.used (x.first + x.locs.length) }
  have h2 := onw_zeros E x k sc.chain (x.locs.length - (argsZ E.p (x.f : Int)).length) (argsZ E.p (x.f : Int)).length (storesJ E x k sc.chain (argsZ E.p (x.f : Int)).length { t with used := max t.used (x.first + x.locs.length) })
  have h3 := onw_space E k sc.chain (zerosJ E x k sc.chain (x.locs.length - (argsZ E.p (x.f : Int)).length) (argsZ E.p (x.f : Int)).length (storesJ E x k sc.chain (argsZ E.p (x.f : Int)).length { t with used := max t.used (x.first + x.locs.length) }))
  have h4 := (h1.1.trans h2.1).trans h3.1
  unfold enterJ
  dsimp only
  exact ⟨h4.len, h4.used, h4.ju, h4.fi, by rw [h3.2.1, h2.2.1, h1.2.1], h3.2.2⟩
def ScF (E : CmpE) (scs : List ScL) : Prop := 1 ≤ scs.length ∧ scs.length ≤ E.inl + 1 ∧ freeN E (curS scs) ≤ 64 * scs.length
theorem replJ_lt {E : CmpE} {scs : List ScL} {n g : Nat} (h : replJ E scs n g = true) : scs.length - 1 < E.inl ∧ beZ E.p (g : Int) - (g : Int) ≤ 9 ∧ n < 200 ∧ ∀ s ∈ scs, s.f ≠ g := by
  unfold replJ at h
  simp only [Bool.and_eq_true, Bool.not_eq_true', Bool.or_eq_false_iff, decide_eq_false_iff_not] at h
  refine ⟨by omega, by omega, by omega, fun s hs => ?_⟩
  have := List.all_eq_true.1 h.2 s hs
  simpa using this
theorem newSc_free (E : CmpE) (sc : ScL) (g k : Nat) : (newSc E sc g k).first = freeN E sc ∧ freeN E (newSc E sc g k) = (newSc E sc g k).first + (newSc E sc g k).locs.length := ⟨rfl, rfl⟩
theorem ScF.new {E : CmpE} (h60 : E.p.length ≤ 60) (hv : ∀ x ∈ E.p, lineB x = true) {scs : List ScL} {n g k : Nat} (h : ScF E scs) (hr : replJ E scs n g = true) : ScF E (newSc E (curS scs) g k :: scs) := by
  obtain ⟨h1, h2, h3⟩ := h
  have hlt := (replJ_lt hr).1
  refine ⟨by simp, by rw [List.length_cons]; omega, ?_⟩
  show freeN E (newSc E (curS scs) g k) ≤ 64 * (scs.length + 1)
  rw [(newSc_free E (curS scs) g k).2, (newSc_free E (curS scs) g k).1]
  have hl : (newSc E (curS scs) g k).locs.length ≤ 64 := loc_len64 h60 hv (g : Int)
  omega
theorem cbind {x : CiO} {f : Nat × CiS → CiO} {z : Nat × CiS} (h : x.bind f = some z) : ∃ y, x = some y ∧ f y = some z := by
  cases x with
  | none => cases h
  | some y => exact ⟨y, rfl, h⟩
theorem cmi_bound {E : CmpE} (h60 : E.p.length ≤ 60) (hv : ∀ x ∈ E.p, lineB x = true) : ∀ n,
    (∀ scs k i t z, ScF E scs → cmiF E n (.expr scs k i) t = some z → t.items.length ≤ z.2.items.length ∧ z.2.used ≤ max t.used (64 * (E.inl + 1)) ∧ z.2.depth = t.depth + 1 ∧ z.2.jumps = t.jumps ∧ z.2.firsts = t.firsts) ∧
    (∀ scs k i m t z, ScF E scs → cmiF E n (.args scs k i m) t = some z → t.items.length ≤ z.2.items.length ∧ z.2.used ≤ max t.used (64 * (E.inl + 1)) ∧ z.2.depth = t.depth + (m : Int) ∧ z.2.jumps = t.jumps ∧ z.2.firsts = t.firsts) ∧
    (∀ scs k d t z, ScF E scs → cmiF E n (.lines scs k d) t = some z → t.items.length ≤ z.2.items.length ∧ z.2.used ≤ max t.used (64 * (E.inl + 1))) := by
  intro n
  induction n with
  | zero => exact ⟨fun _ _ _ _ _ _ h => by simp [cmiF] at h, fun _ _ _ _ _ _ _ h => by simp [cmiF] at h, fun _ _ _ _ _ _ h => by simp [cmiF] at h⟩
  | succ n ih =>
    obtain ⟨ihe, iha, ihl⟩ := ih
    refine ⟨fun scs k i t z hs h => ?_, fun scs k i m t z hs h => ?_, fun scs k d t z hs h => ?_⟩
    · rw [cmiF] at h
      obtain ⟨y, h1, h2⟩ := cbind h
      obtain ⟨a1, a2, a3, a4, a5⟩ := iha _ _ _ _ _ _ hs h1
      dsimp only at h2
      have fin : ∀ code arg, t.items.length ≤ (emitJ E y.2 code arg k (curS scs).chain).items.length ∧ (emitJ E y.2 code arg k (curS scs).chain).used ≤ max t.used (64 * (E.inl + 1)) ∧ t.depth + 1 = t.depth + 1 ∧ (emitJ E y.2 code arg k (curS scs).chain).jumps = t.jumps ∧ (emitJ E y.2 code arg k (curS scs).chain).firsts = t.firsts := fun code arg => by
        have q := onw_emit E y.2 code arg k (curS scs).chain
        exact ⟨Nat.le_trans a1 q.len, by rw [q.used]; exact a2, rfl, q.ju.trans a4, q.fi.trans a5⟩
      by_cases c0 : (tokAt E.p k i).kind = 0
      · rw [if_pos c0] at h2; obtain rfl := Option.some.inj h2; exact fin _ _
      rw [if_neg c0] at h2
      by_cases c1 : (tokAt E.p k i).kind = 1
      · rw [if_pos c1] at h2; obtain rfl := Option.some.inj h2; exact fin _ _
      rw [if_neg c1] at h2
      by_cases c7 : (tokAt E.p k i).kind = 7
      · rw [if_pos c7] at h2
        by_cases hr : replJ E scs y.2.items.length (findZ E.p (tokAt E.p k i).name).toNat = true
        · rw [if_pos hr] at h2
          cases hx : cmiF E n (.lines (newSc E (curS scs) (findZ E.p (tokAt E.p k i).name).toNat k :: scs) ((findZ E.p (tokAt E.p k i).name).toNat + 1) (enterJ E (curS scs) (newSc E (curS scs) (findZ E.p (tokAt E.p k i).name).toNat k) k y.2).depth) { enterJ E (curS scs) (newSc E (curS scs) (findZ E.p (tokAt E.p k i).name).toNat k) k y.2 with jumps := [], firsts := [], pend := false } with
          | none => rw [hx] at h2; cases h2
          | some q =>
            rw [hx] at h2
            obtain rfl := Option.some.inj h2
            have hn := hs.new h60 hv (k := k) hr
            obtain ⟨l1, l2⟩ := ihl _ _ _ _ _ hn hx
            obtain ⟨e1, e2, e3, e4, e5, e6⟩ := onw_enter E (curS scs) (newSc E (curS scs) (findZ E.p (tokAt E.p k i).name).toNat k) k y.2
            have hf := hn.2.2
            have hf2 : freeN E (newSc E (curS scs) (findZ E.p (tokAt E.p k i).name).toNat k) ≤ 64 * (scs.length + 1) := hf
            rw [(newSc_free E (curS scs) (findZ E.p (tokAt E.p k i).name).toNat k).2] at hf2
            have hl2 := hn.2.1
            rw [List.length_cons] at hl2
            refine ⟨Nat.le_trans a1 (Nat.le_trans e1 l1), ?_, rfl, a4, a5⟩
            have l2' : q.2.used ≤ max (enterJ E (curS scs) (newSc E (curS scs) (findZ E.p (tokAt E.p k i).name).toNat k) k y.2).used (64 * (E.inl + 1)) := l2
            rw [e2] at l2'
            show q.2.used ≤ _
            have : 64 * (scs.length + 1) ≤ 64 * (E.inl + 1) := Nat.mul_le_mul_left 64 hl2
            omega
        · rw [if_neg hr] at h2; obtain rfl := Option.some.inj h2; exact fin _ _
      · rw [if_neg c7] at h2; obtain rfl := Option.some.inj h2; exact fin _ _
    · cases m with
      | zero =>
        rw [cmiF] at h
        obtain rfl := Option.some.inj h
        exact ⟨Nat.le_refl _, Nat.le_max_left .., by simp, rfl, rfl⟩
      | succ m =>
        rw [cmiF] at h
        obtain ⟨y, h1, h2⟩ := cbind h
        obtain ⟨a1, a2, a3, a4, a5⟩ := ihe _ _ _ _ _ hs h1
        obtain ⟨b1, b2, b3, b4, b5⟩ := iha _ _ _ _ _ _ hs h2
        exact ⟨Nat.le_trans a1 b1, by omega, by rw [b3, a3]; push_cast; omega, b4.trans a4, b5.trans a5⟩
    · rw [cmiF] at h
      dsimp only at h
      have go : ∀ t' : CiS, t.items.length ≤ t'.items.length → t'.used ≤ max t.used (64 * (E.inl + 1)) → cmiF E n (.lines scs (k + 1) d) t' = some z → t.items.length ≤ z.2.items.length ∧ z.2.used ≤ max t.used (64 * (E.inl + 1)) := fun t' h1 h2 h3 => by
        obtain ⟨l1, l2⟩ := ihl _ _ _ _ _ hs h3
        exact ⟨Nat.le_trans h1 l1, by omega⟩
      have jmp : ∀ (t' : CiS) (code : Int) (l : Nat), t'.items.length ≤ (jumpJ E t' code l k (curS scs).chain).items.length ∧ (jumpJ E t' code l k (curS scs).chain).used = t'.used := fun t' code l => ⟨(onw_emit E t' code 0 k (curS scs).chain).len, rfl⟩
      have lea : ∀ (t' : CiS), t'.items.length ≤ (leaveJ E t' (curS scs) k).items.length ∧ (leaveJ E t' (curS scs) k).used = t'.used := fun t' => by
        unfold leaveJ
        split
        · exact jmp _ _ _
        · split
          · exact ⟨(onw_emit E t' _ _ k (curS scs).chain).len, rfl⟩
          · exact ⟨(onw_emit E t' _ _ k (curS scs).chain).len, rfl⟩
      by_cases he : beZ E.p ((curS scs).f : Int) < (k : Int)
      · rw [if_pos he] at h
        obtain rfl := Option.some.inj h
        refine ⟨?_, by show t.used ≤ _; omega⟩
        show _ ≤ (applyJ _ _ _ t.items).length
        have : ∀ (f : Nat) (F : List Nat) (J : List (Nat × Nat)) (l : List ItL), (applyJ f F J l).length = l.length := by
          intro f F J
          unfold applyJ
          induction J with
          | nil => intro l; rfl
          | cons j r ih => intro l; rw [List.foldl_cons, ih]; unfold setArg; rw [List.length_modify]
        rw [this]
        exact Nat.le_refl _
      rw [if_neg he] at h
      by_cases h4 : lkZ E.p (k : Int) = 4
      · rw [if_pos h4] at h
        exact go _ (jmp { t with depth := d, firsts := t.firsts ++ [t.items.length] } 10 (nxZ E.p k).toNat).1 (by rw [(jmp { t with depth := d, firsts := t.firsts ++ [t.items.length] } 10 (nxZ E.p k).toNat).2]; show t.used ≤ _; omega) h
      rw [if_neg h4] at h
      by_cases h7 : lkZ E.p (k : Int) = 7
      · rw [if_pos h7] at h
        by_cases hk : (k : Int) = beZ E.p ((curS scs).f : Int)
        · rw [if_pos hk] at h
          have q := onw_num E { t with depth := d, firsts := t.firsts ++ [t.items.length] } 0 k (curS scs).chain
          have q1 : t.items.length ≤ (numJ E { t with depth := d, firsts := t.firsts ++ [t.items.length] } 0 k (curS scs).chain).items.length := q.len
          have q2 : (numJ E { t with depth := d, firsts := t.firsts ++ [t.items.length] } 0 k (curS scs).chain).used = t.used := q.used
          by_cases ho : (curS scs).outer = true
          · rw [if_pos ho] at h
            have r := lea (numJ E { t with depth := d, firsts := t.firsts ++ [t.items.length] } 0 k (curS scs).chain)
            exact go _ (Nat.le_trans q1 r.1) (by rw [r.2, q2]; omega) h
          · rw [if_neg ho] at h
            exact go _ q1 (by rw [q2]; omega) h
        rw [if_neg hk] at h
        by_cases h5 : lkZ E.p (endOpen E.p k : Int) = 5
        · rw [if_pos h5] at h
          exact go _ (jmp { t with depth := d, firsts := t.firsts ++ [t.items.length] } 10 (endOpen E.p k)).1 (by rw [(jmp { t with depth := d, firsts := t.firsts ++ [t.items.length] } 10 (endOpen E.p k)).2]; show t.used ≤ _; omega) h
        · rw [if_neg h5] at h
          exact go { t with depth := d, firsts := t.firsts ++ [t.items.length] } (Nat.le_refl _) (by show t.used ≤ _; omega) h
      rw [if_neg h7] at h
      obtain ⟨y, h1, h2⟩ := cbind h
      obtain ⟨a1, a2, _⟩ := ihe _ _ _ _ _ hs h1
      have a1 : t.items.length ≤ y.2.items.length := a1
      have a2 : y.2.used ≤ max t.used (64 * (E.inl + 1)) := a2
      by_cases c1 : lkZ E.p (k : Int) = 1
      · rw [if_pos c1] at h2
        have q := onw_store E y.2 (curS scs) (varIx (curS scs).locs (nameAt E.p k)) k (curS scs).chain
        exact go _ (Nat.le_trans a1 q.len) (by rw [q.used]; exact a2) h2
      rw [if_neg c1] at h2
      by_cases c2 : lkZ E.p (k : Int) = 2
      · rw [if_pos c2] at h2
        have q := onw_emit E y.2 17 0 k (curS scs).chain
        exact go _ (Nat.le_trans a1 q.len) (by rw [q.used]; exact a2) h2
      rw [if_neg c2] at h2
      by_cases c6 : lkZ E.p (k : Int) = 6
      · rw [if_pos c6] at h2
        have q := lea y.2
        exact go _ (Nat.le_trans a1 q.1) (by rw [q.2]; exact a2) h2
      · rw [if_neg c6] at h2
        have q := jmp y.2 11 (nxZ E.p k).toNat
        exact go _ (Nat.le_trans a1 q.1) (by rw [q.2]; exact a2) h2
theorem cmi_ends {E : CmpE} : ∀ n, (∀ scs k i t z q, scanN ((exprAt E.p k).drop i) 1 = some q → cmiF E n (.expr scs k i) t = some z → z.1 = i + q) ∧ (∀ scs k i m t z q, scanN ((exprAt E.p k).drop i) m = some q → cmiF E n (.args scs k i m) t = some z → z.1 = i + q) := by
  intro n
  induction n with
  | zero => exact ⟨fun _ _ _ _ _ _ _ h => by simp [cmiF] at h, fun _ _ _ _ _ _ _ _ h => by simp [cmiF] at h⟩
  | succ n ih =>
    refine ⟨fun scs k i t z q hq h => ?_, fun scs k i m t z q hq h => ?_⟩
    · obtain ⟨hi, hb, q', rfl, hq'⟩ := scan_one _ _ _ hq
      rw [cmiF] at h
      obtain ⟨y, h1, h2⟩ := cbind h
      rw [tokAt_get E.p k i hi] at h1
      have e := ih.2 _ _ _ _ _ _ _ hq' h1
      dsimp only at h2
      have hz : z.1 = y.1 := by
        split at h2
        · obtain rfl := Option.some.inj h2; rfl
        · split at h2
          · obtain rfl := Option.some.inj h2; rfl
          · split at h2
            · split at h2
              · rename_i hr
                cases hx : cmiF E n (.lines (newSc E (curS scs) (findZ E.p (tokAt E.p k i).name).toNat k :: scs) ((findZ E.p (tokAt E.p k i).name).toNat + 1) (enterJ E (curS scs) (newSc E (curS scs) (findZ E.p (tokAt E.p k i).name).toNat k) k y.2).depth) { enterJ E (curS scs) (newSc E (curS scs) (findZ E.p (tokAt E.p k i).name).toNat k) k y.2 with jumps := [], firsts := [], pend := false } with
                | none => rw [hx] at h2; cases h2
                | some q => rw [hx] at h2; obtain rfl := Option.some.inj h2; rfl
              · obtain rfl := Option.some.inj h2; rfl
            · obtain rfl := Option.some.inj h2; rfl
      rw [hz, e]
      omega
    · cases m with
      | zero =>
        rw [cmiF] at h
        obtain rfl := Option.some.inj h
        have hq0 : q = 0 := by cases hd : (exprAt E.p k).drop i <;> rw [hd, scanN] at hq <;> exact (Option.some.inj hq).symm
        rw [hq0]; rfl
      | succ m =>
        obtain ⟨q1, q2, hq1, hq2, rfl⟩ := scan_next _ _ _ _ hq
        rw [cmiF] at h
        obtain ⟨y, h1, h2⟩ := cbind h
        have e1 := ih.1 _ _ _ _ _ _ hq1 h1
        have e2 := ih.2 _ _ _ _ _ _ _ (by rw [e1]; exact hq2) h2
        rw [e2, e1]; omega
end Go.Proofs.YtaplbefdijcceaaGreatDoor

namespace Go.Proofs.YtaplbefdijcceaaGreatDoor
open Go.RowKit Go.Lib
def argI (v : Int) (x : ItL) : ItL := { x with arg := v }
theorem setArg_at (l : List ItL) (j i : Nat) (v : Int) : (setArg l j v)[i]? = if i = j then (l[i]?).map (argI v) else l[i]? := by
  unfold setArg
  rw [List.getElem?_modify]
  by_cases h : i = j
  · subst h
    rw [if_pos rfl]
    cases l[i]? <;> simp [argI]
  · rw [if_neg h]
    cases l[i]? with
    | none => rfl
    | some x => simp [show ¬ j = i from fun e => h e.symm]
theorem patchL_at (js : List Nat) (v : Int) : ∀ (l : List ItL) (i : Nat), (patchL js v l)[i]? = if i ∈ js then (l[i]?).map (argI v) else l[i]? := by
  unfold patchL
  induction js with
  | nil => intro l i; simp
  | cons j r ih =>
    intro l i
    rw [List.foldl_cons, ih, setArg_at]
    by_cases h1 : i ∈ r
    · rw [if_pos h1, if_pos (List.mem_cons_of_mem _ h1)]
      by_cases h2 : i = j
      · rw [if_pos h2]
        cases l[i]? <;> rfl
      · rw [if_neg h2]
    · rw [if_neg h1]
      by_cases h2 : i = j
      · rw [if_pos h2, if_pos (by rw [h2]; exact List.mem_cons_self ..)]
      · rw [if_neg h2, if_neg (by simp [h1, h2])]
theorem patchX_at (ex : List (Int × Nat)) (to : Int) (l : List ItL) (i : Nat) : (patchX ex to l)[i]? = if (to, i) ∈ ex then (l[i]?).map (argI (l.length : Int)) else l[i]? := by
  unfold patchX
  rw [patchL_at]
  have : i ∈ (ex.filter fun e => decide (e.1 = to)).map (·.2) ↔ (to, i) ∈ ex := by
    simp only [List.mem_map, List.mem_filter, decide_eq_true_eq]
    constructor
    · rintro ⟨⟨a, b⟩, ⟨h1, h2⟩, h3⟩
      simp only at h2 h3
      rw [← h2, ← h3]
      exact h1
    · intro h
      exact ⟨(to, i), ⟨h, rfl⟩, rfl⟩
  by_cases h : (to, i) ∈ ex
  · rw [if_pos h, if_pos (this.2 h)]
  · rw [if_neg h, if_neg (fun e => h (this.1 e))]
def fixP (J : List (Nat × Nat)) (F : List Nat) (f i : Nat) (x : ItL) : ItL :=
  match J.find? (fun e => decide (e.1 = i)) with
  | none => x
  | some e => match F[e.2 - (f + 1)]? with
    | none => x
    | some v => argI (v : Int) x
def One (J : List (Nat × Nat)) : Prop := J.Pairwise fun a b => a.1 ≠ b.1
theorem find_of {J : List (Nat × Nat)} (h1 : One J) {i l : Nat} (h : (i, l) ∈ J) : J.find? (fun e => decide (e.1 = i)) = some (i, l) := by
  induction J with
  | nil => cases h
  | cons a r ih =>
    rw [List.find?_cons]
    rcases List.mem_cons.1 h with rfl | h
    · simp
    · have hne := (List.pairwise_cons.1 h1).1 _ h
      rw [decide_eq_false (show ¬ a.1 = i from hne)]
      exact ih (List.pairwise_cons.1 h1).2 h
theorem find_is {J : List (Nat × Nat)} {i : Nat} {e : Nat × Nat} (h : J.find? (fun e => decide (e.1 = i)) = some e) : e ∈ J ∧ e.1 = i := ⟨List.mem_of_find?_eq_some h, by simpa using List.find?_some h⟩
theorem find_none {J : List (Nat × Nat)} {i : Nat} (h : ∀ l, (i, l) ∉ J) : J.find? (fun e => decide (e.1 = i)) = none := by
  rw [List.find?_eq_none]
  intro e he
  simp only [decide_eq_true_eq]
  exact fun h' => h e.2 (by rw [← h']; exact he)
theorem fix_next {J : List (Nat × Nat)} {F : List Nat} {f i l len : Nat} {x : ItL} (h1 : One J) (hJ : ∀ j ∈ J, f < j.2) (hl : l = f + 1 + F.length) :
    ((i, l) ∈ J → fixP J (F ++ [len]) f i x = argI (len : Int) (fixP J F f i x)) ∧ ((i, l) ∉ J → fixP J (F ++ [len]) f i x = fixP J F f i x) := by
  refine ⟨fun h => ?_, fun h => ?_⟩
  · unfold fixP
    rw [find_of h1 h]
    dsimp only
    rw [show l - (f + 1) = F.length from by omega, List.getElem?_concat_length, List.getElem?_eq_none (Nat.le_refl _)]
  · unfold fixP
    cases hf : J.find? (fun e => decide (e.1 = i)) with
    | none => rfl
    | some e =>
      obtain ⟨he, hei⟩ := find_is hf
      have hne : e.2 ≠ l := fun e' => h (by rw [← hei, ← e']; exact he)
      have := hJ e he
      dsimp only
      by_cases hlt : e.2 - (f + 1) < F.length
      · rw [List.getElem?_append_left hlt]
      · rw [List.getElem?_eq_none (l := F ++ [len]) (by rw [List.length_append, List.length_singleton]; omega), List.getElem?_eq_none (by omega)]
theorem apply_at (f : Nat) (F : List Nat) : ∀ (J : List (Nat × Nat)) (l : List ItL) (i : Nat), One J → (∀ j ∈ J, j.2 - (f + 1) < F.length) → (applyJ f F J l)[i]? = (l[i]?).map (fixP J F f i) := by
  intro J
  unfold applyJ
  induction J with
  | nil => intro l i _ _; simp [fixP]; cases l[i]? <;> rfl
  | cons j r ih =>
    intro l i h1 h2
    rw [List.foldl_cons, ih _ i (List.pairwise_cons.1 h1).2 (fun k hk => h2 k (List.mem_cons_of_mem _ hk)), setArg_at]
    by_cases hi : i = j.1
    · have hno : ∀ q, (i, q) ∉ r := fun q hq => (List.pairwise_cons.1 h1).1 _ hq hi.symm
      have hlt := h2 j (List.mem_cons_self ..)
      rw [if_pos hi]
      cases l[i]? with
      | none => rfl
      | some x =>
        simp only [Option.map_some, Option.some.injEq]
        unfold fixP
        rw [find_none hno, List.find?_cons, decide_eq_true hi.symm]
        dsimp only
        unfold firstJ
        rw [List.getElem?_eq_getElem hlt]
        rfl
    · rw [if_neg hi]
      unfold fixP
      rw [List.find?_cons, decide_eq_false (fun e => hi e.symm)]
theorem apply_length (f : Nat) (F : List Nat) : ∀ (J : List (Nat × Nat)) (l : List ItL), (applyJ f F J l).length = l.length := by
  intro J
  unfold applyJ
  induction J with
  | nil => intro l; rfl
  | cons j r ih => intro l; rw [List.foldl_cons, ih, setArg_length]
def Rl (b : Nat) (M I : List ItL) (J : List (Nat × Nat)) (F : List Nat) (f : Nat) : Prop := M.length = I.length ∧ ∀ i, b ≤ i → M[i]? = (I[i]?).map (fixP J F f i)
theorem Rl.next {b f l : Nat} {M I : List ItL} {J : List (Nat × Nat)} {F : List Nat} (h : Rl b M I J F f) (h1 : One J) (hJ : ∀ j ∈ J, f < j.2) (hl : l = f + 1 + F.length) {M' : List ItL} (hm : M'.length = M.length)
    (P : Nat → Prop) (hP : ∀ i, (i, l) ∈ J ↔ P i) (hy : ∀ i, P i → M'[i]? = (M[i]?).map (argI (M.length : Int))) (hn : ∀ i, ¬ P i → M'[i]? = M[i]?) : Rl b M' I J (F ++ [I.length]) f := by
  refine ⟨hm.trans h.1, fun i hi => ?_⟩
  by_cases hp : P i
  · rw [hy i hp, h.2 i hi, h.1]
    cases I[i]? with
    | none => rfl
    | some x => simp only [Option.map_some]; rw [(fix_next h1 hJ hl).1 ((hP i).2 hp)]
  · rw [hn i hp, h.2 i hi]
    cases I[i]? with
    | none => rfl
    | some x => simp only [Option.map_some]; rw [(fix_next h1 hJ hl).2 (fun e => hp ((hP i).1 e))]
theorem Rl.app {b f : Nat} {M I : List ItL} {J : List (Nat × Nat)} {F : List Nat} (h : Rl b M I J F f) (hb : ∀ j ∈ J, j.1 < I.length) (new : List ItL) : Rl b (M ++ new) (I ++ new) J F f := by
  refine ⟨by rw [List.length_append, List.length_append, h.1], fun i hi => ?_⟩
  by_cases hlt : i < I.length
  · rw [List.getElem?_append_left (by rw [h.1]; exact hlt), List.getElem?_append_left hlt]
    exact h.2 i hi
  · rw [List.getElem?_append_right (by rw [h.1]; omega), List.getElem?_append_right (by omega), h.1]
    have hno : ∀ q, (i, q) ∉ J := fun q hq => by have := hb _ hq; omega
    cases new[i - I.length]? with
    | none => rfl
    | some x =>
      simp only [Option.map_some, Option.some.injEq]
      unfold fixP
      rw [find_none hno]
theorem one_snoc {J : List (Nat × Nat)} {n l : Nat} (h : One J) (hb : ∀ j ∈ J, j.1 < n) : One (J ++ [(n, l)]) := by
  unfold One
  rw [List.pairwise_append]
  exact ⟨h, List.pairwise_singleton _ _, fun a ha c hc => by
    obtain rfl : c = (n, l) := by simpa using hc
    have := hb a ha
    show a.1 ≠ n
    omega⟩
theorem Rl.jump {b f : Nat} {M I : List ItL} {J : List (Nat × Nat)} {F : List Nat} (h : Rl b M I J F f) (h1 : One J) (hb : ∀ j ∈ J, j.1 < I.length) (x y : ItL) (l : Nat) (hx : x = match F[l - (f + 1)]? with
    | none => y
    | some v => argI (v : Int) y) : Rl b (M ++ [x]) (I ++ [y]) (J ++ [(I.length, l)]) F f := by
  refine ⟨by rw [List.length_append, List.length_append, h.1]; rfl, fun i hi => ?_⟩
  have h2 := one_snoc (l := l) h1 hb
  by_cases hlt : i < I.length
  · rw [List.getElem?_append_left (by rw [h.1]; exact hlt), List.getElem?_append_left hlt, h.2 i hi]
    have : ∀ z, fixP (J ++ [(I.length, l)]) F f i z = fixP J F f i z := fun z => by
      unfold fixP
      rw [List.find?_append]
      cases hf : J.find? (fun e => decide (e.1 = i)) with
      | none =>
        have : List.find? (fun e : Nat × Nat => decide (e.1 = i)) [(I.length, l)] = none := by
          rw [List.find?_eq_none]
          intro e he
          obtain rfl : e = (I.length, l) := by simpa using he
          simp
          omega
        rw [this]
        rfl
      | some e => rfl
    cases I[i]? with
    | none => rfl
    | some z => simp only [Option.map_some]; rw [this]
  · rw [List.getElem?_append_right (by rw [h.1]; omega), List.getElem?_append_right (by omega), h.1]
    by_cases he : i = I.length
    · subst he
      rw [Nat.sub_self]
      simp only [List.getElem?_cons_zero, Option.map_some, Option.some.injEq]
      unfold fixP
      rw [find_of h2 (List.mem_append_right _ (List.mem_singleton.2 rfl))]
      exact hx
    · rw [List.getElem?_eq_none (l := [x]) (by rw [List.length_singleton]; omega), List.getElem?_eq_none (l := [y]) (by rw [List.length_singleton]; omega)]
      rfl
end Go.Proofs.YtaplbefdijcceaaGreatDoor

namespace Go.Proofs.YtaplbefdijcceaaGreatDoor
open Go.RowKit Go.Lib
structure ScsOk (E : CmpE) (scs : List ScL) : Prop where
  ok : ScOk E scs
  f : (curS scs).f ∈ funs E.p
  lo : (curS scs).locs = locZ E.p ((curS scs).f : Int)
def Kn (E : CmpE) (scs : List ScL) (k : Nat) : Prop := ∀ u ∈ exprAt E.p k, knownP E.p (curS scs).locs u
theorem ScsOk.new {E : CmpE} {scs : List ScL} {s : CmpS} {g k : Nat} (h : ScsOk E scs) (hr : replB E scs s g = true) (hg : g ∈ funs E.p) : ScsOk E (newSc E (curS scs) g k :: scs) := ⟨h.ok.new hr, hg, rfl⟩
structure Head (E : CmpE) (f b k : Nat) (heads : List Int) (exits : List (Int × Nat)) (s : CmpS) (t : CiS) : Prop where
  b0 : 0 < b
  bl : b ≤ t.items.length
  use : t.used = s.most
  st : s.start = false
  pe : t.pend = false
  rel : Rl b (patchX exits (k : Int) s.items) t.items t.jumps (t.firsts ++ [t.items.length]) f
  fl : t.firsts.length = k - (f + 1)
  hl : heads.length = E.p.length
  hd : ∀ j : Nat, f < j → j < k → lkZ E.p (j : Int) = 5 → heads[j]? = (t.firsts[j - (f + 1)]?).map fun (v : Nat) => (v : Int)
  jx : ∀ i l : Nat, k < l → ((i, l) ∈ t.jumps ↔ ((l : Int), i) ∈ exits ∨ (-((l : Int) - 1), i) ∈ exits ∨ ((l : Int) = beZ E.p (f : Int) + 1 ∧ i ∈ s.leaves))
  ex : ∀ e ∈ exits, e.1 ≤ beZ E.p (f : Int) ∧ (e.1 < 0 → lkZ E.p (-e.1) = 4) ∧ b ≤ e.2
  one : One t.jumps
  jb : ∀ j ∈ t.jumps, b ≤ j.1 ∧ j.1 < t.items.length ∧ f < j.2 ∧ (j.2 : Int) ≤ beZ E.p (f : Int) + 1
theorem patchX_none {ex : List (Int × Nat)} {to : Int} (h : ∀ i, (to, i) ∉ ex) (l : List ItL) : patchX ex to l = l := by
  apply List.ext_getElem?
  intro i
  rw [patchX_at, if_neg (h i)]
theorem Head.next {E : CmpE} {f b k : Nat} {heads : List Int} {ex : List (Int × Nat)} {s s' : CmpS} {t : CiS} (hfk : f < k) (hke : (k : Int) < beZ E.p (f : Int)) (hs : s'.items = patchX ex (-(k : Int)) s.items) (hlv : s'.leaves = s.leaves)
    (b0 : 0 < b) (bl : b ≤ t.items.length) (use : t.used = s'.most) (st : s'.start = false) (pe : t.pend = false) (rel : Rl b s.items t.items t.jumps t.firsts f) (fl : t.firsts.length = k - f) (hl : heads.length = E.p.length)
    (hd : ∀ j : Nat, f < j → j < k + 1 → lkZ E.p (j : Int) = 5 → heads[j]? = (t.firsts[j - (f + 1)]?).map fun (v : Nat) => (v : Int))
    (jx : ∀ i l : Nat, k < l → ((i, l) ∈ t.jumps ↔ ((l : Int), i) ∈ ex ∨ (-((l : Int) - 1), i) ∈ ex ∨ ((l : Int) = beZ E.p (f : Int) + 1 ∧ i ∈ s.leaves)))
    (hex : ∀ e ∈ ex, e.1 ≤ beZ E.p (f : Int) ∧ (e.1 < 0 → lkZ E.p (-e.1) = 4) ∧ b ≤ e.2) (one : One t.jumps) (jb : ∀ j ∈ t.jumps, b ≤ j.1 ∧ j.1 < t.items.length ∧ f < j.2 ∧ (j.2 : Int) ≤ beZ E.p (f : Int) + 1) :
    Head E f b (k + 1) heads ex s' t := by
  refine ⟨b0, bl, use, st, pe, ?_, by rw [fl]; omega, hl, hd, fun i l hl => by rw [hlv]; exact jx i l (by omega), hex, one, jb⟩
  rw [hs]
  have hp := jx
  refine rel.next (l := k + 1) one (fun j hj => (jb j hj).2.2.1) (by rw [fl]; omega) (by rw [patchX_length, patchX_length]) (fun i => (((k + 1 : Nat) : Int), i) ∈ ex ∨ (-(k : Int), i) ∈ ex) (fun i => ?_) (fun i h => ?_) (fun i h => ?_)
  · rw [jx i (k + 1) (by omega), show (-(((k + 1 : Nat) : Int) - 1)) = -(k : Int) from by omega]
    constructor
    · rintro (h | h | h)
      · exact .inl h
      · exact .inr h
      · have := h.1; omega
    · rintro (h | h)
      · exact .inl h
      · exact .inr (.inl h)
  · rw [patchX_at, patchX_at, patchX_length]
    by_cases h1 : (((k + 1 : Nat) : Int), i) ∈ ex
    · rw [if_pos h1]
      by_cases h2 : (-(k : Int), i) ∈ ex
      · rw [if_pos h2]
        cases s.items[i]? <;> rfl
      · rw [if_neg h2]
    · rw [if_neg h1, if_pos (h.resolve_left h1)]
  · rw [patchX_at, patchX_at, if_neg (fun e => h (.inl e)), if_neg (fun e => h (.inr e))]
structure Body (b : Nat) (o : Bool) (s : CmpS) (t : CiS) (s' : CmpS) (t' : CiS) : Prop where
  use : t'.used = s'.most
  dep : s'.depth = s.depth
  st : s'.start = false
  len : t'.items.length = s'.items.length
  lm : s.items.length ≤ s'.items.length
  lo : ∀ i, i < b → s'.items[i]? = s.items[i]? ∧ t'.items[i]? = t.items[i]?
  hi : ∀ i, b ≤ i → (patchL s'.leaves (s'.items.length : Int) s'.items)[i]? = t'.items[i]?
  lb : ∀ j ∈ s'.leaves, b ≤ j
  lv : o = true → s'.leaves = s.leaves
def PE (E : CmpE) (n : Nat) : Prop := ∀ scs k i s z t q, cmpF E n (.expr scs k i) s = some z → ScsOk E scs → Kn E scs k → scanN ((exprAt E.p k).drop i) 1 = some q → Tie s t →
  z.1 = i + q ∧ z.2.depth = s.depth + 1 ∧ z.2.start = false ∧ ∃ t', cmiF E n (.expr scs k i) t = some (z.1, t') ∧ Gr s t z.2 t'
def PA (E : CmpE) (n : Nat) : Prop := ∀ scs k i m s z t q, cmpF E n (.args scs k i m) s = some z → ScsOk E scs → Kn E scs k → scanN ((exprAt E.p k).drop i) m = some q → Tie s t →
  z.1 = i + q ∧ z.2.depth = s.depth + (m : Int) ∧ ∃ t', cmiF E n (.args scs k i m) t = some (z.1, t') ∧ Gr s t z.2 t'
def PL (E : CmpE) (n : Nat) : Prop := ∀ scs k heads exits s z t b, cmpF E n (.lines scs k heads exits) s = some z → ScsOk E scs → (curS scs).f < k → (k : Int) ≤ beZ E.p ((curS scs).f : Int) → Head E (curS scs).f b k heads exits s t →
  ∃ t', cmiF E n (.lines scs k s.depth) t = some (0, t') ∧ Body b (curS scs).outer s t z.2 t'
theorem bind_some {α β : Type} {x : Option α} {f : α → Option β} {z : β} (h : x.bind f = some z) : ∃ y, x = some y ∧ f y = some z := by
  cases x with
  | none => cases h
  | some y => exact ⟨y, rfl, h⟩
theorem map_some {α β : Type} {x : Option α} {f : α → β} {z : β} (h : x.map f = some z) : ∃ y, x = some y ∧ f y = z := by
  cases x with
  | none => cases h
  | some y => exact ⟨y, rfl, Option.some.inj h⟩
theorem pa_step {E : CmpE} {n : Nat} (he : PE E n) (ha : PA E n) : PA E (n + 1) := by
  intro scs k i m s z t q h hs hk hq ht
  cases m with
  | zero =>
    rw [cmpF] at h
    obtain rfl := Option.some.inj h
    have hq0 : q = 0 := by cases hd : (exprAt E.p k).drop i <;> rw [hd, scanN] at hq <;> exact (Option.some.inj hq).symm
    exact ⟨by rw [hq0]; rfl, by simp, t, by rw [cmiF], Gr.refl ht⟩
  | succ m =>
    rw [cmpF] at h
    obtain ⟨y, h1, h2⟩ := bind_some h
    obtain ⟨q1, q2, hq1, hq2, rfl⟩ := scan_next _ _ _ _ hq
    obtain ⟨e1, e2, _, t1, e4, e5⟩ := he scs k i s y t q1 h1 hs hk hq1 ht
    obtain ⟨d1, d2, t2, d3, d4⟩ := ha scs k y.1 m y.2 z t1 q2 h2 hs hk (by rw [e1]; exact hq2) e5.tie
    refine ⟨by rw [d1, e1]; omega, by rw [d2, e2]; push_cast; omega, t2, ?_, e5.trans d4⟩
    rw [cmiF, e4]
    exact d3
theorem tok_mid {u : TokL} (hb : tokB u = true) (h0 : u.kind ≠ 0) (h1 : u.kind ≠ 1) (h7 : u.kind ≠ 7) : 2 ≤ u.kind ∧ u.kind ≤ 6 := by have := tok_kind hb; omega
theorem pe_step {E : CmpE} (ho : OkI E.p) (har : ∀ u : TokL, tokB u = true → (u.kind = 0 ∨ u.kind = 1 → arN u = 0) ∧ (2 ≤ u.kind → u.kind ≤ 6 → arN u = 2) ∧ (u.kind = 7 → (arN u : Int) = u.num)) {n : Nat} (ha : PA E n) (hl : PL E n) : PE E (n + 1) := by
  intro scs k i s z t q h hs hk hq ht
  obtain ⟨hi, hb, q', rfl, hq'⟩ := scan_one _ _ _ hq
  have htk := tokAt_get E.p k i hi
  have hkn := hk _ (List.getElem_mem hi)
  rw [cmpF] at h
  rw [← htk] at hb hq' hkn
  obtain ⟨u, hu⟩ : ∃ u, tokAt E.p k i = u := ⟨_, rfl⟩
  simp only [hu] at h
  rw [hu] at hb hq' hkn
  obtain ⟨y, h1, h2⟩ := bind_some h
  obtain ⟨a1, a2, t1, a3, a4⟩ := ha scs k (i + 1) (arN u) s y t q' h1 hs hk hq' ht
  obtain ⟨r0, r2, r7⟩ := har u hb
  have hy1 : y.1 = i + (q' + 1) := by rw [a1]; omega
  rw [cmiF]
  simp only [hu, a3, Option.bind_some]
  by_cases c0 : u.kind = 0
  · rw [if_pos c0] at h2 ⊢
    obtain rfl := Option.some.inj h2
    have hz := r0 (.inl c0)
    rw [hz] at a2
    exact ⟨hy1, by show y.2.depth + 1 = _; rw [a2]; simp, rfl, _, rfl, a4.trans ((Gr.emit a4.tie E 0 u.num k _ (by decide)).depI 1 _ (by show y.2.depth + 1 = t.depth + 1; rw [a2, ht.dep]; simp))⟩
  rw [if_neg c0] at h2 ⊢
  by_cases c1 : u.kind = 1
  · rw [if_pos c1] at h2 ⊢
    obtain rfl := Option.some.inj h2
    have hz := r0 (.inr c1)
    rw [hz] at a2
    refine ⟨hy1, by show y.2.depth + 1 = _; rw [a2]; simp, rfl, _, rfl, a4.trans ?_⟩
    have hp := placeZ_ne E y.2.depth (curS scs) (varIx (curS scs).locs u.name)
    rw [a4.tie.dep]
    exact (Gr.emit a4.tie E _ _ k _ hp.1).depI 1 _ (by show y.2.depth + 1 = t.depth + 1; rw [a2, ht.dep]; simp)
  rw [if_neg c1] at h2 ⊢
  by_cases c7 : u.kind = 7
  · rw [if_pos c7] at h2 ⊢
    obtain ⟨k1, k2⟩ := hkn.2 c7
    have hgf : (findZ E.p u.name).toNat ∈ funs E.p := findZ_fun E.p u.name _ (by omega)
    have hgz : (((findZ E.p u.name).toNat : Nat) : Int) = findZ E.p u.name := by omega
    have hn7 := r7 c7
    obtain ⟨g, hg⟩ : ∃ g, (findZ E.p u.name).toNat = g := ⟨_, rfl⟩
    simp only [hg] at h2 ⊢
    rw [hg] at hgf hgz
    rw [a4.tie.len, ← replJ_is]
    by_cases hr : replB E scs y.2 g = true
    · rw [if_pos hr] at h2 ⊢
      obtain ⟨z1, h3, h4⟩ := map_some h2
      obtain ⟨e1, e2, e3⟩ := Gr.enter a4.tie E (curS scs) (newSc E (curS scs) g k) k
      have hE2 : (enterI E (curS scs) (newSc E (curS scs) g k) k y.2).depth = s.depth := by
        rw [e2, a2]
        show s.depth + (arN u : Int) - ((argsZ E.p (g : Int)).length : Int) = s.depth
        rw [hn7, hgz, k2]
        omega
      obtain ⟨s1, hs1⟩ : ∃ s1, enterI E (curS scs) (newSc E (curS scs) g k) k y.2 = s1 := ⟨_, rfl⟩
      obtain ⟨t2, ht2⟩ : ∃ t2, enterJ E (curS scs) (newSc E (curS scs) g k) k t1 = t2 := ⟨_, rfl⟩
      rw [hs1] at h3 h4 e1 e3 hE2
      rw [ht2] at e1 ⊢
      have hpe : t2.pend = false := by rw [e1.tie.pen, e3]
      have hbz : 0 ≤ beZ E.p (g : Int) := by
        obtain ⟨_, _, h', _⟩ := fun_parts ho hgf
        omega
      obtain ⟨j, hj, hjl, _, hj2, _⟩ := beZ_is E.p (g : Int) hbz
      have hbl := beZ_lt E.p (g : Int)
      have hH : Head E g s1.items.length (g + 1) (List.replicate E.p.length 0) [] { s1 with leaves := [] } { t2 with jumps := [], firsts := [], pend := false } :=
        { b0 := e1.tie.ne, bl := Nat.le_of_eq e1.tie.len.symm, use := e1.tie.use, st := e3, pe := rfl
          rel := ⟨by rw [patchX_length]; exact e1.tie.len.symm, fun i hi => by
            rw [patchX_at, if_neg (by simp), List.getElem?_eq_none hi, List.getElem?_eq_none (by show t2.items.length ≤ i; rw [e1.tie.len]; exact hi)]; rfl⟩
          fl := by show 0 = g + 1 - (g + 1); omega
          hl := List.length_replicate
          hd := fun j h1 h2 _ => by omega
          jx := fun i l _ => by simp
          ex := fun e he => by cases he
          one := List.Pairwise.nil
          jb := fun e he => by cases he }
      obtain ⟨t3, f1, f2⟩ := hl (newSc E (curS scs) g k :: scs) (g + 1) _ _ _ z1 _ _ h3 (hs.new hr hgf) (Nat.lt_succ_self g) (by show ((g + 1 : Nat) : Int) ≤ beZ E.p (g : Int); omega) hH
      have f1' : cmiF E n (.lines (newSc E (curS scs) g k :: scs) (g + 1) t2.depth) { t2 with jumps := [], firsts := [], pend := false } = some (0, t3) := by
        obtain ⟨T, hT⟩ : ∃ T : CiS, { t2 with jumps := [], firsts := [], pend := false } = T := ⟨_, rfl⟩
        rw [hT] at f1 ⊢
        rw [e1.tie.dep]
        exact f1
      rw [f1']
      obtain rfl := h4
      have hlen := f2.len
      refine ⟨hy1, ?_, f2.st, _, rfl, (a4.trans e1).trans ?_⟩
      · show s1.depth + 1 = _
        rw [hE2]
      · obtain ⟨new, hn1⟩ : ∃ new, t3.items = t2.items ++ new := ⟨t3.items.drop s1.items.length, by
          apply List.ext_getElem?
          intro i
          by_cases hi : i < s1.items.length
          · rw [List.getElem?_append_left (by rw [e1.tie.len]; exact hi), (f2.lo i hi).2]
          · rw [List.getElem?_append_right (by rw [e1.tie.len]; omega), List.getElem?_drop, e1.tie.len, show s1.items.length + (i - s1.items.length) = i from by omega]⟩
        have hn2 : patchL z1.2.leaves (z1.2.items.length : Int) z1.2.items = s1.items ++ new := by
          apply List.ext_getElem?
          intro i
          by_cases hi : i < s1.items.length
          · rw [patchL_at, if_neg (fun h => by have := f2.lb i h; omega), (f2.lo i hi).1, List.getElem?_append_left hi]
          · rw [f2.hi i (by omega), hn1, List.getElem?_append_right (by rw [e1.tie.len]; omega), List.getElem?_append_right (by omega), e1.tie.len]
        refine ⟨⟨new, hn2, hn1⟩, e1.lv.symm, e1.ju.symm, e1.fi.symm, ⟨?_, ?_, ?_, f2.use, ?_⟩⟩
        · show t3.items.length = (patchL z1.2.leaves (z1.2.items.length : Int) z1.2.items).length
          rw [patchL_length, hlen]
        · show 0 < (patchL z1.2.leaves (z1.2.items.length : Int) z1.2.items).length
          rw [patchL_length]
          have := f2.lm
          have := e1.tie.ne
          exact Nat.lt_of_lt_of_le e1.tie.ne f2.lm
        · show t.depth + 1 = s1.depth + 1
          rw [hE2, ht.dep]
        · show t2.pend = z1.2.start
          rw [hpe, f2.st]
    · rw [if_neg hr] at h2 ⊢
      obtain rfl := Option.some.inj h2
      exact ⟨hy1, by show y.2.depth + (1 - u.num) = _; rw [a2, hn7]; omega, rfl, _, rfl, a4.trans ((Gr.emit a4.tie E 12 _ k _ (by decide)).depI (1 - u.num) _ (by show y.2.depth + (1 - u.num) = t.depth + 1; rw [a2, hn7, ht.dep]; omega))⟩
  · rw [if_neg c7] at h2 ⊢
    obtain rfl := Option.some.inj h2
    have hm := tok_mid hb c0 c1 c7
    have hz := r2 hm.1 hm.2
    rw [hz] at a2
    exact ⟨hy1, by show y.2.depth + -1 = _; rw [a2]; push_cast; omega, rfl, _, rfl, a4.trans ((Gr.emit a4.tie E _ 0 k _ (by omega)).depI (-1) _ (by show y.2.depth + -1 = t.depth + 1; rw [a2, ht.dep]; push_cast; omega))⟩
end Go.Proofs.YtaplbefdijcceaaGreatDoor

namespace Go.Proofs.YtaplbefdijcceaaGreatDoor
open Go.RowKit Go.Lib
theorem filter_one {l : List Nat} {P : Nat → Bool} {w : Nat} (hn : l.Nodup) (hw : w ∈ l) (h : ∀ i ∈ l, P i = true ↔ i = w) : l.filter P = [w] := by
  induction l with
  | nil => cases hw
  | cons a r ih =>
    obtain ⟨h1, h2⟩ := List.nodup_cons.1 hn
    rcases List.mem_cons.1 hw with rfl | hw
    · rw [List.filter_cons_of_pos ((h w (List.mem_cons_self ..)).2 rfl)]
      rw [List.filter_eq_nil_iff.2 fun i hi => fun e => h1 (by rw [← (h i (List.mem_cons_of_mem _ hi)).1 e]; exact hi)]
    · rw [List.filter_cons_of_neg fun e => h1 (by rw [(h a (List.mem_cons_self ..)).1 e]; exact hw)]
      exact ih h2 hw fun i hi => h i (List.mem_cons_of_mem _ hi)
theorem back_one {p : List PLine} {f k w : Nat} (h1 : f < w) (h2 : w < k) (hb : beZ p (w : Int) = (k : Int)) (h5 : lkZ p (w : Int) = 5) : backIx p f k = [w] := by
  unfold backIx
  refine filter_one List.nodup_range' (by simp [List.mem_range']; exact ⟨w - (f + 1), by omega, by omega⟩) fun i hi => ?_
  simp only [decide_eq_true_eq]
  have hik : i < k := by
    obtain ⟨d, h, rfl⟩ := List.mem_range'.1 hi
    omega
  constructor
  · rintro ⟨h, _⟩
    rw [← end_one hik h, end_one h2 hb]
  · rintro rfl
    exact ⟨hb, h5⟩
theorem back_none {p : List PLine} {f k : Nat} (h : lkZ p (endOpen p k : Int) ≠ 5) : backIx p f k = [] := by
  unfold backIx
  refine List.filter_eq_nil_iff.2 fun i hi => ?_
  simp only [decide_eq_true_eq]
  rintro ⟨h1, h5⟩
  have hik : i < k := by
    obtain ⟨d, h, rfl⟩ := List.mem_range'.1 hi
    omega
  exact h (by rw [end_one hik h1]; exact h5)
theorem else_one {p : List PLine} {f k len : Nat} {to : Int} {i : Nat} (hf : f < elseOpen p k) (hlt : elseOpen p k < k) (he : elseZ p (elseOpen p k : Int) = (k : Int)) (h3 : ∀ w : Nat, elseZ p (w : Int) = (k : Int) → lkZ p (w : Int) = 3 ∧ (k : Int) < beZ p (w : Int)) :
    (to, i) ∈ elseEx p f k len ↔ to = beZ p (elseOpen p k : Int) + 1 ∧ i = len := by
  unfold elseEx
  rw [filter_one (w := elseOpen p k) List.nodup_range' (by simp [List.mem_range']; exact ⟨elseOpen p k - f, by omega, by omega⟩) fun w hw => ?_]
  · simp
  · simp only [decide_eq_true_eq]
    have hwk : w < k := by
      obtain ⟨d, h, rfl⟩ := List.mem_range'.1 hw
      omega
    constructor
    · intro hw2
      obtain ⟨a1, a2⟩ := h3 w hw2
      obtain ⟨b1, b2⟩ := h3 _ he
      rcases Nat.lt_trichotomy w (elseOpen p k) with h | h | h
      · have := else_level hw2 h hlt (.inl b1); omega
      · exact h
      · have := else_level he h hwk (.inl a1); omega
    · rintro rfl; exact he
theorem elseZ_3 {p : List PLine} {w k : Nat} (h : elseZ p (w : Int) = (k : Int)) : lkZ p (w : Int) = 3 ∧ (k : Int) < beZ p (w : Int) := by
  have hlt := elseZ_lt p (w : Int) (by omega)
  refine ⟨?_, by omega⟩
  unfold elseZ at h
  split at h
  · rename_i hc; exact hc.2
  · omega
theorem Body.trans {b : Nat} {o : Bool} {s s1 s' : CmpS} {t t1 t' : CiS} (h : Body b o s1 t1 s' t') (hd : s1.depth = s.depth) (hl : s.items.length ≤ s1.items.length) (hs : ∀ i, i < b → s1.items[i]? = s.items[i]?) (ht : ∀ i, i < b → t1.items[i]? = t.items[i]?) (hv : o = true → s1.leaves = s.leaves) : Body b o s t s' t' :=
  ⟨h.use, h.dep.trans hd, h.st, h.len, Nat.le_trans hl h.lm, fun i hi => ⟨(h.lo i hi).1.trans (hs i hi), (h.lo i hi).2.trans (ht i hi)⟩, h.hi, h.lb, fun e => (h.lv e).trans (hv e)⟩
theorem app_lo {l new : List ItL} {b : Nat} (h : b ≤ l.length) (i : Nat) (hi : i < b) : (l ++ new)[i]? = l[i]? := List.getElem?_append_left (by omega)
theorem patch_lo {ex : List (Int × Nat)} {to : Int} {l : List ItL} {b : Nat} (h : ∀ e ∈ ex, b ≤ e.2) (i : Nat) (hi : i < b) : (patchX ex to l)[i]? = l[i]? := by
  rw [patchX_at, if_neg (fun hm => by have := h _ hm; omega)]
theorem pl_step {E : CmpE} (ho : OkI E.p) {n : Nat} (he : PE E n) (hl : PL E n) : PL E (n + 1) := by
  intro scs k heads exits s z t b h hs hfk hke H
  have hend := beZ_lt E.p ((curS scs).f : Int)
  have hk : k < E.p.length := by omega
  have hlk := lkZ_at E.p k hk
  have hlb := ho.1.2 _ (List.getElem_mem hk)
  have h0 : 0 ≤ beZ E.p ((curS scs).f : Int) := by omega
  obtain ⟨sc, hsc⟩ : ∃ sc, curS scs = sc := ⟨_, rfl⟩
  have hf := hs.f
  have hlo := hs.lo
  rw [hsc] at hfk hke H h0 hend hf hlo
  have hlen : s.items.length = t.items.length := by have := H.rel.1; rw [patchX_length] at this; exact this
  have hbs : b ≤ s.items.length := by rw [hlen]; exact H.bl
  -- the beginning of the line
  obtain ⟨F1, hF1⟩ : ∃ F1, t.firsts ++ [t.items.length] = F1 := ⟨_, rfl⟩
  have hF1l : F1.length = k - sc.f := by rw [← hF1, List.length_append, List.length_singleton, H.fl]; omega
  have hexb : ∀ e ∈ exits, b ≤ e.2 := fun e he => (H.ex e he).2.2
  have hplo := fun (to : Int) (i : Nat) (hi : i < b) => patch_lo (to := to) (l := s.items) hexb i hi
  have hplen : (patchX exits (k : Int) s.items).length = s.items.length := patchX_length _ _ _
  have hrel := H.rel
  rw [hF1] at hrel
  have hT1 : Tie { patchI s exits (k : Int) with start := true } { t with depth := s.depth, firsts := F1, pend := true } := ⟨by show t.items.length = (patchX exits (k : Int) s.items).length; rw [hplen, hlen], by show 0 < (patchX exits (k : Int) s.items).length; rw [hplen]; have := H.b0; omega, rfl, H.use, rfl⟩
  have hT0 : Tie (patchI s exits (k : Int)) { t with depth := s.depth, firsts := F1 } := ⟨hT1.len, hT1.ne, rfl, H.use, by show t.pend = s.start; rw [H.pe, H.st]⟩
  have hd1 : ∀ j : Nat, sc.f < j → j < k → lkZ E.p (j : Int) = 5 → heads[j]? = (F1[j - (sc.f + 1)]?).map fun (v : Nat) => (v : Int) := fun j h1 h2 h3 => by
    rw [H.hd j h1 h2 h3, ← hF1, List.getElem?_append_left (by rw [H.fl]; omega)]
  have hlt : ∀ j ∈ t.jumps, j.1 < t.items.length := fun j hj => (H.jb j hj).2.1
  have hjb2 : ∀ {m : Nat}, t.items.length ≤ m → ∀ j ∈ t.jumps, b ≤ j.1 ∧ j.1 < m ∧ sc.f < j.2 ∧ (j.2 : Int) ≤ beZ E.p (sc.f : Int) + 1 := fun hm j hj => by have := H.jb j hj; omega
  rw [cmpF] at h
  rw [cmiF]
  simp only [hsc] at h ⊢
  rw [if_neg (by omega)] at h ⊢
  simp only [hF1]
  by_cases hlast : (k : Int) = beZ E.p (sc.f : Int)
  · -- the end of the function
    have h7 : lkZ E.p (k : Int) = 7 := by rw [hlast]; exact beZ_7 E.p _ h0
    rw [if_neg (by omega), if_pos h7, if_pos hlast] at h ⊢
    obtain ⟨n', rfl⟩ : ∃ n', n = n' + 1 := by
      cases n with
      | zero => simp [cmpF] at h
      | succ n => exact ⟨n, rfl⟩
    rw [cmpF] at h
    simp only [hsc] at h
    rw [if_pos (by omega)] at h
    obtain rfl := Option.some.inj h
    rw [cmiF]
    simp only [hsc]
    rw [if_pos (by omega)]
    have g1 := Gr.num hT0 E 0 k sc.chain
    obtain ⟨s2, hs2⟩ : ∃ s2, leaveI E (numI E (patchI s exits (k : Int)) 0 k sc.chain) sc k true = s2 := ⟨_, rfl⟩
    obtain ⟨t2, ht2⟩ : ∃ t2, (if sc.outer = true then leaveJ E (numJ E { t with depth := s.depth, firsts := F1 } 0 k sc.chain) sc k else numJ E { t with depth := s.depth, firsts := F1 } 0 k sc.chain) = t2 := ⟨_, rfl⟩
    rw [hs2, ht2]
    have key : (∃ new, s2.items = patchX exits (k : Int) s.items ++ new ∧ t2.items = t.items ++ new) ∧ s2.leaves = s.leaves ∧ t2.jumps = t.jumps ∧ t2.firsts = F1 ∧ s2.depth = s.depth ∧ s2.start = false ∧ t2.used = s2.most := by
      rw [← hs2, ← ht2]
      unfold leaveI leaveJ
      by_cases hou : sc.outer = true
      · have hou0 : ¬ sc.outer = false := by rw [hou]; decide
        rw [if_neg hou0, if_pos hou, if_neg hou0]
        by_cases hfr : E.framed = true
        · rw [if_pos hfr, if_pos hfr]
          have g2 := g1.trans (Gr.emit g1.tie E 14 (E.args : Int) k sc.chain (by decide))
          exact ⟨g2.new, g2.lv, g2.ju, g2.fi, by show s.depth + 1 + -1 = s.depth; omega, rfl, g2.tie.use⟩
        · rw [if_neg hfr, if_neg hfr]
          have g2 := g1.trans (Gr.emit g1.tie E 16 ((E.args : Int) + 16 * E.words) k sc.chain (by decide))
          exact ⟨g2.new, g2.lv, g2.ju, g2.fi, by show s.depth + 1 + -1 = s.depth; omega, rfl, g2.tie.use⟩
      · have hou' : sc.outer = false := by simpa using hou
        rw [if_pos hou', if_pos rfl, if_neg hou]
        exact ⟨g1.new, g1.lv, g1.ju, g1.fi, by show s.depth + 1 + -1 = s.depth; omega, rfl, g1.tie.use⟩
    obtain ⟨⟨new, n1, n2⟩, k2, k3, k4, k5, k6, k7⟩ := key
    have hr2 : Rl b s2.items t2.items t2.jumps F1 sc.f := by rw [n1, n2, k3]; exact hrel.app hlt new
    have hjF : ∀ j ∈ t.jumps, j.2 - (sc.f + 1) < (F1 ++ [t2.items.length]).length := fun j hj => by
      have := H.jb j hj
      rw [List.length_append, hF1l, List.length_singleton]
      omega
    have hout : ∀ i : Nat, (i, k + 1) ∈ t.jumps ↔ i ∈ s.leaves := fun i => by
      rw [H.jx i (k + 1) (by omega)]
      constructor
      · rintro (h | h | h)
        · have h3 : ((k + 1 : Nat) : Int) ≤ beZ E.p (sc.f : Int) := (H.ex _ h).1
          omega
        · have h3 : -(((k + 1 : Nat) : Int) - 1) < 0 → lkZ E.p (- -(((k + 1 : Nat) : Int) - 1)) = 4 := (H.ex _ h).2.1
          have h4 := h3 (by omega)
          rw [show (- -(((k + 1 : Nat) : Int) - 1)) = (k : Int) from by omega, h7] at h4
          exact absurd h4 (by decide)
        · exact h.2
      · exact fun h => .inr (.inr ⟨by omega, h⟩)
    have hfin := hr2.next (M' := patchL s2.leaves (s2.items.length : Int) s2.items) (l := k + 1) (by rw [k3]; exact H.one) (fun j hj => by rw [k3] at hj; exact (H.jb j hj).2.2.1) (by rw [hF1l]; omega) (patchL_length _ _ _) (fun i => i ∈ s.leaves) (fun i => by rw [k3]; exact hout i)
      (fun i hi => by rw [patchL_at, k2, if_pos hi]) (fun i hi => by rw [patchL_at, k2, if_neg hi])
    refine ⟨_, rfl, ?_⟩
    rw [k3, k4]
    refine ⟨k7, k5, k6, ?_, ?_, fun i hi => ⟨?_, ?_⟩, fun i hi => ?_, fun j hj => ?_, fun _ => k2⟩
    · show (applyJ _ _ _ t2.items).length = _
      rw [apply_length, hr2.1]
    · show s.items.length ≤ s2.items.length
      rw [n1, List.length_append, hplen]
      omega
    · show s2.items[i]? = _
      rw [n1, app_lo (by rw [hplen]; exact hbs) i hi, hplo _ i hi]
    · show (applyJ _ _ _ t2.items)[i]? = _
      rw [apply_at _ _ _ _ i H.one hjF]
      have hno : ∀ q, (i, q) ∉ t.jumps := fun q hq => by have := H.jb _ hq; omega
      rw [n2, app_lo H.bl i hi]
      cases t.items[i]? with
      | none => rfl
      | some x =>
        simp only [Option.map_some, Option.some.injEq]
        unfold fixP
        rw [find_none hno]
    · show _ = (applyJ _ _ _ t2.items)[i]?
      rw [apply_at _ _ _ _ i H.one hjF, hfin.2 i hi, k3]
    · have := (hout j).2 (by rw [← k2]; exact hj)
      exact (H.jb _ this).1
  · have hkl : (k : Int) < beZ E.p (sc.f : Int) := by omega
    have hkinds := kinds_in ho hf hfk hkl hk
    -- the rest of the body
    have go : ∀ (hd : List Int) (ex : List (Int × Nat)) (s4 : CmpS) (t4 : CiS), cmpF E n (.lines scs (k + 1) hd ex) s4 = some z → s4.depth = s.depth → s.items.length ≤ s4.items.length → Head E sc.f b (k + 1) hd ex s4 t4 → (∀ i, i < b → s4.items[i]? = s.items[i]?) → (∀ i, i < b → t4.items[i]? = t.items[i]?) → (sc.outer = true → s4.leaves = s.leaves) →
        ∃ t', cmiF E n (.lines scs (k + 1) s.depth) t4 = some (0, t') ∧ Body b sc.outer s t z.2 t' := fun hd ex s4 t4 h1 h2 h3 h4 h5 h6 h7 => by
      obtain ⟨t', a1, a2⟩ := hl scs (k + 1) hd ex s4 z t4 b h1 hs (by rw [hsc]; omega) (by rw [hsc]; omega) (by rw [hsc]; exact h4)
      rw [h2] at a1
      rw [hsc] at a2
      exact ⟨t', a1, a2.trans h2 h3 h5 h6 h7⟩
    by_cases h4 : lkZ E.p (k : Int) = 4
    · -- else
      rw [if_pos h4] at h ⊢
      have hk4 : E.p[k].kind = 4 := hlk.symm.trans h4
      obtain ⟨j1, j2, j3⟩ := else_jump ho hk hk4
      have j0 := else_in ho hf hfk hkl hk hk4
      have hap := beZ_apart E.p sc.f (elseOpen E.p k) h0 j0 (by omega) (by omega)
      have hnx : nxZ E.p k = beZ E.p (elseOpen E.p k : Int) + 1 := by unfold nxZ; rw [if_neg (by omega), if_neg (by omega)]
      have hmem : ∀ {to : Int} {i : Nat}, (to, i) ∈ elseEx E.p sc.f k (patchI s exits (k : Int)).items.length ↔ to = beZ E.p (elseOpen E.p k : Int) + 1 ∧ i = t.items.length := fun {to i} => by
        rw [else_one j0 j1 j2 (fun w hw => elseZ_3 hw)]
        rw [show (patchI s exits (k : Int)).items.length = t.items.length from by rw [← hlen]; exact hplen]
      have g1 := Gr.emit hT0 E 10 0 k sc.chain (by decide)
      obtain ⟨new, n1, n2⟩ := g1.new
      have hem : (emitI E (patchI s exits (k : Int)) 10 0 k sc.chain).items = patchX exits (k : Int) s.items ++ [⟨10, 0, k, s.start, sc.chain, if E.framed && !(patchX exits (k : Int) s.items).isEmpty then 0 else s.depth, E.framed && !(patchX exits (k : Int) s.items).isEmpty⟩] := rfl
      have hnew : new = [⟨10, 0, k, s.start, sc.chain, if E.framed && !(patchX exits (k : Int) s.items).isEmpty then 0 else s.depth, E.framed && !(patchX exits (k : Int) s.items).isEmpty⟩] := List.append_cancel_left (n1.symm.trans hem)
      have hLl : ((beZ E.p (elseOpen E.p k : Int) + 1).toNat : Int) = beZ E.p (elseOpen E.p k : Int) + 1 := by omega
      rw [hnx]
      obtain ⟨L, hL⟩ : ∃ L, (beZ E.p (elseOpen E.p k : Int) + 1).toNat = L := ⟨_, rfl⟩
      rw [hL] at hLl ⊢
      refine go _ _ _ _ h rfl ?_ (Head.next (s := emitI E (patchI s exits (k : Int)) 10 0 k sc.chain) hfk hkl rfl rfl H.b0 ?_ H.use rfl rfl ?_ hF1l H.hl ?_ ?_ ?_ ?_ ?_) ?_ ?_ (fun _ => rfl)
      · show _ ≤ (patchX _ _ (emitI E (patchI s exits (k : Int)) 10 0 k sc.chain).items).length
        rw [patchX_length, n1, List.length_append]
        show _ ≤ (patchX exits (k : Int) s.items).length + _
        omega
      · show b ≤ (emitJ E _ 10 0 k sc.chain).items.length
        rw [n2, List.length_append]
        have := H.bl
        show b ≤ t.items.length + _
        omega
      · show Rl b (emitI E (patchI s exits (k : Int)) 10 0 k sc.chain).items (emitJ E _ 10 0 k sc.chain).items (t.jumps ++ [(t.items.length, L)]) F1 sc.f
        rw [n1, n2, hnew]
        exact hrel.jump H.one hlt _ _ L (by rw [List.getElem?_eq_none (by rw [hF1l]; omega)])
      · intro j h1 h2 h3
        rcases Nat.lt_or_ge j k with h | h
        · exact hd1 j h1 h h3
        · have : j = k := by omega
          rw [this, h4] at h3
          exact absurd h3 (by decide)
      · intro i l hlk2
        have hb : ∀ to : Int, (to, i) ∈ exits ++ elseEx E.p sc.f k (patchI s exits (k : Int)).items.length ↔ (to, i) ∈ exits ∨ (to = beZ E.p (elseOpen E.p k : Int) + 1 ∧ i = t.items.length) := fun to => by rw [List.mem_append, hmem]
        rw [hb, hb]
        show (i, l) ∈ t.jumps ++ [(t.items.length, L)] ↔ _
        rw [List.mem_append, H.jx i l hlk2, List.mem_singleton]
        have hle : (emitI E (patchI s exits (k : Int)) 10 0 k sc.chain).leaves = s.leaves := rfl
        rw [hle]
        constructor
        · rintro ((h | h | h) | h)
          · exact .inl (.inl h)
          · exact .inr (.inl (.inl h))
          · exact .inr (.inr h)
          · have h1 : i = t.items.length := congrArg Prod.fst h
            have h2 : l = L := congrArg Prod.snd h
            exact .inl (.inr ⟨by omega, h1⟩)
        · rintro ((h | h) | (h | h) | h)
          · exact .inl (.inl h)
          · exact .inr (by rw [show l = L from by omega, h.2])
          · exact .inl (.inr (.inl h))
          · omega
          · exact .inl (.inr (.inr h))
      · intro e he
        rcases List.mem_append.1 he with he | he
        · exact H.ex e he
        · obtain ⟨e1, e2⟩ := hmem.1 (show (e.1, e.2) ∈ _ from he)
          have := H.bl
          exact ⟨by omega, by omega, by omega⟩
      · exact one_snoc H.one hlt
      · intro j hj
        show b ≤ j.1 ∧ j.1 < (emitJ E _ 10 0 k sc.chain).items.length ∧ _
        rw [n2, hnew, List.length_append, List.length_singleton]
        rcases List.mem_append.1 hj with hj | hj
        · exact hjb2 (by show _ ≤ t.items.length + 1; omega) j hj
        · obtain rfl := List.mem_singleton.1 hj
          have := H.bl
          exact ⟨this, by show t.items.length < t.items.length + 1; omega, by show sc.f < L; omega, by show (L : Int) ≤ _; omega⟩
      · intro i hi
        show (patchX _ _ (emitI E (patchI s exits (k : Int)) 10 0 k sc.chain).items)[i]? = _
        rw [patch_lo (b := b) (fun e he => ?_) i hi, n1]
        · show (patchX exits (k : Int) s.items ++ new)[i]? = _
          rw [app_lo (by rw [hplen]; exact hbs) i hi, hplo _ i hi]
        · rcases List.mem_append.1 he with he | he
          · exact hexb e he
          · obtain ⟨_, e2⟩ := hmem.1 (show (e.1, e.2) ∈ _ from he)
            have := H.bl
            omega
      · intro i hi
        show (emitJ E _ 10 0 k sc.chain).items[i]? = _
        rw [n2]
        exact app_lo H.bl i hi
    rw [if_neg h4] at h ⊢
    have nopatch : ∀ {ex : List (Int × Nat)}, (∀ e ∈ ex, e.1 < 0 → lkZ E.p (-e.1) = 4) → ∀ l, patchX ex (-(k : Int)) l = l := fun hx l => patchX_none (fun i hi => by
      have h1 : -(k : Int) < 0 → lkZ E.p (- -(k : Int)) = 4 := hx _ hi
      have h2 := h1 (by omega)
      rw [Int.neg_neg] at h2
      exact h4 h2) l
    by_cases h7 : lkZ E.p (k : Int) = 7
    · rw [if_pos h7, if_neg hlast] at h ⊢
      have hd2 : ∀ j : Nat, sc.f < j → j < k + 1 → lkZ E.p (j : Int) = 5 → heads[j]? = (F1[j - (sc.f + 1)]?).map fun (v : Nat) => (v : Int) := fun j h1 h2 h3 => by
        rcases Nat.lt_or_ge j k with h | h
        · exact hd1 j h1 h h3
        · have : j = k := by omega
          rw [this, h7] at h3
          exact absurd h3 (by decide)
      by_cases h5 : lkZ E.p (endOpen E.p k : Int) = 5
      · rw [if_pos h5]
        obtain ⟨w1, w2, w3⟩ := while_jump h0 hfk hkl h7 h5
        rw [back_one w1 w2 w3 h5] at h
        have h : cmpF E n (.lines scs (k + 1) heads exits) (emitI E (patchI s exits (k : Int)) 10 ((heads[endOpen E.p k]?).getD 0) k sc.chain) = some z := h
        have hwl : endOpen E.p k - (sc.f + 1) < F1.length := by rw [hF1l]; omega
        have hhw : heads[endOpen E.p k]? = some ((F1[endOpen E.p k - (sc.f + 1)] : Nat) : Int) := by rw [hd1 _ w1 w2 h5, List.getElem?_eq_getElem hwl]; rfl
        rw [hhw] at h
        have h : cmpF E n (.lines scs (k + 1) heads exits) (emitI E (patchI s exits (k : Int)) 10 ((F1[endOpen E.p k - (sc.f + 1)] : Nat) : Int) k sc.chain) = some z := h
        have g1 := Gr.emit hT0 E 10 0 k sc.chain (by decide)
        obtain ⟨new, n1, n2⟩ := g1.new
        have hem : (emitI E (patchI s exits (k : Int)) 10 0 k sc.chain).items = patchX exits (k : Int) s.items ++ [⟨10, 0, k, s.start, sc.chain, if E.framed && !(patchX exits (k : Int) s.items).isEmpty then 0 else s.depth, E.framed && !(patchX exits (k : Int) s.items).isEmpty⟩] := rfl
        have hnew := List.append_cancel_left (n1.symm.trans hem)
        refine go _ _ _ _ h rfl ?_ (Head.next (s := emitI E (patchI s exits (k : Int)) 10 ((F1[endOpen E.p k - (sc.f + 1)] : Nat) : Int) k sc.chain) hfk hkl (nopatch (fun e he => (H.ex e he).2.1) _).symm rfl H.b0 ?_ H.use rfl rfl ?_ hF1l H.hl hd2 ?_ H.ex ?_ ?_) ?_ ?_ (fun _ => rfl)
        · show _ ≤ (patchX exits (k : Int) s.items ++ [_]).length
          rw [List.length_append, hplen]
          omega
        · show b ≤ (emitJ E _ 10 0 k sc.chain).items.length
          rw [n2, List.length_append]
          have := H.bl
          show b ≤ t.items.length + _
          omega
        · show Rl b (patchX exits (k : Int) s.items ++ [_]) (emitJ E _ 10 0 k sc.chain).items (t.jumps ++ [(t.items.length, endOpen E.p k)]) F1 sc.f
          rw [n2, hnew]
          exact hrel.jump H.one hlt _ _ _ (by rw [List.getElem?_eq_getElem hwl]; rfl)
        · intro i l hlk2
          show (i, l) ∈ t.jumps ++ [(t.items.length, endOpen E.p k)] ↔ _
          rw [List.mem_append, H.jx i l hlk2, List.mem_singleton]
          constructor
          · rintro (h | h)
            · exact h
            · have h2 : l = endOpen E.p k := congrArg Prod.snd h
              omega
          · exact fun h => .inl h
        · exact one_snoc H.one hlt
        · intro j hj
          show b ≤ j.1 ∧ j.1 < (emitJ E _ 10 0 k sc.chain).items.length ∧ _
          rw [n2, hnew, List.length_append, List.length_singleton]
          rcases List.mem_append.1 hj with hj | hj
          · exact hjb2 (by show _ ≤ t.items.length + 1; omega) j hj
          · obtain rfl := List.mem_singleton.1 hj
            have := H.bl
            exact ⟨this, by show t.items.length < t.items.length + 1; omega, by show sc.f < endOpen E.p k; omega, by show (endOpen E.p k : Int) ≤ _; omega⟩
        · intro i hi
          show (patchX exits (k : Int) s.items ++ [_])[i]? = _
          rw [app_lo (by rw [hplen]; exact hbs) i hi, hplo _ i hi]
        · intro i hi
          show (emitJ E _ 10 0 k sc.chain).items[i]? = _
          rw [n2]
          exact app_lo H.bl i hi
      · rw [if_neg h5]
        rw [back_none h5] at h
        have h : cmpF E n (.lines scs (k + 1) heads exits) (patchI s exits (k : Int)) = some z := h
        refine go _ _ _ _ h rfl (Nat.le_of_eq hplen.symm) (Head.next (s := patchI s exits (k : Int)) hfk hkl (nopatch (fun e he => (H.ex e he).2.1) _).symm rfl H.b0 H.bl H.use H.st H.pe hrel hF1l H.hl hd2 (fun i l hl => H.jx i l hl) H.ex H.one H.jb) (fun i hi => hplo _ i hi) (fun i hi => rfl) (fun _ => rfl)
    · -- a line with an expression
      rw [if_neg h7] at h ⊢
      have hex : exprB E.p[k].expr = true := by
        have := ((lineB_iff _).1 hlb).2.2.2
        have hk2 : exprK E.p[k].kind = true := by
          unfold exprK
          rw [hlk] at h4 h7
          rw [decide_eq_false (show ¬ E.p[k].kind = 0 by omega), decide_eq_false h4, decide_eq_false h7]
          rfl
        rw [hk2] at this
        exact this
      have hsn := expr_scan _ hex
      have hea := exprAt_get E.p k hk
      obtain ⟨y, hy1, hy2⟩ := bind_some h
      obtain ⟨_, y2, y3, t2, y4, y5⟩ := he scs k 0 _ y _ _ hy1 hs (fun u hu => by rw [hsc, hlo]; rw [hea] at hu; exact line_in ho hf hfk hkl hk u hu) (by rw [hea, List.drop_zero]; exact hsn) hT1
      rw [y4]
      simp only [Option.bind_some]
      have y2 : y.2.depth = s.depth + 1 := y2
      have y6 : y.2.leaves = s.leaves := y5.lv
      have y7 : t2.jumps = t.jumps := y5.ju
      have y8 : t2.firsts = F1 := y5.fi
      -- behind the expression and what follows it
      have hhd : ∀ j : Nat, sc.f < j → j < k + 1 → lkZ E.p (j : Int) = 5 → (heads.set k ((patchI s exits (k : Int)).items.length : Int))[j]? = (F1[j - (sc.f + 1)]?).map fun (v : Nat) => (v : Int) := fun j h1 h2 h3 => by
        rcases Nat.lt_or_ge j k with h | h
        · rw [List.getElem?_set_ne (by omega)]; exact hd1 j h1 h h3
        · obtain rfl : j = k := by omega
          rw [List.getElem?_set_self (by rw [H.hl]; exact hk), ← hF1, show j - (sc.f + 1) = t.firsts.length from by rw [H.fl], List.getElem?_concat_length]
          show some ((patchX exits (j : Int) s.items).length : Int) = some ((t.items.length : Nat) : Int)
          rw [hplen, hlen]
      have hhl : (heads.set k ((patchI s exits (k : Int)).items.length : Int)).length = E.p.length := by rw [List.length_set]; exact H.hl
      have fin : ∀ (s3 : CmpS) (t3 : CiS), Gr y.2 t2 s3 t3 → ∀ (s4 : CmpS) (t4 : CiS), s4.items = s3.items → s4.leaves = s3.leaves → s4.start = s3.start → s4.most = s3.most → s4.depth = s.depth → t4.items = t3.items → t4.jumps = t3.jumps → t4.firsts = t3.firsts → t4.used = t3.used → t4.pend = t3.pend → s3.start = false →
          cmpF E n (.lines scs (k + 1) (heads.set k ((patchI s exits (k : Int)).items.length : Int)) exits) s4 = some z → ∃ t', cmiF E n (.lines scs (k + 1) s.depth) t4 = some (0, t') ∧ Body b sc.outer s t z.2 t' := fun s3 t3 hg s4 t4 a1 a2 a3 a4 a5 b1 b2 b3 b4 b5 c1 hz => by
        have hg2 := y5.trans hg
        obtain ⟨new, n1, n2⟩ := hg2.new
        have n1 : s3.items = patchX exits (k : Int) s.items ++ new := n1
        have n2 : t3.items = t.items ++ new := n2
        have hj4 : t4.jumps = t.jumps := b2.trans hg2.ju
        have hf4 : t4.firsts = F1 := b3.trans hg2.fi
        have hl4 : s4.leaves = s.leaves := a2.trans hg2.lv
        refine go _ _ s4 t4 hz a5 ?_ (Head.next (s := s4) hfk hkl (nopatch (fun e he => (H.ex e he).2.1) _).symm rfl H.b0 ?_ ?_ (a3.trans c1) ?_ ?_ (by rw [hf4]; exact hF1l) hhl (by rw [hf4]; exact hhd) ?_ H.ex (by rw [hj4]; exact H.one) ?_) ?_ ?_ (fun _ => hl4)
        · rw [a1, n1, List.length_append, hplen]; omega
        · rw [b1, n2, List.length_append]; have := H.bl; omega
        · rw [b4, a4]; exact hg2.tie.use
        · rw [b5, hg2.tie.pen, c1]
        · rw [a1, b1, hj4, hf4, n1, n2]; exact hrel.app hlt new
        · rw [hj4, hl4]; exact fun i l hl => H.jx i l hl
        · rw [hj4, b1, n2, List.length_append]; exact hjb2 (by omega)
        · intro i hi; rw [a1, n1, app_lo (by rw [hplen]; exact hbs) i hi, hplo _ i hi]
        · intro i hi; rw [b1, n2]; exact app_lo H.bl i hi
      -- a jump behind the expression
      have finJ : ∀ (code : Int) (L : Nat) (ex3 : List (Int × Nat)) (s4 : CmpS), code ≠ 13 → s4.items = (emitI E y.2 code 0 k sc.chain).items → s4.start = false → s4.most = y.2.most → s4.depth = s.depth → k < L → (L : Int) ≤ beZ E.p (sc.f : Int) + 1 →
          (∀ i l : Nat, k < l → (((i, l) ∈ t.jumps ∨ (i = t2.items.length ∧ l = L)) ↔ ((l : Int), i) ∈ ex3 ∨ (-((l : Int) - 1), i) ∈ ex3 ∨ ((l : Int) = beZ E.p (sc.f : Int) + 1 ∧ i ∈ s4.leaves))) → (∀ e ∈ ex3, e.1 ≤ beZ E.p (sc.f : Int) ∧ (e.1 < 0 → lkZ E.p (-e.1) = 4) ∧ b ≤ e.2) → (sc.outer = true → s4.leaves = s.leaves) →
          cmpF E n (.lines scs (k + 1) (heads.set k ((patchI s exits (k : Int)).items.length : Int)) ex3) s4 = some z → ∃ t', cmiF E n (.lines scs (k + 1) s.depth) (jumpJ E t2 code L k sc.chain) = some (0, t') ∧ Body b sc.outer s t z.2 t' := fun code L ex3 s4 hc a1 a3 a4 a5 hkL hLe hjx hex3 hlv4 hz => by
        have hg := Gr.emit y5.tie E code 0 k sc.chain hc
        obtain ⟨new, n1, n2⟩ := y5.new
        have n1 : y.2.items = patchX exits (k : Int) s.items ++ new := n1
        have n2 : t2.items = t.items ++ new := n2
        obtain ⟨nw, m1, m2⟩ := hg.new
        have hr2 : Rl b y.2.items t2.items t.jumps F1 sc.f := by rw [n1, n2]; exact hrel.app hlt new
        have hlt2 : ∀ j ∈ t.jumps, j.1 < t2.items.length := fun j hj => by rw [n2, List.length_append]; have := hlt j hj; omega
        have hnw : ∃ x, nw = [x] := by
          have : (emitI E y.2 code 0 k sc.chain).items = y.2.items ++ [⟨code, 0, k, y.2.start, sc.chain, if E.framed && !y.2.items.isEmpty then 0 else y.2.depth, E.framed && !y.2.items.isEmpty⟩] := rfl
          exact ⟨_, List.append_cancel_left (m1.symm.trans this)⟩
        obtain ⟨x, rfl⟩ := hnw
        have hb2 : b ≤ t2.items.length := by rw [n2, List.length_append]; have := H.bl; omega
        have hit : (jumpJ E t2 code L k sc.chain).items = t2.items ++ [x] := m2
        have hju : (jumpJ E t2 code L k sc.chain).jumps = t.jumps ++ [(t2.items.length, L)] := by rw [← y7]; rfl
        have hfi : (jumpJ E t2 code L k sc.chain).firsts = F1 := y8
        have hus : (jumpJ E t2 code L k sc.chain).used = t2.used := rfl
        have hpe : (jumpJ E t2 code L k sc.chain).pend = false := rfl
        generalize jumpJ E t2 code L k sc.chain = t4 at hit hju hfi hus hpe ⊢
        refine go _ _ s4 t4 hz a5 ?_ (Head.next (s := s4) hfk hkl (nopatch (fun e he => (hex3 e he).2.1) _).symm rfl H.b0 ?_ ?_ a3 hpe ?_ (by rw [hfi]; exact hF1l) hhl (by rw [hfi]; exact hhd) ?_ hex3 ?_ ?_) ?_ ?_ hlv4
        · rw [a1, m1, n1, List.length_append, List.length_append, hplen]; omega
        · rw [hit, List.length_append]; omega
        · rw [hus, a4]; exact y5.tie.use
        · rw [a1, m1, hit, hju, hfi]; exact hr2.jump H.one hlt2 x x L (by rw [List.getElem?_eq_none (by rw [hF1l]; omega)])
        · intro i l hl
          rw [← hjx i l hl, hju, List.mem_append, List.mem_singleton, Prod.mk.injEq]
        · rw [hju]; exact one_snoc H.one hlt2
        · intro j hj
          rw [hju] at hj
          rw [hit, List.length_append, List.length_singleton]
          rcases List.mem_append.1 hj with hj | hj
          · exact hjb2 (by rw [n2, List.length_append]; omega) j hj
          · obtain rfl := List.mem_singleton.1 hj
            exact ⟨hb2, by show t2.items.length < t2.items.length + 1; omega, by show sc.f < L; omega, hLe⟩
        · intro i hi; rw [a1, m1, n1, List.append_assoc, app_lo (by rw [hplen]; exact hbs) i hi, hplo _ i hi]
        · intro i hi; rw [hit, n2, List.append_assoc]; exact app_lo H.bl i hi
      by_cases c1 : lkZ E.p (k : Int) = 1
      · rw [if_pos c1] at hy2 ⊢
        exact fin _ _ (Gr.store y5.tie E sc _ k sc.chain) (storeI E y.2 sc (varIx sc.locs (nameAt E.p k)) k sc.chain) _ rfl rfl rfl rfl (by show y.2.depth + -1 = _; omega) rfl rfl rfl rfl rfl rfl hy2
      rw [if_neg c1] at hy2 ⊢
      by_cases c2 : lkZ E.p (k : Int) = 2
      · rw [if_pos c2] at hy2 ⊢
        exact fin _ _ (Gr.emit y5.tie E 17 0 k sc.chain (by decide)) (incD (emitI E y.2 17 0 k sc.chain) (-1)) _ rfl rfl rfl rfl (by show y.2.depth + -1 = _; omega) rfl rfl rfl rfl rfl rfl hy2
      rw [if_neg c2] at hy2 ⊢
      by_cases c6 : lkZ E.p (k : Int) = 6
      · rw [if_pos c6] at hy2 ⊢
        unfold leaveI at hy2
        unfold leaveJ
        by_cases hou : sc.outer = false
        · rw [if_pos hou, if_neg (by decide)] at hy2
          rw [if_pos hou]
          refine finJ 10 _ exits (incD (emitI E { y.2 with leaves := y.2.leaves ++ [y.2.items.length] } 10 0 k sc.chain) (-1)) (by decide) rfl rfl rfl (by show y.2.depth + -1 = _; omega) (by omega) (by omega) (fun i l hl => ?_) H.ex (fun e => by rw [hou] at e; cases e) hy2
          rw [H.jx i l hl]
          have hle : (incD (emitI E { y.2 with leaves := y.2.leaves ++ [y.2.items.length] } 10 0 k sc.chain) (-1)).leaves = y.2.leaves ++ [y.2.items.length] := rfl
          rw [hle, y6, List.mem_append, List.mem_singleton, y5.tie.len]
          constructor
          · rintro ((h | h | h) | h)
            · exact .inl h
            · exact .inr (.inl h)
            · exact .inr (.inr ⟨h.1, .inl h.2⟩)
            · exact .inr (.inr ⟨by omega, .inr h.1⟩)
          · rintro (h | h | ⟨h, h' | h'⟩)
            · exact .inl (.inl h)
            · exact .inl (.inr (.inl h))
            · exact .inl (.inr (.inr ⟨h, h'⟩))
            · exact .inr ⟨h', by omega⟩
        · rw [if_neg hou] at hy2 ⊢
          by_cases hfr : E.framed = true
          · rw [if_pos hfr] at hy2 ⊢
            exact fin _ _ (Gr.emit y5.tie E 14 (E.args : Int) k sc.chain (by decide)) (incD (emitI E y.2 14 (E.args : Int) k sc.chain) (-1)) _ rfl rfl rfl rfl (by show y.2.depth + -1 = _; omega) rfl rfl rfl rfl rfl rfl hy2
          · rw [if_neg hfr] at hy2 ⊢
            exact fin _ _ (Gr.emit y5.tie E 16 ((E.args : Int) + 16 * E.words) k sc.chain (by decide)) (incD (emitI E y.2 16 ((E.args : Int) + 16 * E.words) k sc.chain) (-1)) _ rfl rfl rfl rfl (by show y.2.depth + -1 = _; omega) rfl rfl rfl rfl rfl rfl hy2
      · rw [if_neg c6] at hy2 ⊢
        have h35 : E.p[k].kind = 3 ∨ E.p[k].kind = 5 := by rw [hlk] at h4 h7 c1 c2 c6; omega
        have hask := ask_end h0 hfk hkl hk h35
        have hb2 : b ≤ t2.items.length := by
          obtain ⟨new, _, n2⟩ := y5.new
          have n2 : t2.items = t.items ++ new := n2
          rw [n2, List.length_append]; have := H.bl; omega
        by_cases hel : lkZ E.p (k : Int) = 3 ∧ 0 ≤ elseZ E.p (k : Int)
        · rw [if_pos hel] at hy2
          have hnx : nxZ E.p k = elseZ E.p (k : Int) + 1 := by unfold nxZ; rw [if_pos hel.1, if_pos hel.2]
          have hgt := elseZ_gt E.p (k : Int) hel.2
          have hlt3 := elseZ_lt E.p (k : Int) hel.2
          obtain ⟨el, hel2⟩ : ∃ el : Nat, elseZ E.p (k : Int) = (el : Int) := ⟨_, (Int.toNat_of_nonneg hel.2).symm⟩
          have hel4 := elseZ_4 hel2
          rw [hnx, hel2]
          rw [hel2] at hy2 hgt hlt3
          refine finJ 11 _ _ (incD (emitI E y.2 11 0 k sc.chain) (-1)) (by decide) rfl rfl rfl (by show y.2.depth + -1 = _; omega) (by omega) (by omega) (fun i l hl => ?_) (fun e he => ?_) (fun _ => y6) hy2
          · rw [H.jx i l hl]
            have hle : (incD (emitI E y.2 11 0 k sc.chain) (-1)).leaves = s.leaves := y6
            rw [hle, List.mem_append, List.mem_append, List.mem_singleton, List.mem_singleton, Prod.mk.injEq, Prod.mk.injEq, ← y5.tie.len]
            constructor
            · rintro ((h | h | h) | h)
              · exact .inl (.inl h)
              · exact .inr (.inl (.inl h))
              · exact .inr (.inr h)
              · exact .inr (.inl (.inr ⟨by omega, h.1⟩))
            · rintro ((h | h) | (h | h) | h)
              · exact .inl (.inl h)
              · omega
              · exact .inl (.inr (.inl h))
              · exact .inr ⟨h.2, by omega⟩
              · exact .inl (.inr (.inr h))
          · rcases List.mem_append.1 he with he | he
            · exact H.ex e he
            · obtain rfl := List.mem_singleton.1 he
              refine ⟨by show -(el : Int) ≤ _; omega, fun _ => ?_, by show b ≤ y.2.items.length; rw [← y5.tie.len]; exact hb2⟩
              show lkZ E.p (- -(el : Int)) = 4
              rw [Int.neg_neg]; exact hel4
        · rw [if_neg hel] at hy2
          have hnx : nxZ E.p k = beZ E.p (k : Int) + 1 := by
            unfold nxZ
            by_cases h3 : lkZ E.p (k : Int) = 3
            · rw [if_pos h3, if_neg (fun h => hel ⟨h3, h⟩)]
            · rw [if_neg h3, if_pos (by rw [hlk]; rw [hlk] at h3; omega)]
          rw [hnx]
          refine finJ 11 _ _ (incD (emitI E y.2 11 0 k sc.chain) (-1)) (by decide) rfl rfl rfl (by show y.2.depth + -1 = _; omega) (by omega) (by omega) (fun i l hl => ?_) (fun e he => ?_) (fun _ => y6) hy2
          · rw [H.jx i l hl]
            have hle : (incD (emitI E y.2 11 0 k sc.chain) (-1)).leaves = s.leaves := y6
            rw [hle, List.mem_append, List.mem_append, List.mem_singleton, List.mem_singleton, Prod.mk.injEq, Prod.mk.injEq, ← y5.tie.len]
            constructor
            · rintro ((h | h | h) | h)
              · exact .inl (.inl h)
              · exact .inr (.inl (.inl h))
              · exact .inr (.inr h)
              · exact .inl (.inr ⟨by omega, h.1⟩)
            · rintro ((h | h) | (h | h) | h)
              · exact .inl (.inl h)
              · exact .inr ⟨h.2, by omega⟩
              · exact .inl (.inr (.inl h))
              · omega
              · exact .inl (.inr (.inr h))
          · rcases List.mem_append.1 he with he | he
            · exact H.ex e he
            · obtain rfl := List.mem_singleton.1 he
              exact ⟨by show beZ E.p (k : Int) + 1 ≤ _; omega, fun h => by have h : beZ E.p (k : Int) + 1 < 0 := h; omega, by show b ≤ y.2.items.length; rw [← y5.tie.len]; exact hb2⟩
theorem ar_ok (u : TokL) (hb : tokB u = true) : (u.kind = 0 ∨ u.kind = 1 → arN u = 0) ∧ (2 ≤ u.kind → u.kind ≤ 6 → arN u = 2) ∧ (u.kind = 7 → (arN u : Int) = u.num) := by
  unfold arN arZ
  rw [if_pos hb]
  refine ⟨fun h => by rw [if_pos h]; rfl, fun h2 h6 => by rw [if_neg (by omega), if_neg (by omega)]; rfl, fun h7 => ?_⟩
  rw [if_neg (by omega), if_pos h7]
  unfold tokB at hb
  rw [if_neg (by omega), if_neg (by omega), if_pos h7] at hb
  simp only [Bool.and_eq_true, decide_eq_true_eq] at hb
  omega
theorem p_all {E : CmpE} (ho : OkI E.p) : ∀ n, PE E n ∧ PA E n ∧ PL E n := by
  intro n
  induction n with
  | zero => exact ⟨fun scs k i s z t q h => by simp [cmpF] at h, fun scs k i m s z t q h => by simp [cmpF] at h, fun scs k hd ex s z t b h => by simp [cmpF] at h⟩
  | succ n ih => exact ⟨pe_step ho ar_ok ih.2.1 ih.2.2, pa_step ih.1 ih.2.1, pl_step ho ih.1 ih.2.2⟩
def topJ (E : CmpE) (g : Nat) : CiS := { emitJ E ⟨[], 0, (locZ E.p (g : Int)).length - E.args, false, [], []⟩ (if E.framed = true then 13 else 15) E.words g [] with depth := E.words }
theorem topJ_items (E : CmpE) (g : Nat) : (topJ E g).items = (topS E g).items ∧ (topS E g).items.length = 1 := by
  unfold topJ topS emitJ emitI
  refine ⟨?_, rfl⟩
  dsimp only
  by_cases h : E.framed = true
  · rw [if_pos h, h]; rfl
  · rw [if_neg h, show E.framed = false from by simpa using h]; rfl
theorem top_same {E : CmpE} (ho : OkI E.p) {g : Nat} (hg : g ∈ funs E.p) {s : CmpS} (h : TopTo E g s) : ∃ n t, cmiF E n (.lines [topSc E.p g] (g + 1) E.words) (topJ E g) = some (0, t) ∧ t.items = s.items ∧ t.used = s.most := by
  obtain ⟨r, n, hn⟩ := h
  obtain ⟨hi, h1⟩ := topJ_items E g
  obtain ⟨hl, _, hb1, hb2, _⟩ := fun_parts ho hg
  have hH : Head E g 1 (g + 1) (List.replicate E.p.length 0) [] (topS E g) (topJ E g) :=
    { b0 := Nat.one_pos, bl := by rw [hi]; omega, use := rfl, st := rfl, pe := rfl
      rel := ⟨by rw [patchX_length, hi], fun i hib => by rw [patchX_at, if_neg (by simp), List.getElem?_eq_none (by omega), List.getElem?_eq_none (by rw [hi]; omega)]; rfl⟩
      fl := by show 0 = g + 1 - (g + 1); omega
      hl := List.length_replicate
      hd := fun j h1 h2 _ => by omega
      jx := fun i l _ => by
        have e1 : (topJ E g).jumps = [] := rfl
        have e2 : (topS E g).leaves = [] := rfl
        rw [e1, e2]; simp
      ex := fun e he => by cases he
      one := List.Pairwise.nil
      jb := fun e he => by cases he }
  obtain ⟨t, a1, a2⟩ := (p_all ho n).2.2 [topSc E.p g] (g + 1) _ _ _ _ _ 1 hn ⟨⟨rfl, by simp⟩, hg, rfl⟩ (Nat.lt_succ_self g) (by show ((g + 1 : Nat) : Int) ≤ beZ E.p (g : Int); omega) hH
  refine ⟨n, t, a1, ?_, a2.use⟩
  have hlv : s.leaves = [] := a2.lv rfl
  apply List.ext_getElem?
  intro i
  by_cases hi1 : i < 1
  · rw [(a2.lo i hi1).1, (a2.lo i hi1).2, hi]
  · have := a2.hi i (by omega)
    rw [← this]
    show (patchL s.leaves _ s.items)[i]? = _
    rw [hlv]
    rfl
end Go.Proofs.YtaplbefdijcceaaGreatDoor

namespace Go.Proofs.YtaplbefdijcceaaGreatDoor
open Go.RowKit Go.Lib
def fw (o : List TokL) : List TokL := match o with
  | [t, a, b] => if 2 ≤ t.kind ∧ t.kind ≤ 6 ∧ a.kind = 0 ∧ b.kind = 0 ∧ 0 ≤ appZ t.kind a.num b.num ∧ appZ t.kind a.num b.num ≤ 999 then [foldT (appZ t.kind a.num b.num)] else [t, a, b]
  | o => o
theorem seg1_fw (t : TokL) (ops : List (List TokL)) : seg1 t ops = fw (t :: ops.flatten) := by
  unfold seg1
  generalize ops.flatten = o
  match o with
  | [] => rfl
  | [_] => rfl
  | [_, _] => rfl
  | _ :: _ :: _ :: _ => rfl
theorem fw_len (o : List TokL) (h : o.length ≠ 3) : fw o = o := by
  match o with
  | [] => rfl
  | [_] => rfl
  | [_, _] => rfl
  | [_, _, _] => exact absurd rfl h
  | _ :: _ :: _ :: _ :: _ => rfl
theorem fw_no (t a b : TokL) (h : ¬ (2 ≤ t.kind ∧ t.kind ≤ 6 ∧ a.kind = 0 ∧ b.kind = 0 ∧ 0 ≤ appZ t.kind a.num b.num ∧ appZ t.kind a.num b.num ≤ 999)) : fw [t, a, b] = [t, a, b] := by
  show (if _ then _ else _) = _
  rw [if_neg h]
theorem fw_yes (t a b : TokL) (h : 2 ≤ t.kind ∧ t.kind ≤ 6 ∧ a.kind = 0 ∧ b.kind = 0 ∧ 0 ≤ appZ t.kind a.num b.num ∧ appZ t.kind a.num b.num ≤ 999) : fw [t, a, b] = [foldT (appZ t.kind a.num b.num)] := by
  show (if _ then _ else _) = _
  rw [if_pos h]
def outF (t : TokL) (S : List (List TokL)) (j : Nat) : List TokL := t :: (S.take j).flatten
theorem outF_zero (t : TokL) (S : List (List TokL)) : outF t S 0 = [t] := by unfold outF; simp
theorem take_flat (S : List (List TokL)) (j : Nat) : (S.take j).flatten.length ≤ S.flatten.length := by
  have : S.flatten = (S.take j).flatten ++ (S.drop j).flatten := by rw [← List.flatten_append, List.take_append_drop]
  rw [this, List.length_append]
  omega
theorem outF_len (t : TokL) (l : List TokL) (j : Nat) : (outF t (segs l) j).length ≤ l.length + 1 := by
  have h1 := take_flat (segs l) j
  have h2 := segs_len l
  unfold outF
  rw [List.length_cons]
  omega
theorem segs_head (l : List TokL) (h : 0 < (segs l).length) : ∃ rest, segs l = foldE l :: rest := by
  unfold foldE
  cases hs : segs l with
  | nil => rw [hs] at h; simp at h
  | cons x r => exact ⟨r, rfl⟩
theorem ops_at (l : List TokL) : ∀ (r b q : Nat), scanN (l.drop b) r = some q → ∀ j, j < r → ∃ x : Nat, (opsFrom l r (b : Int))[j]? = some (x : Int) ∧ (∃ q', scanN (l.drop x) 1 = some q') ∧ b ≤ x ∧ x < l.length ∧ (segs (l.drop b)).take (j + 1) = (segs (l.drop b)).take j ++ [foldE (l.drop x)] := by
  intro r
  induction r with
  | zero => intro b q _ j hj; omega
  | succ r ih =>
    intro b q h j hj
    obtain ⟨q1, q2, h1, h2, _⟩ := scan_next _ _ _ _ h
    obtain ⟨hl1, hd1⟩ := segs_scan _ 1 _ h1
    obtain ⟨rest, hrest⟩ := segs_head (l.drop b) (by omega)
    have he : endZ l (b : Int) = ((b + q1 : Nat) : Int) := by rw [endZ_nat, h1]; show (b : Int) + (q1 : Int) = _; omega
    have hb : b < l.length := by
      rcases Nat.lt_or_ge b l.length with h | h
      · exact h
      · rw [List.drop_eq_nil_of_le h] at h1; cases h1
    rw [hrest, List.drop_succ_cons, List.drop_zero, List.drop_drop] at hd1
    cases j with
    | zero =>
      refine ⟨b, rfl, ⟨q1, h1⟩, Nat.le_refl _, hb, ?_⟩
      rw [hrest]
      rfl
    | succ j =>
      obtain ⟨x, hx, hq, hbx, hxl, ht⟩ := ih (b + q1) q2 h2 j (by omega)
      refine ⟨x, ?_, hq, by omega, hxl, ?_⟩
      · show (((b : Int) :: opsFrom l r (endZ l (b : Int)))[j + 1]?) = _
        rw [List.getElem?_cons_succ, he]
        exact hx
      · rw [hrest, List.take_succ_cons, List.take_succ_cons, hd1, ht, List.cons_append]
theorem outF_next (t : TokL) (S : List (List TokL)) (j : Nat) (x : List TokL) (h : S.take (j + 1) = S.take j ++ [x]) : outF t S (j + 1) = outF t S j ++ x := by
  unfold outF
  rw [h]
  simp
theorem fold_at (l : List TokL) (i : Nat) (hi : i < l.length) : foldE (l.drop i) = fw (outF l[i] (segs (l.drop (i + 1))) (arN l[i])) := by
  unfold foldE
  rw [List.drop_eq_getElem_cons hi, segs, List.headD_cons, seg1_fw]
  rfl
end Go.Proofs.YtaplbefdijcceaaGreatDoor

namespace Go.Proofs.YtaplbefdijcceaaGreatDoor
open Go.RowKit Go.Lib
theorem funF_no : ∀ (l : List PLine) (i g : Nat), g ∈ funF i l → ∃ m, m = ((l.take (g - i)).filter fun x => decide (x.kind = 0)).length ∧ ∃ h : m < (funF i l).length, (funF i l)[m] = g ∧ ∀ q, ∀ hq : q < m, (funF i l)[q]'(Nat.lt_trans hq h) ≠ g := by
  intro l
  induction l with
  | nil => intro i g h; simp [funF] at h
  | cons x r ih =>
    intro i g h
    by_cases h0 : x.kind = 0
    · have e : funF i (x :: r) = i :: funF (i + 1) r := by rw [funF, if_pos h0]
      by_cases hg : g = i
      · subst hg
        refine ⟨0, by simp, by rw [e]; simp, by simp only [e, List.getElem_cons_zero], fun q hq => by omega⟩
      · rw [e] at h
        have hm : g ∈ funF (i + 1) r := (List.mem_cons.1 h).resolve_left hg
        have hge := funF_ge r (i + 1) g hm
        obtain ⟨m, hm1, hm2, hm3, hm4⟩ := ih (i + 1) g hm
        have et : (x :: r).take (g - i) = x :: r.take (g - (i + 1)) := by
          rw [show g - i = (g - (i + 1)) + 1 from by omega, List.take_succ_cons]
        refine ⟨m + 1, ?_, ?_, ?_, ?_⟩
        · rw [et, List.filter_cons_of_pos (by simpa using h0), List.length_cons, ← hm1]
        · rw [e, List.length_cons]; omega
        · simp only [e, List.getElem_cons_succ]; exact hm3
        · intro q hq
          cases q with
          | zero => simp only [e, List.getElem_cons_zero]; omega
          | succ q => simp only [e, List.getElem_cons_succ]; exact hm4 q (by omega)
    · have e : funF i (x :: r) = funF (i + 1) r := by rw [funF, if_neg h0]
      rw [e] at h
      have hge := funF_ge r (i + 1) g h
      obtain ⟨m, hm1, hm2, hm3, hm4⟩ := ih (i + 1) g h
      have et : (x :: r).take (g - i) = x :: r.take (g - (i + 1)) := by
        rw [show g - i = (g - (i + 1)) + 1 from by omega, List.take_succ_cons]
      refine ⟨m, ?_, by rw [e]; exact hm2, by simp only [e]; exact hm3, fun q hq => by simp only [e]; exact hm4 q hq⟩
      rw [et, List.filter_cons_of_neg (by simpa using h0), ← hm1]
theorem fun_no (p : List PLine) (g : Nat) (h : g ∈ funs p) : ∃ m : Nat, funNo p g = (m : Int) ∧ ∃ hm : m < (funs p).length, (funs p)[m] = g ∧ ∀ q, ∀ hq : q < m, (funs p)[q]'(Nat.lt_trans hq hm) ≠ g := by
  obtain ⟨m, h1, h2, h3, h4⟩ := funF_no p 0 g h
  exact ⟨m, by rw [h1]; rfl, h2, h3, h4⟩
end Go.Proofs.YtaplbefdijcceaaGreatDoor

namespace Go.Proofs.YtaplbefdijcceaaGreatDoor
open Go.RowKit Go.Lib
theorem open_at (p : List PLine) (f e : Nat) (hb : beZ p (f : Int) = (e : Int)) : ∀ (d : Nat), f + 1 + d ≤ e → ∃ o : Int, 1 ≤ o ∧ endF o (f + 1 + d) (p.drop (f + 1 + d)) = (e : Int) ∧
    ∀ m : Int, 1 ≤ m → m ≤ o → ∃ w : Nat, f ≤ w ∧ w < f + 1 + d ∧ beZ p (w : Int) = endF m (f + 1 + d) (p.drop (f + 1 + d)) := by
  obtain ⟨j, hj, hjl, hop, _, _⟩ := beZ_is p (f : Int) (by omega)
  obtain rfl : f = j := by omega
  have hbe := beZ_at p f hjl hop
  have hlt := beZ_lt p (f : Int)
  intro d
  induction d with
  | zero =>
    intro _
    refine ⟨1, by omega, by rw [← hb, hbe], fun m h1 h2 => ⟨f, by omega, by omega, ?_⟩⟩
    obtain rfl : m = 1 := by omega
    exact hbe
  | succ d ih =>
    intro hd
    obtain ⟨o, ho, he, hm⟩ := ih (by omega)
    have hl : f + 1 + d < p.length := by omega
    have hc := opn_cases p[f + 1 + d].kind
    rw [endF_at p o _ hl] at he
    by_cases h0 : o + opn p[f + 1 + d].kind = 0
    · rw [if_pos h0] at he; omega
    · rw [if_neg h0] at he
      refine ⟨o + opn p[f + 1 + d].kind, by omega, he, fun m h1 h2 => ?_⟩
      by_cases hm1 : m = 1 ∧ opn p[f + 1 + d].kind = 1
      · obtain ⟨rfl, ho1⟩ := hm1
        have hop2 : isOp p[f + 1 + d].kind = true := by
          rcases hc with ⟨_, h⟩ | ⟨h, _⟩ | ⟨h, _⟩
          · exact h
          · omega
          · omega
        exact ⟨f + 1 + d, by omega, by omega, beZ_at p _ hl hop2⟩
      · obtain ⟨w, w1, w2, w3⟩ := hm (m - opn p[f + 1 + d].kind) (by omega) (by omega)
        refine ⟨w, w1, by omega, ?_⟩
        rw [w3, endF_at p _ _ hl, if_neg (by omega), show m - opn p[f + 1 + d].kind + opn p[f + 1 + d].kind = m from by omega]
        rfl
theorem close_has {p : List PLine} {f k : Nat} (h0 : 0 ≤ beZ p (f : Int)) (hfk : f < k) (hke : (k : Int) ≤ beZ p (f : Int)) (h7 : lkZ p (k : Int) = 7) : endOpen p k < k ∧ beZ p (endOpen p k : Int) = (k : Int) ∧ f ≤ endOpen p k := by
  obtain ⟨e, he⟩ := Int.eq_ofNat_of_zero_le h0
  have hlt := beZ_lt p (f : Int)
  obtain ⟨o, ho, _, hm⟩ := open_at p f e he (k - (f + 1)) (by omega)
  rw [show f + 1 + (k - (f + 1)) = k from by omega] at hm
  obtain ⟨w, w1, w2, w3⟩ := hm 1 (by omega) ho
  have hl : k < p.length := by omega
  rw [lkZ_at p k hl] at h7
  rw [endF_at p 1 k hl, h7, if_pos (by decide)] at w3
  have := end_one w2 w3
  rw [this]
  exact ⟨w2, w3, w1⟩
theorem op_kind {p : List PLine} {w : Nat} (h : 0 ≤ beZ p (w : Int)) : lkZ p (w : Int) = 0 ∨ lkZ p (w : Int) = 3 ∨ lkZ p (w : Int) = 5 := by
  obtain ⟨j, hj, hjl, hop, _, _⟩ := beZ_is p (w : Int) h
  obtain rfl : w = j := by omega
  rw [lkZ_at p w hjl]
  unfold isOp at hop
  simp only [Bool.or_eq_true, beq_iff_eq] at hop
  omega
theorem close_fun {p : List PLine} {f k : Nat} (hf : f ∈ funs p) (h0 : 0 ≤ beZ p (f : Int)) (hfk : f < k) (hke : (k : Int) = beZ p (f : Int)) : endOpen p k = f ∧ lkZ p (f : Int) = 0 := by
  refine ⟨end_one hfk hke.symm, ?_⟩
  obtain ⟨h, _, h2⟩ := (funs_mem p 0 f).1 hf
  rw [lkZ_at p f (by simpa using h)]
  simpa using h2
theorem close_in {p : List PLine} (ho : OkI p) {f k : Nat} (hf : f ∈ funs p) (h0 : 0 ≤ beZ p (f : Int)) (hfk : f < k) (hke : (k : Int) < beZ p (f : Int)) (h7 : lkZ p (k : Int) = 7) : endOpen p k < k ∧ f < endOpen p k ∧ (lkZ p (endOpen p k : Int) = 3 ∨ lkZ p (endOpen p k : Int) = 5) := by
  obtain ⟨c1, c2, c3⟩ := close_has h0 hfk (by omega) h7
  have hne : f ≠ endOpen p k := fun e => by rw [← e] at c2; omega
  have hlt := beZ_lt p (f : Int)
  have hl : endOpen p k < p.length := by omega
  have hk := kinds_in ho hf (show f < endOpen p k by omega) (by omega) hl
  have := op_kind (p := p) (w := endOpen p k) (by omega)
  rw [lkZ_at p _ hl] at this ⊢
  exact ⟨c1, by omega, by omega⟩
end Go.Proofs.YtaplbefdijcceaaGreatDoor
