/- DecodeRules, the program's. -/
import Derived.Test.YtfemkbdgbpgjgaaChunkIt
import Derived.Test.YtfemkbdgbpgjgaaMarkPlain
import Derived.Test.YtfemkbdgbpgjgaaPackU
import Derived.Test.YtfemkbdgbpgjgaaVruI
import Derived.Test.YtfemkbdgbpgjgaaRuTo
import Derived.Maps.AppendAt
import Derived.RangeFuncNested
namespace Go.Proofs.Ytfemkbdgbpgjgaa
open Go.RowKit Go.Shelf Go.Lib Go.Maps

/-- The rules after a chunk. -/
def stepC (N : List Int) (R : List RuL) (j : Nat) : List RuL := R ++ [⟨lastE 0 R + N.getD (4 * j) 0, lastE 0 R + N.getD (4 * j) 0 + N.getD (4 * j + 1) 0, decide (N.getD (4 * j + 2) 0 = 1), N.getD (4 * j + 3) 0⟩]
def foldC (N : List Int) {n : Nat} (pre : List (ChT n)) : List RuL := pre.foldl (fun R x => stepC N R x.1) []
theorem foldC_snoc (N : List Int) {n : Nat} (pre : List (ChT n)) (x : ChT n) : foldC N (pre ++ [x]) = stepC N (foldC N pre) x.1 := by simp [foldC]
theorem getD_at (N : List Int) (i : Nat) (h : i < N.length) : N.getD i 0 = N[i] := by simp [List.getD, h]
theorem foldC_is (N : List Int) : ∀ k, 4 * k ≤ N.length → foldC N (chT N.length k) = rdN 0 (N.take (4 * k)) := by
  intro k
  induction k with
  | zero => intro _; simp [foldC, chT, rdN]
  | succ k ih =>
    intro h
    rw [chT_succ, foldC_snoc, ih (by omega), chAt_val _ _ (by omega), rdN_take N k (by omega)]
    unfold stepC
    rw [getD_at N _ (by omega), getD_at N _ (by omega), getD_at N _ (by omega), getD_at N _ (by omega)]
theorem rev_ind {α : Type} {p : List α → Prop} (h0 : p []) (h1 : ∀ l x, p l → p (l ++ [x])) (l : List α) : p l := by
  rw [← List.reverse_reverse l]
  generalize l.reverse = r
  induction r with
  | nil => exact h0
  | cons x r ih => rw [List.reverse_cons]; exact h1 _ _ ih
theorem foldC_len (N : List Int) {n : Nat} (pre : List (ChT n)) : (foldC N pre).length = pre.length := by
  refine rev_ind (p := fun pre => (foldC N pre).length = pre.length) rfl (fun pre x ih => ?_) pre
  rw [foldC_snoc, List.length_append]
  unfold stepC
  rw [List.length_append, ih]
  rfl
theorem getD_bd (N : List Int) (hb : ∀ x ∈ N, -549755813888 ≤ x ∧ x ≤ 549755813887) (i : Nat) : -549755813888 ≤ N.getD i 0 ∧ N.getD i 0 ≤ 549755813887 := by
  by_cases h : i < N.length
  · rw [getD_at N i h]; exact hb _ (List.getElem_mem h)
  · have e : N.getD i 0 = 0 := by simp [List.getD, List.getElem?_eq_none (show N.length ≤ i by omega)]
    rw [e]; omega
theorem foldC_bd (N : List Int) (hb : ∀ x ∈ N, -549755813888 ≤ x ∧ x ≤ 549755813887) {n : Nat} (pre : List (ChT n)) : -(pre.length : Int) * 1099511627776 ≤ lastE 0 (foldC N pre) ∧ lastE 0 (foldC N pre) ≤ (pre.length : Int) * 1099511627776 := by
  refine rev_ind (p := fun pre : List (ChT n) => -(pre.length : Int) * 1099511627776 ≤ lastE 0 (foldC N pre) ∧ lastE 0 (foldC N pre) ≤ (pre.length : Int) * 1099511627776) (by simp [foldC, lastE]) (fun pre x ih => ?_) pre
  have b0 := getD_bd N hb (4 * x.1)
  have b1 := getD_bd N hb (4 * x.1 + 1)
  rw [foldC_snoc]
  unfold stepC
  rw [lastE_snoc, List.length_append]
  simp only [List.length_cons, List.length_nil]
  omega

theorem chunk_stops (M : Nat) (hM : 1 ≤ M) (Bs Bn g cap n : Nat) (a : Option Addr) (hn : n ≤ 1048576) (ha : 0 < n → a = some ⟨g, 0, none⟩ ∧ n ≤ cap) (w : World)
    (hBs : w.cell? ⟨Bs, 0, none⟩ = some (.slice a n cap)) (hsl : Bs < w.heap.size) (hBn : w.cell? ⟨Bn, 0, none⟩ = some (.int .i64 4)) (hnl : Bn < w.heap.size) :
    SeqStopsK Fence.wide M Try.prog 65 #[.pointer (some ⟨Bs, 0, none⟩), .pointer (some ⟨Bn, 0, none⟩)] (chV g n) (Kq2 Bs Bn) (fun ys => ys = chT n ((n + 3) / 4)) (fun pre => ∃ k, k ≤ (n + 3) / 4 ∧ pre = chT n k) ((n + 3) / 4) w := fun l J Jx W hW hJ _ hY h0 =>
  chunk_inT M hM l Bs Bn g cap n a hn ha J Jx (fun s A h => hJ s A A.drew none h ⟨rfl, rfl, rfl, Nat.le_refl _, fun _ _ _ => rfl⟩ (fun r e => by cases e)) hY W ((hW.cell (p := ⟨Bs, 0, none⟩) hsl).trans hBs) ((hW.cell (p := ⟨Bn, 0, none⟩) hnl).trans hBn) h0
theorem x_chunk (a : Option Addr) (n c : Nat) (w : World) :
    Calls Try.prog 56 #[.slice a n c, .int .i64 4] w fun e w' => e = .returned (.func (.func 65) #[] #[.pointer (some ⟨w.heap.size, 0, none⟩), .pointer (some ⟨w.heap.size + 1, 0, none⟩)]) ∧ w' = (w.alloc (.cells #[.slice a n c] 28)).alloc (.cells #[.int .i64 4] 3) := by
  go_enter Try.func56, Try.ntmps56
  go_wp2
  go_ret
  exact ⟨by simp, rfl⟩
/-- The activation in a round, the chunk being handed on. -/
def actC (a : Act) (v : Value) : Act := { tmps := (a.tmps.setIfInBounds 19 v).setIfInBounds 9 v, defers := [] }
theorem range_chunk {o : Operand} {assign body : Code} {Q : Exit → Act → World → Prop} {a : Act} {w : World} (Bs Bn g cap n : Nat) (ao : Option Addr) (hn : n ≤ 1048576) (ha : 0 < n → ao = some ⟨g, 0, none⟩ ∧ n ≤ cap)
    (hBs : w.cell? ⟨Bs, 0, none⟩ = some (.slice ao n cap)) (hsl : Bs < w.heap.size) (hBn : w.cell? ⟨Bn, 0, none⟩ = some (.int .i64 4)) (hnl : Bn < w.heap.size)
    (hg : a.eval o = .func (.func 65) #[] #[.pointer (some ⟨Bs, 0, none⟩), .pointer (some ⟨Bn, 0, none⟩)])
    (I : List (ChT n) → World → Prop) (Ix : Code → List (ChT n) → World → Prop) (hI : OwnFrom w.heap.size I) (hIx : ∀ c, OwnFrom w.heap.size (Ix c)) (h0 : I [] w)
    (hassign : ∀ (l : Nat) (x : ChT n) (W : World) (K' : Act → World → Prop), K' (actC a (chS g n x)) W → assign.wpIn (Fence.wide.inRound l) 8 Try.prog (Exit.then K' (fun _ _ _ => False)) { tmps := ((#[19] : Array Tmp).zip #[chS g n x]).foldl (fun t (p, v) => t.setIfInBounds p v) a.tmps, defers := [] } W)
    (hbody : ∀ (l : Nat) (pre : List (ChT n)) (x : ChT n) (W : World), I pre W → pre.length < (n + 3) / 4 → body.wpIn (Fence.wide.inRound l) 8 Try.prog (ownPostG w.heap.size (Kq2 Bs Bn) I Ix (pre ++ [x]) W) (actC a (chS g n x)) W)
    (hdone : ∀ (D : Nat) (W : World), w.heap.size ≤ D → I (chT n ((n + 3) / 4)) W → W.heap[D]? = some (.deferred (some [])) → Q .normal { a with defers := { target := .collected D, args := #[] } :: a.defers } W)
    (hstop : ∀ (D : Nat) (c : Code) (pre : List (ChT n)) (W : World), w.heap.size ≤ D → Ix c pre W → W.heap[D]? = some (.deferred (some [])) → c.wp Try.prog Q { a with defers := { target := .collected D, args := #[] } :: a.defers } W) :
    (Code.rangeFunc o #[19] assign body).wp Try.prog Q a w := by
  refine (wpIn_wide (n := 10)).1 ?_
  refine wpIn_rangeFunc_ownG (F := Fence.wide) (n := 10) rfl (by omega) hg trivial (enters_of Try.func65 (by kernel_rfl) rfl) (chunk_stops 9 (by omega) Bs Bn g cap n ao hn ha w hBs hsl hBn hnl) (fun h k => h.trans k)
    (fun W l o o' hl _ _ _ => ⟨World.putObj_heap_other (by omega), World.putObj_heap_other (by omega)⟩) (Below.refl _ _) (fun _ => rfl) I Ix hI hIx h0 (fun x => actC a (chS g n x)) ?_ hbody ?_ ?_
  · intro l x W K' hK
    exact hassign l x W K' hK
  · intro D ys W hD hS hI hK
    subst hS
    exact hdone D W hD hI hK
  · intro D c pre W hD _ h hK
    exact (wpIn_wide (n := 10)).2 (hstop D c pre W hD h hK)

/-- Behind an append to a row that a box holds, and the store of it. -/
theorem boxed_app {W w1 : World} {n₀ n₁ B : Nat} {t e : TypeId} {size : Nat} {v v' : Value} {k m : Nat} {xs ys : List Value} {tmp : Obj}
    (hv : Boxed W B t v) (hBn : B < n₀) (hrow : W.ownsRow n₀ e size v k xs) (hn₀ : n₀ ≤ W.heap.size) (hn1 : n₁ ≤ B) (hown' : w1.ownsRow n₀ e size v' m ys) (hgrow : (W.alloc tmp).grownBy w1 v.ownBlock) :
    Boxed w1 B t v ∧ Boxed (w1.setCell ⟨B, 0, none⟩ v') B t v' ∧ (w1.setCell ⟨B, 0, none⟩ v').ownsRow n₀ e size v' m ys ∧ KeepsOthers W (w1.setCell ⟨B, 0, none⟩ v') ∧ Below n₁ W (w1.setCell ⟨B, 0, none⟩ v') ∧ ∀ q, q < n₀ → q ≠ B → (w1.setCell ⟨B, 0, none⟩ v').heap[q]? = W.heap[q]? := by
  have hv1 : Boxed w1 B t v := (hv.alloc tmp).kept hgrow (fun e => by have := (hrow.lt B e.symm).1; omega)
  refine ⟨hv1, hv1.set v', hown'.kept (grownBy_setCell' w1 B v') (by
    cases h : v'.ownBlock with
    | none => exact .inl rfl
    | some g => exact .inr (fun e => by have := (hown'.lt g h).1; injection e with e; omega)), ?_, ?_, ?_⟩
  · refine ((KeepsOthers.alloc W tmp).trans (KeepsOthers.of_grownBy hgrow fun j o ej hj => ?_)).trans (KeepsOthers.setCell _ _ _)
    rcases (hrow.alloc tmp).2 with ⟨rfl, _⟩ | ⟨g, cap, cur, rfl, _, hgb, _⟩
    · simp [Value.ownBlock] at ej
    · obtain rfl : g = j := by simpa [Value.ownBlock] using ej
      rw [hgb] at hj; cases hj; rfl
  · exact (((Below.refl n₁ W).alloc (by omega) tmp).grown hgrow (by simp; omega) fun j ej => by have := (hrow.lt j ej).1; omega).setCell (p := ⟨B, 0, none⟩) hn1 v'
  · intro q h1 h2
    exact (set_other h2).trans ((hgrow.block q (by simp; omega) (fun e => by have := (hrow.lt q e.symm).1; omega)).trans (Below.heap_alloc _ _ _ (by omega)))
attribute [local go_sem] Oper.semAt_some
set_option maxRecDepth 100000 in
set_option maxHeartbeats 8000000 in
theorem i_decR (s : ByteArray) (w : World) (hm : s.size ≤ 1048576) :
    Calls Try.prog 28 #[.string s] w (DrR 61 w.heap.size (drZ s.data.toList) w) := by
  have HODD := Lib.hid (drZ_odd s.data.toList)
  have HNE := Lib.hid (drZ_ne s.data.toList)
  have HEQ := Lib.hid (drZ_eq s.data.toList)
  have UN := Lib.hid (fun W => i_unI s 0 W (by omega) (by decide))
  have hul := unZ_len s.data.toList 0
  rw [list_len] at hul
  have hub := unZ_bd s.data.toList 0
  obtain ⟨r, hr⟩ : ∃ r, unZ s.data.toList 0 = r := ⟨_, rfl⟩
  rw [hr] at UN HODD HNE HEQ hul hub
  obtain ⟨N, z, ok⟩ := r
  dsimp only at HODD HNE HEQ hul hub
  have HUB := Lib.hid hub
  have hN := hul.1
  clear hr hub hul
  refine calls_of_wp_marksU Try.func28 rfl ?_
  simp only [Try.ntmps28, List.size_toArray, List.length_cons, List.length_nil, Nat.reduceAdd, Nat.reduceSub, Array.replicate_succ, Array.replicate_zero, List.push_toArray, List.append_toArray, List.nil_append, List.cons_append]
  obtain ⟨w0, hw0⟩ : ∃ W, (w.alloc (.cells #[.slice none 0 0] 37)).alloc (.cells #[.bool false] 4) = W := ⟨_, rfl⟩
  have HB0 : Hid (Below w.heap.size w w0) := Lib.hid (by rw [← hw0]; exact ((Below.refl _ _).alloc (Nat.le_refl _) _).alloc (by simp) _)
  have hs0 : w0.heap.size = w.heap.size + 2 := by rw [← hw0]; simp
  have X2 : Hid (w0.heap[w.heap.size]? = some (.cells #[.slice none 0 0] 37 (0, 0))) := Lib.hid (by
    rw [← hw0]
    have h := ((Below.refl (w.alloc (.cells #[.slice none 0 0] 37)).heap.size (w.alloc (.cells #[.slice none 0 0] 37))).alloc (Nat.le_refl _) (.cells #[.bool false] 4)).block w.heap.size (by simp)
    exact h.trans (heap_alloc_new w _))
  have X3 : Hid (w0.heap[w.heap.size + 1]? = some (.cells #[.bool false] 4 (0, 0))) := Lib.hid (by
    rw [← hw0]
    have h := heap_alloc_new (w.alloc (.cells #[.slice none 0 0] 37)) (.cells #[.bool false] 4)
    simpa using h)
  have HW0 := Lib.hid hw0
  clear hw0
  go_wp2_with fail
  rw [HW0.out]
  refine (UN.out _).mono ?_
  rintro e w1 ⟨v1, rfl, O1, b1⟩
  dsimp only at O1 ⊢
  obtain ⟨nl, hnl⟩ : ∃ nl, N.length = nl := ⟨_, rfl⟩
  have HNL := Lib.hid hnl
  rw [hnl] at O1 hN
  obtain ⟨a, c, rfl⟩ := owns_shape O1
  have hb1 := b1.size
  have HB1 := Lib.hid (HB0.out.trans (b1.mono (by omega)))
  have Y2 := Lib.hid ((b1.block w.heap.size (by omega)).trans X2.out)
  have Y3 := Lib.hid ((b1.block (w.heap.size + 1) (by omega)).trans X3.out)
  have RD : Hid (0 < nl → ∃ g, a = some ⟨g, 0, none⟩ ∧ nl ≤ c ∧ g < w1.heap.size ∧ ∀ j, ∀ h : j < N.length, w1.cell? ⟨g, j, none⟩ = some (.int .i64 N[j])) := Lib.hid (fun hp => by
    rcases O1.2 with ⟨_, h0⟩ | ⟨g, cap, cur, e, hB, hg, hlc, _⟩
    · omega
    · injection e with e1 e2 e3
      have hgl : g < w1.heap.size := (O1.lt g (by rw [e1]; rfl)).2
      refine ⟨g, e1, by omega, hgl, fun j h => ?_⟩
      have hr := readI_of (l := N) (by rw [HNL.out]; exact O1) j h
      obtain ⟨g', e', _, hc⟩ := hr
      rw [e1] at e'
      injection e' with e'
      injection e' with e'
      subst e'
      exact hc)
  clear b1 O1 hnl UN X2 X3 HB0
  go_wp2_with fail
  obtain ⟨w2, hw2⟩ : ∃ W, (w1.alloc (.cells #[.slice none 0 0] 37)).alloc (.cells #[.int .i64 0] 3) = W := ⟨_, rfl⟩
  have HB2 : Hid (Below w1.heap.size w1 w2) := Lib.hid (by rw [← hw2]; exact ((Below.refl _ _).alloc (Nat.le_refl _) _).alloc (by simp) _)
  have hs2 : w2.heap.size = w1.heap.size + 2 := by rw [← hw2]; simp
  have X7 : Hid (Boxed w2 w1.heap.size 37 (.slice none 0 0)) := Lib.hid (by rw [← hw2]; exact (Boxed.new w1 _ _).alloc _)
  have X8 : Hid (Boxed w2 (w1.heap.size + 1) 3 (.int .i64 0)) := Lib.hid (by
    rw [← hw2]
    have h := Boxed.new (w1.alloc (.cells #[.slice none 0 0] 37)) 3 (.int .i64 0)
    simpa using h)
  have XC := Lib.hid (x_chunk a nl c w2)
  rw [hw2]
  clear hw2
  refine XC.out.mono ?_
  rintro e w3 ⟨rfl, hw3⟩
  have HB3 : Hid (Below w2.heap.size w2 w3) := Lib.hid (by rw [hw3]; exact ((Below.refl _ _).alloc (Nat.le_refl _) _).alloc (by simp) _)
  have hs3 : w3.heap.size = w1.heap.size + 4 := by rw [hw3]; simp; omega
  have XS : Hid (Boxed w3 (w1.heap.size + 2) 28 (.slice a nl c)) := Lib.hid (by rw [hw3, ← hs2]; exact (Boxed.new w2 _ _).alloc _)
  have XN : Hid (Boxed w3 (w1.heap.size + 2 + 1) 3 (.int .i64 4)) := Lib.hid (by
    rw [hw3, ← hs2]
    have h := Boxed.new (w2.alloc (.cells #[.slice a nl c] 28)) 3 (.int .i64 4)
    simpa using h)
  have Z7 : Hid (Boxed w3 w1.heap.size 37 (.slice none 0 0)) := Lib.hid ((HB3.out.block _ (by omega)).trans X7.out)
  have Z8 : Hid (Boxed w3 (w1.heap.size + 1) 3 (.int .i64 0)) := Lib.hid ((HB3.out.block _ (by omega)).trans X8.out)
  have HB13 : Hid (Below w1.heap.size w1 w3) := Lib.hid (HB2.out.trans (HB3.out.mono (by omega)))
  have hnl0 : nl ≤ 1048576 := by omega
  clear hw3 X7 X8 XC HB2 HB3
  go_wp2_with fail
  obtain ⟨g, hga, hgw, hcc⟩ : ∃ g, (0 < nl → a = some ⟨g, 0, none⟩ ∧ nl ≤ c) ∧ (0 < nl → g < w1.heap.size) ∧ Hid (∀ j, ∀ h : j < N.length, w1.cell? ⟨g, j, none⟩ = some (.int .i64 N[j])) := by
    by_cases h0 : 0 < nl
    · obtain ⟨g, e1, e2, e3, e4⟩ := RD.out h0
      exact ⟨g, fun _ => ⟨e1, e2⟩, fun _ => e3, Lib.hid e4⟩
    · exact ⟨0, fun h => absurd h h0, fun h => absurd h h0, Lib.hid (fun j h => by have := HNL.out; omega)⟩
  have h0w : w.heap.size + 2 ≤ w1.heap.size := by omega
  refine range_chunk (w1.heap.size + 2) (w1.heap.size + 2 + 1) g c nl a hnl0 hga XS.out.cell (by omega) XN.out.cell (by omega) rfl
    (fun pre W => (((∃ v, Boxed W w1.heap.size 37 v ∧ W.ownsRow w3.heap.size 61 4 v (foldC N pre).length (rusV (foldC N pre)) ∧ True) ∧ Boxed W (w1.heap.size + 1) 3 (.int .i64 (lastE 0 (foldC N pre)))) ∧ Below w1.heap.size w3 W) ∧ Hid (∀ x ∈ pre, 4 * x.1 + 4 ≤ nl))
    (fun cd _ W => cd = .ret ∧ Hid (nl % 4 ≠ 0) ∧ Boxed W w.heap.size 37 (.slice none 0 0) ∧ Boxed W (w.heap.size + 1) 4 (.bool false) ∧ Below w.heap.size w W)
    (OwnFrom.and (OwnFrom.and (OwnFrom.and (Own.from (holdsRow_own w3.heap.size w1.heap.size 37 61 4 (fun pre => (foldC N pre).length) (fun pre => rusV (foldC N pre)) (fun _ _ => True)) _) (Own.from (boxed_own _ _ _) _)) (ownFrom_below (by omega) (by omega))) (ownFrom_pure _ _))
    (fun cd s A B row hs hg hr => ⟨hs.1, hs.2.1, hs.2.2.1.kept hg (fun e => by have := (hr _ e.symm).1; omega), hs.2.2.2.1.kept hg (fun e => by have := (hr _ e.symm).1; omega), hs.2.2.2.2.grown hg (by have := hs.2.2.2.2.size; omega) (fun k e => by have := (hr k e).1; omega)⟩)
    ⟨⟨⟨⟨_, Z7.out, World.ownsRow_nil _ _ _ _, trivial⟩, Z8.out⟩, Below.refl _ _⟩, Lib.hid (fun x hx => by simp at hx)⟩ ?assign ?body ?done ?stop
  case assign =>
    intro l x W K' hK
    unfold actC at hK
    simp only [List.setIfInBounds_toArray, List.set_cons_zero, List.set_cons_succ] at hK
    gi_wp2
    exact hK
  case body =>
    rintro l pre x W ⟨⟨⟨⟨v, hv, hrow, _⟩, hend⟩, hbel3⟩, HALL⟩ hlt
    have hw3W := hbel3.size
    have HBL3 := Lib.hid hbel3
    have hbel := HB13.out.trans hbel3
    clear hbel3
    have hx : 4 * x.1 < nl := by have := x.2; omega
    have HBL := Lib.hid hbel
    have hWs := hbel.size
    unfold actC chS
    simp only [List.setIfInBounds_toArray, List.set_cons_zero, List.set_cons_succ]
    refine wpIn_block ?_
    by_cases hch : 4 * x.1 + 4 ≤ nl
    · have he : chN nl x.1 = 4 := by unfold chN; omega
      have HCH := Lib.hid hch
      rw [he]
      have hq3 : 4 * x.1 + 3 < N.length := by rw [HNL.out]; omega
      have hg1 : g < w1.heap.size := hgw (by omega)
      have CC : ∀ j, ∀ h : j < N.length, W.cell? ⟨g, j, none⟩ = some (.int .i64 (N.getD j 0)) := fun j h => by rw [getD_at N j h]; exact (hbel.cell (p := ⟨g, j, none⟩) hg1).trans (hcc.out j h)
      have c0 := CC (4 * x.1) (by omega)
      have c1 := CC (4 * x.1 + 1) (by omega)
      have c2 := CC (4 * x.1 + 2) (by omega)
      have c3 := CC (4 * x.1 + 3) (by omega)
      have d0 := getD_bd N HUB.out (4 * x.1)
      have d1 := getD_bd N HUB.out (4 * x.1 + 1)
      have hE := foldC_bd N HUB.out pre
      have hRl := foldC_len N pre
      have hstep := foldC_snoc N pre x
      unfold stepC at hstep
      obtain ⟨R, hR⟩ : ∃ R, foldC N pre = R := ⟨_, rfl⟩
      rw [hR] at hE hRl hstep hrow hend
      obtain ⟨la, hla⟩ : ∃ la, lastE 0 R = la := ⟨_, rfl⟩
      rw [hla] at hE hstep hend
      obtain ⟨n0, hn0⟩ : ∃ y, N.getD (4 * x.1) 0 = y := ⟨_, rfl⟩
      obtain ⟨n1, hn1⟩ : ∃ y, N.getD (4 * x.1 + 1) 0 = y := ⟨_, rfl⟩
      obtain ⟨n2, hn2⟩ : ∃ y, N.getD (4 * x.1 + 2) 0 = y := ⟨_, rfl⟩
      obtain ⟨n3, hn3⟩ : ∃ y, N.getD (4 * x.1 + 3) 0 = y := ⟨_, rfl⟩
      rw [hn0] at c0 d0 hstep
      rw [hn1] at c1 d1 hstep
      rw [hn2] at c2 hstep
      rw [hn3] at c3 hstep
      obtain ⟨q, hq⟩ : ∃ q, 4 * x.1 = q := ⟨_, rfl⟩
      rw [hq] at c0 c1 c2 c3 ⊢
      obtain ⟨e0, e1⟩ := hE
      obtain ⟨d00, d01⟩ := d0
      obtain ⟨d10, d11⟩ := d1
      have HST := Lib.hid hstep
      have hpl : (pre.length : Int) ≤ 262144 := by omega
      have e2 : -300000000000000000 ≤ la := by omega
      have e3 : la ≤ 300000000000000000 := by omega
      have HRL := Lib.hid hRl
      have HV := Lib.hid hv
      have HEN := Lib.hid hend
      have b8 := hend.cell
      have S8 : Hid (W.cell? ⟨w1.heap.size + 1, 0, none⟩ = some (.int .i64 la) ∧ W.cell? ⟨g, q, none⟩ = some (.int .i64 n0)) := Lib.hid ⟨b8, c0⟩
      have C1 := Lib.hid c1
      have C2 := Lib.hid c2
      have C3 := Lib.hid c3
      have F8 := Lib.hid hend.frozen
      have q0 : IntKind.i64.wrap (la + n0) = la + n0 := IntWalk.i64_in _ (by omega)
      have q1 : IntKind.i64.wrap (la + n0 + n1) = la + n0 + n1 := IntWalk.i64_in _ (by omega)
      clear CC hstep hR hla hn0 hn1 hn2 hn3 hq hRl c0 c1 c2 c3 b8 hv hend hbel hq3 he
      gi_wp2
      refine R_start (S := (fun w' => w'.cell? ⟨w1.heap.size + 1, 0, none⟩ = some (.int .i64 la) ∧ w'.cell? ⟨g, q, none⟩ = some (.int .i64 n0))) 5 (by kernel_rfl) (by kernel_rfl) (fun h => by obtain ⟨_, _, h⟩ := h; exact h) (S8.out) (fun hHeld => ?_)
      refine E_take (i := 0) (oi := _) (v := ?_) rfl (by kernel_rfl) (fun _ _ _ h => h) ?_ (by assumption) ?_
      rotate_left 1
      · first | (refine Or.inl ⟨by rfl, ?_⟩; intro w hSw; (try dsimp only at hSw); (try simp only [List.getElem_toArray, List.getElem_cons_zero, List.getElem_cons_succ]); go_simp; done) | (refine Or.inl ⟨by rfl, ?_⟩; intro w hSw; (try dsimp only at hSw); (try simp only [List.getElem_toArray, List.getElem_cons_zero, List.getElem_cons_succ]); go_simp; with_reducible rfl)
      try simp only [Act.put, List.setIfInBounds_toArray, List.set_cons_zero, List.set_cons_succ, List.getElem_toArray, List.getElem_cons_zero, List.getElem_cons_succ]
      refine E_take (i := 1) (oi := _) (v := ?_) rfl (by kernel_rfl) (fun _ _ _ h => h) ?_ (by assumption) ?_
      rotate_left 1
      · first | (refine Or.inl ⟨by rfl, ?_⟩; intro w hSw; (try dsimp only at hSw); (try simp only [List.getElem_toArray, List.getElem_cons_zero, List.getElem_cons_succ]); go_simp; done) | (refine Or.inl ⟨by rfl, ?_⟩; intro w hSw; (try dsimp only at hSw); (try simp only [List.getElem_toArray, List.getElem_cons_zero, List.getElem_cons_succ]); go_simp; with_reducible rfl)
      try simp only [Act.put, List.setIfInBounds_toArray, List.set_cons_zero, List.set_cons_succ, List.getElem_toArray, List.getElem_cons_zero, List.getElem_cons_succ]
      refine E_take (i := 2) (oi := _) (v := ?_) rfl (by kernel_rfl) (fun _ _ _ h => h) ?_ (by assumption) ?_
      rotate_left 1
      · first | (refine Or.inl ⟨by rfl, ?_⟩; intro w hSw; (try dsimp only at hSw); (try simp only [List.getElem_toArray, List.getElem_cons_zero, List.getElem_cons_succ]); go_simp; done) | (refine Or.inl ⟨by rfl, ?_⟩; intro w hSw; (try dsimp only at hSw); (try simp only [List.getElem_toArray, List.getElem_cons_zero, List.getElem_cons_succ]); go_simp; with_reducible rfl)
      try simp only [Act.put, List.setIfInBounds_toArray, List.set_cons_zero, List.set_cons_succ, List.getElem_toArray, List.getElem_cons_zero, List.getElem_cons_succ]
      refine E_take (i := 3) (oi := _) (v := ?_) rfl (by kernel_rfl) (fun _ _ _ h => h) ?_ (by assumption) ?_
      rotate_left 1
      · first | (refine Or.inl ⟨by rfl, ?_⟩; intro w hSw; (try dsimp only at hSw); (try simp only [List.getElem_toArray, List.getElem_cons_zero, List.getElem_cons_succ]); go_simp; done) | (refine Or.inl ⟨by rfl, ?_⟩; intro w hSw; (try dsimp only at hSw); (try simp only [List.getElem_toArray, List.getElem_cons_zero, List.getElem_cons_succ]); go_simp; with_reducible rfl)
      try simp only [Act.put, List.setIfInBounds_toArray, List.set_cons_zero, List.set_cons_succ, List.getElem_toArray, List.getElem_cons_zero, List.getElem_cons_succ]
      refine E_take (i := 4) (oi := _) (v := ?_) rfl (by kernel_rfl) (fun _ _ _ h => h) ?_ (by assumption) ?_
      rotate_left 1
      · first | (refine Or.inl ⟨by rfl, ?_⟩; intro w hSw; (try dsimp only at hSw); (try simp only [List.getElem_toArray, List.getElem_cons_zero, List.getElem_cons_succ]); go_simp; done) | (refine Or.inl ⟨by rfl, ?_⟩; intro w hSw; (try dsimp only at hSw); (try simp only [List.getElem_toArray, List.getElem_cons_zero, List.getElem_cons_succ]); go_simp; with_reducible rfl)
      try simp only [Act.put, List.setIfInBounds_toArray, List.set_cons_zero, List.set_cons_succ, List.getElem_toArray, List.getElem_cons_zero, List.getElem_cons_succ]
      refine E_last (o := _) (by kernel_rfl) rfl (by kernel_rfl) (fun K hK => ?_)
      try simp only [List.getElem_toArray, List.getElem_cons_zero, List.getElem_cons_succ]
      go_simp
      refine hK.out _ _ ?_
      clear hK K
      have g1 : W.drew.cell? ⟨g, q + 1, none⟩ = some (.int .i64 n1) := C1.out
      have g8 : W.drew.cell? ⟨w1.heap.size + 1, 0, none⟩ = some (.int .i64 la) := S8.out.1
      have gf : W.drew.frozen? ⟨w1.heap.size + 1, 0, none⟩ = false := F8.out
      gi_wp2
      obtain ⟨Wa, hWa⟩ : ∃ W', (W.setCell ⟨w1.heap.size + 1, 0, none⟩ (.int .i64 (la + n0 + n1))).drew = W' := ⟨_, rfl⟩
      have HWs : Hid (Wa.heap.size = W.heap.size) := Lib.hid (by rw [← hWa]; show (W.setCell _ _).heap.size = _; simp [World.setCell])
      have hwa3 : w3.heap.size ≤ Wa.heap.size := by rw [HWs.out]; exact hw3W
      have HBa : Hid (Below w1.heap.size W Wa) := Lib.hid (by rw [← hWa]; exact ((Below.refl _ _).setCell (Nat.le_succ _) _).drew)
      have HKa : Hid (KeepsOthers W Wa) := Lib.hid (by rw [← hWa]; exact (KeepsOthers.setCell _ _ _).trans (KeepsOthers.drew _))
      have HOa : Hid (∀ q', q' ≠ w1.heap.size + 1 → Wa.heap[q']? = W.heap[q']?) := Lib.hid (fun q' h => by rw [← hWa]; exact set_other h)
      have HV7 : Hid (Boxed Wa w1.heap.size 37 v) := Lib.hid ((HOa.out _ (by omega)).trans HV.out)
      have HV8 : Hid (Boxed Wa (w1.heap.size + 1) 3 (.int .i64 (la + n0 + n1))) := Lib.hid (by rw [← hWa]; exact Boxed.set _ HEN.out)
      have HRW : Hid (Wa.ownsRow w3.heap.size 61 4 v R.length (rusV R)) := Lib.hid (by
        rw [← hWa]
        exact (hrow.kept (grownBy_setCell' W (w1.heap.size + 1) _) (by
          cases h : v.ownBlock with
          | none => exact .inl rfl
          | some g' => exact .inr (fun e => by have := (hrow.lt g' h).1; injection e with e; omega))).drew)
      have HC2 : Hid (Wa.cell? ⟨g, q + 2, none⟩ = some (.int .i64 n2)) := Lib.hid ((HBa.out.cell (p := ⟨g, q + 2, none⟩) hg1).trans C2.out)
      have HC3 : Hid (Wa.cell? ⟨g, q + 3, none⟩ = some (.int .i64 n3)) := Lib.hid ((HBa.out.cell (p := ⟨g, q + 3, none⟩) hg1).trans C3.out)
      have S10 : Hid (Wa.cell? ⟨w1.heap.size, 0, none⟩ = some v ∧ Wa.cell? ⟨w1.heap.size + 1, 0, none⟩ = some (.int .i64 (la + n0 + n1)) ∧ Wa.cell? ⟨g, q + 2, none⟩ = some (.int .i64 n2) ∧ Wa.cell? ⟨g, q + 3, none⟩ = some (.int .i64 n3)) := Lib.hid ⟨HV7.out.cell, HV8.out.cell, HC2.out, HC3.out⟩
      have HOW : Hid ((Wa.alloc (.cells #[.int .i64 (la + n0), .int .i64 (la + n0 + n1), .bool (n2 == 1), .int .i64 n3] 61)).drew.ownsRow w3.heap.size 61 4 v R.length (rusV R)) := Lib.hid ((HRW.out.alloc _).drew)
      have HNW : Hid (∀ j u, ([.int .i64 (la + n0), .int .i64 (la + n0 + n1), .bool (n2 == 1), .int .i64 n3] : List Value)[j]? = some u → (Wa.alloc (.cells #[.int .i64 (la + n0), .int .i64 (la + n0 + n1), .bool (n2 == 1), .int .i64 n3] 61)).drew.cell? ((⟨Wa.heap.size, 0, none⟩ : Addr).add j) = some u) := Lib.hid (World.news_of_block (cs := #[.int .i64 (la + n0), .int .i64 (la + n0 + n1), .bool (n2 == 1), .int .i64 n3]) (t := 61) (fr := (0, 0)) (heap_alloc_new Wa _))
      have HBW : Hid (w3.heap.size ≤ (Wa.alloc (.cells #[.int .i64 (la + n0), .int .i64 (la + n0 + n1), .bool (n2 == 1), .int .i64 n3] 61)).drew.heap.size) := Lib.hid (by show w3.heap.size ≤ (Wa.alloc (.cells #[.int .i64 (la + n0), .int .i64 (la + n0 + n1), .bool (n2 == 1), .int .i64 n3] 61)).heap.size; simp; omega)
      have S11 : Hid ((Wa.alloc (.cells #[.int .i64 (la + n0), .int .i64 (la + n0 + n1), .bool (n2 == 1), .int .i64 n3] 61)).drew.cell? ⟨w1.heap.size, 0, none⟩ = some v ∧ (Wa.alloc (.cells #[.int .i64 (la + n0), .int .i64 (la + n0 + n1), .bool (n2 == 1), .int .i64 n3] 61)).drew.cell? ⟨w1.heap.size + 1, 0, none⟩ = some (.int .i64 (la + n0 + n1)) ∧ (Wa.alloc (.cells #[.int .i64 (la + n0), .int .i64 (la + n0 + n1), .bool (n2 == 1), .int .i64 n3] 61)).drew.cell? ⟨g, q + 2, none⟩ = some (.int .i64 n2) ∧ (Wa.alloc (.cells #[.int .i64 (la + n0), .int .i64 (la + n0 + n1), .bool (n2 == 1), .int .i64 n3] 61)).drew.cell? ⟨g, q + 3, none⟩ = some (.int .i64 n3)) := Lib.hid ⟨(HV7.out.alloc _).cell, (HV8.out.alloc _).cell, (((Below.refl Wa.heap.size Wa).alloc (Nat.le_refl _) _).cell (p := ⟨g, q + 2, none⟩) (show g < Wa.heap.size by omega)).trans HC2.out, (((Below.refl Wa.heap.size Wa).alloc (Nat.le_refl _) _).cell (p := ⟨g, q + 3, none⟩) (show g < Wa.heap.size by omega)).trans HC3.out⟩
      have S12 : Hid (∀ w4, (Wa.alloc (.cells #[.int .i64 (la + n0), .int .i64 (la + n0 + n1), .bool (n2 == 1), .int .i64 n3] 61)).drew.grownBy w4 v.ownBlock → w4.cell? ⟨w1.heap.size, 0, none⟩ = some v ∧ w4.cell? ⟨w1.heap.size + 1, 0, none⟩ = some (.int .i64 (la + n0 + n1)) ∧ w4.cell? ⟨g, q + 2, none⟩ = some (.int .i64 n2) ∧ w4.cell? ⟨g, q + 3, none⟩ = some (.int .i64 n3)) := Lib.hid (fun w4 hg => by
        have hg' : (Wa.alloc (.cells #[.int .i64 (la + n0), .int .i64 (la + n0 + n1), .bool (n2 == 1), .int .i64 n3] 61)).grownBy w4 v.ownBlock := ⟨hg.os, hg.tape, hg.output, hg.size, hg.block⟩
        have hne : ∀ r, r < w3.heap.size → some r ≠ v.ownBlock := fun r hr e => by have := (HRW.out.lt r e.symm).1; omega
        have hB4 : Below w1.heap.size Wa w4 := ((Below.refl w1.heap.size Wa).alloc (by omega) _).grown hg' (by simp; omega) (fun j e => by have := (HRW.out.lt j e).1; omega)
        exact ⟨((HV7.out.alloc _).kept hg' (hne _ (by omega))).cell, ((HV8.out.alloc _).kept hg' (hne _ (by omega))).cell, (hB4.cell (p := ⟨g, q + 2, none⟩) hg1).trans HC2.out, (hB4.cell (p := ⟨g, q + 3, none⟩) hg1).trans HC3.out⟩)
      have FZ : Hid (∀ w4, (Wa.alloc (.cells #[.int .i64 (la + n0), .int .i64 (la + n0 + n1), .bool (n2 == 1), .int .i64 n3] 61)).drew.grownBy w4 v.ownBlock → w4.frozen? ⟨w1.heap.size, 0, none⟩ = false) := Lib.hid (fun w4 hg => by
        have hg' : (Wa.alloc (.cells #[.int .i64 (la + n0), .int .i64 (la + n0 + n1), .bool (n2 == 1), .int .i64 n3] 61)).grownBy w4 v.ownBlock := ⟨hg.os, hg.tape, hg.output, hg.size, hg.block⟩
        exact ((HV7.out.alloc _).kept hg' (fun e => by have := (HRW.out.lt _ e.symm).1; omega)).frozen)
      obtain ⟨i0, hi, hz0, hz1, hz2⟩ := info_parts infoRu
      have h63 : R.length + 1 ≤ maxLen := by have := HRL.out; unfold maxLen; omega
      have hby : (R.length + 1) * 32 ≤ 140737488355328 := by have := HRL.out; omega
      have HWA := Lib.hid hWa
      rw [hWa]
      clear hWa g1 g8 gf hrow
      refine R_start (S := (fun w' => w'.cell? ⟨w1.heap.size, 0, none⟩ = some v ∧ w'.cell? ⟨w1.heap.size + 1, 0, none⟩ = some (.int .i64 (la + n0 + n1)) ∧ w'.cell? ⟨g, q + 2, none⟩ = some (.int .i64 n2) ∧ w'.cell? ⟨g, q + 3, none⟩ = some (.int .i64 n3))) 13 (by kernel_rfl) (by kernel_rfl) (fun h => by obtain ⟨_, _, h⟩ := h; exact h) (S10.out) (fun hHeld => ?_)
      refine E_take (i := 0) (oi := _) (v := ?_) rfl (by kernel_rfl) (fun _ _ _ h => h) ?_ (by assumption) ?_
      rotate_left 1
      · first | (refine Or.inl ⟨by rfl, ?_⟩; intro w hSw; (try dsimp only at hSw); (try simp only [List.getElem_toArray, List.getElem_cons_zero, List.getElem_cons_succ]); go_simp; done) | (refine Or.inl ⟨by rfl, ?_⟩; intro w hSw; (try dsimp only at hSw); (try simp only [List.getElem_toArray, List.getElem_cons_zero, List.getElem_cons_succ]); go_simp; with_reducible rfl)
      try simp only [Act.put, List.setIfInBounds_toArray, List.set_cons_zero, List.set_cons_succ, List.getElem_toArray, List.getElem_cons_zero, List.getElem_cons_succ]
      refine E_take (i := 1) (oi := _) (v := ?_) rfl (by kernel_rfl) (fun _ _ _ h => h) ?_ (by assumption) ?_
      rotate_left 1
      · first | (refine Or.inl ⟨by rfl, ?_⟩; intro w hSw; (try dsimp only at hSw); (try simp only [List.getElem_toArray, List.getElem_cons_zero, List.getElem_cons_succ]); go_simp; done) | (refine Or.inl ⟨by rfl, ?_⟩; intro w hSw; (try dsimp only at hSw); (try simp only [List.getElem_toArray, List.getElem_cons_zero, List.getElem_cons_succ]); go_simp; with_reducible rfl)
      try simp only [Act.put, List.setIfInBounds_toArray, List.set_cons_zero, List.set_cons_succ, List.getElem_toArray, List.getElem_cons_zero, List.getElem_cons_succ]
      refine E_take (i := 2) (oi := _) (v := ?_) rfl (by kernel_rfl) (fun _ _ _ h => h) ?_ (by assumption) ?_
      rotate_left 1
      · first | (refine Or.inl ⟨by rfl, ?_⟩; intro w hSw; (try dsimp only at hSw); (try simp only [List.getElem_toArray, List.getElem_cons_zero, List.getElem_cons_succ]); go_simp; done) | (refine Or.inl ⟨by rfl, ?_⟩; intro w hSw; (try dsimp only at hSw); (try simp only [List.getElem_toArray, List.getElem_cons_zero, List.getElem_cons_succ]); go_simp; with_reducible rfl)
      try simp only [Act.put, List.setIfInBounds_toArray, List.set_cons_zero, List.set_cons_succ, List.getElem_toArray, List.getElem_cons_zero, List.getElem_cons_succ]
      refine E_take (i := 3) (oi := _) (v := ?_) rfl (by kernel_rfl) (fun _ _ _ h => h) ?_ (by assumption) ?_
      rotate_left 1
      · first | (refine Or.inl ⟨by rfl, ?_⟩; intro w hSw; (try dsimp only at hSw); (try simp only [List.getElem_toArray, List.getElem_cons_zero, List.getElem_cons_succ]); go_simp; done) | (refine Or.inl ⟨by rfl, ?_⟩; intro w hSw; (try dsimp only at hSw); (try simp only [List.getElem_toArray, List.getElem_cons_zero, List.getElem_cons_succ]); go_simp; with_reducible rfl)
      try simp only [Act.put, List.setIfInBounds_toArray, List.set_cons_zero, List.set_cons_succ, List.getElem_toArray, List.getElem_cons_zero, List.getElem_cons_succ]
      refine E_take (i := 4) (oi := _) (v := ?_) rfl (by kernel_rfl) (fun _ _ _ h => h) ?_ (by assumption) ?_
      rotate_left 1
      · first | (refine Or.inl ⟨by rfl, ?_⟩; intro w hSw; (try dsimp only at hSw); (try simp only [List.getElem_toArray, List.getElem_cons_zero, List.getElem_cons_succ]); go_simp; done) | (refine Or.inl ⟨by rfl, ?_⟩; intro w hSw; (try dsimp only at hSw); (try simp only [List.getElem_toArray, List.getElem_cons_zero, List.getElem_cons_succ]); go_simp; with_reducible rfl)
      try simp only [Act.put, List.setIfInBounds_toArray, List.set_cons_zero, List.set_cons_succ, List.getElem_toArray, List.getElem_cons_zero, List.getElem_cons_succ]
      refine E_take (i := 5) (oi := _) (v := ?_) rfl (by kernel_rfl) (fun _ _ _ h => h) ?_ (by assumption) ?_
      rotate_left 1
      · first | (refine Or.inl ⟨by rfl, ?_⟩; intro w hSw; (try dsimp only at hSw); (try simp only [List.getElem_toArray, List.getElem_cons_zero, List.getElem_cons_succ]); go_simp; done) | (refine Or.inl ⟨by rfl, ?_⟩; intro w hSw; (try dsimp only at hSw); (try simp only [List.getElem_toArray, List.getElem_cons_zero, List.getElem_cons_succ]); go_simp; with_reducible rfl)
      try simp only [Act.put, List.setIfInBounds_toArray, List.set_cons_zero, List.set_cons_succ, List.getElem_toArray, List.getElem_cons_zero, List.getElem_cons_succ]
      refine E_take (i := 6) (oi := _) (v := ?_) rfl (by kernel_rfl) (fun _ _ _ h => h) ?_ (by assumption) ?_
      rotate_left 1
      · first | (refine Or.inl ⟨by rfl, ?_⟩; intro w hSw; (try dsimp only at hSw); (try simp only [List.getElem_toArray, List.getElem_cons_zero, List.getElem_cons_succ]); go_simp; done) | (refine Or.inl ⟨by rfl, ?_⟩; intro w hSw; (try dsimp only at hSw); (try simp only [List.getElem_toArray, List.getElem_cons_zero, List.getElem_cons_succ]); go_simp; with_reducible rfl)
      try simp only [Act.put, List.setIfInBounds_toArray, List.set_cons_zero, List.set_cons_succ, List.getElem_toArray, List.getElem_cons_zero, List.getElem_cons_succ]
      refine E_take (i := 7) (oi := _) (v := ?_) rfl (by kernel_rfl) (fun _ _ _ h => h) ?_ (by assumption) ?_
      rotate_left 1
      · first | (refine Or.inl ⟨by rfl, ?_⟩; intro w hSw; (try dsimp only at hSw); (try simp only [List.getElem_toArray, List.getElem_cons_zero, List.getElem_cons_succ]); go_simp; done) | (refine Or.inl ⟨by rfl, ?_⟩; intro w hSw; (try dsimp only at hSw); (try simp only [List.getElem_toArray, List.getElem_cons_zero, List.getElem_cons_succ]); go_simp; with_reducible rfl)
      try simp only [Act.put, List.setIfInBounds_toArray, List.set_cons_zero, List.set_cons_succ, List.getElem_toArray, List.getElem_cons_zero, List.getElem_cons_succ]
      refine E_take (i := 8) (oi := _) (v := ?_) rfl (by kernel_rfl) (fun _ _ _ h => h) ?_ (by assumption) ?_
      rotate_left 1
      · first | (refine Or.inl ⟨by rfl, ?_⟩; intro w hSw; (try dsimp only at hSw); (try simp only [List.getElem_toArray, List.getElem_cons_zero, List.getElem_cons_succ]); go_simp; done) | (refine Or.inl ⟨by rfl, ?_⟩; intro w hSw; (try dsimp only at hSw); (try simp only [List.getElem_toArray, List.getElem_cons_zero, List.getElem_cons_succ]); go_simp; with_reducible rfl)
      try simp only [Act.put, List.setIfInBounds_toArray, List.set_cons_zero, List.set_cons_succ, List.getElem_toArray, List.getElem_cons_zero, List.getElem_cons_succ]
      refine E_take (i := 9) (oi := _) (v := ?_) rfl (by kernel_rfl) (fun _ _ _ h => h) ?_ (by assumption) ?_
      rotate_left 1
      · first | (refine Or.inl ⟨by rfl, ?_⟩; intro w hSw; (try dsimp only at hSw); (try simp only [List.getElem_toArray, List.getElem_cons_zero, List.getElem_cons_succ]); go_simp; done) | (refine Or.inl ⟨by rfl, ?_⟩; intro w hSw; (try dsimp only at hSw); (try simp only [List.getElem_toArray, List.getElem_cons_zero, List.getElem_cons_succ]); go_simp; with_reducible rfl)
      try simp only [Act.put, List.setIfInBounds_toArray, List.set_cons_zero, List.set_cons_succ, List.getElem_toArray, List.getElem_cons_zero, List.getElem_cons_succ]
      refine E_take (i := 10) (oi := _) (v := ?_) rfl (by kernel_rfl) (fun _ _ _ h => h) ?_ (by assumption) ?_
      rotate_left 1
      · first | (refine Or.inl ⟨by rfl, ?_⟩; intro w hSw; (try dsimp only at hSw); (try simp only [List.getElem_toArray, List.getElem_cons_zero, List.getElem_cons_succ]); go_simp; done) | (refine Or.inl ⟨by rfl, ?_⟩; intro w hSw; (try dsimp only at hSw); (try simp only [List.getElem_toArray, List.getElem_cons_zero, List.getElem_cons_succ]); go_simp; with_reducible rfl)
      try simp only [Act.put, List.setIfInBounds_toArray, List.set_cons_zero, List.set_cons_succ, List.getElem_toArray, List.getElem_cons_zero, List.getElem_cons_succ]
      refine E_ready (rs := [11]) (by kernel_rfl) (by decide) ?_
      refine AllE.cons (o := _) rfl (fun K hK => ?_) AllE.nil
      try simp only [List.getElem_toArray, List.getElem_cons_zero, List.getElem_cons_succ]
      go_simp
      refine hK.out _ _ (S11.out) (fun hHeld => ?_)
      clear hK K
      try simp only [Act.put, List.setIfInBounds_toArray, List.set_cons_zero, List.set_cons_succ, List.getElem_toArray, List.getElem_cons_zero, List.getElem_cons_succ]
      refine E_ready (rs := [12]) (by kernel_rfl) (by decide) ?_
      refine AllE.cons (o := _) rfl (fun K hK => ?_) AllE.nil
      refine step_append_lies _ rfl (.tmp 33) (.tmp 44) 37 rfl w3.heap.size 61 i0 _ 4 32 Try.underlying37 hi hz0 hz1 hz2 rfl (by decide) v R.length (rusV R) rfl HOW.out ⟨Wa.heap.size, 0, none⟩ 1 1 [.int .i64 (la + n0), .int .i64 (la + n0 + n1), .bool (n2 == 1), .int .i64 n3] rfl rfl HNW.out (fun u hu => by simp at hu; rcases hu with rfl | rfl | rfl | rfl <;> rfl) (by decide) h63 hby HBW.out _ rfl ?_
      intro g4 c4 w4 O4 G4 A4 L4
      have s4 := (S12.out _ G4).1
      have fz := FZ.out _ G4
      refine hK.out _ _ (S12.out _ G4) (fun hHeld => ?_)
      clear hK K
      try simp only [Act.put, List.setIfInBounds_toArray, List.set_cons_zero, List.set_cons_succ, List.getElem_toArray, List.getElem_cons_zero, List.getElem_cons_succ]
      refine E_last (o := _) (by kernel_rfl) rfl (by kernel_rfl) (fun K hK => ?_)
      try simp only [List.getElem_toArray, List.getElem_cons_zero, List.getElem_cons_succ]
      go_simp
      refine hK.out _ _ ?_
      clear hK K
      have hK := HBa.out
      clear s4 fz
      obtain ⟨p1, p2, p3, p4, p5, p6⟩ := boxed_app (n₁ := w1.heap.size) (tmp := .cells #[.int .i64 (la + n0), .int .i64 (la + n0 + n1), .bool (n2 == 1), .int .i64 n3] 61) HV7.out (by omega) HRW.out hwa3 (Nat.le_refl _) O4 (show (Wa.alloc (.cells #[.int .i64 (la + n0), .int .i64 (la + n0 + n1), .bool (n2 == 1), .int .i64 n3] 61)).grownBy w4 v.ownBlock from ⟨G4.os, G4.tape, G4.output, G4.size, G4.block⟩)
      refine ⟨(HKa.out.trans p4).from _, ⟨?_, ?_⟩, ⟨⟨⟨_, p2, ?_, trivial⟩, ?_⟩, HBL3.out.trans (HBa.out.trans p5)⟩, Lib.hid (fun y hy => by
        rcases List.mem_append.1 hy with hy | hy
        · exact HALL.out y hy
        · obtain rfl : y = x := by simpa using hy
          exact HCH.out)⟩
      · exact (p6 _ (by omega) (by omega)).trans (HOa.out _ (by omega))
      · exact (p6 _ (by omega) (by omega)).trans (HOa.out _ (by omega))
      · rw [HST.out, List.length_append, rusV_append, rusV_one]
        exact p3
      · rw [HST.out, lastE_snoc]
        exact (p6 _ (by omega) (by omega)).trans HV8.out
    · have he : chN nl x.1 = nl - 4 * x.1 := by unfold chN; omega
      have he2 : ((nl - 4 * x.1 : Nat) : Int) < 4 := by omega
      have H4 : Hid (nl % 4 ≠ 0) := Lib.hid (by omega)
      have y2 : Boxed W w.heap.size 37 (.slice none 0 0) := (hbel.block _ (by omega)).trans Y2.out
      have y3 : Boxed W (w.heap.size + 1) 4 (.bool false) := (hbel.block _ (by omega)).trans Y3.out
      have p2 := y2.cell
      have p3 := y3.cell
      have f2 := y2.frozen
      have f3 := y3.frozen
      have p4 : (W.setCell ⟨w.heap.size, 0, none⟩ (.slice none 0 0)).cell? ⟨w.heap.size + 1, 0, none⟩ = some (.bool false) := (Boxed.other y3 (by omega) _).cell
      have f4 : (W.setCell ⟨w.heap.size, 0, none⟩ (.slice none 0 0)).frozen? ⟨w.heap.size + 1, 0, none⟩ = false := (Boxed.other y3 (by omega) _).frozen
      have HY2 := Lib.hid y2
      have HY3 := Lib.hid y3
      rw [he]
      clear hbel hv hrow hend y2 y3
      gi_wp2
      have HB1' := HB1.out
      have HL := HBL.out
      refine ⟨((KeepsOthers.setCell _ _ _).trans (KeepsOthers.setCell _ _ _)).from _, rfl, H4, Boxed.other (Boxed.set _ HY2.out) (by omega) _, Boxed.set _ (Boxed.other HY3.out (by omega) _), ?_⟩
      exact ((HB1.out.trans (HL.mono (by omega))).setCell (Nat.le_refl _) _).setCell (Nat.le_succ _) _
  case done =>
    rintro D W hD ⟨⟨⟨⟨v, hv, hrow, _⟩, hend⟩, hbel3⟩, HALL⟩ hKD
    have hw3W := hbel3.size
    have hbel := HB13.out.trans hbel3
    clear hbel3
    have h4 : nl % 4 = 0 := by
      by_cases h : nl % 4 = 0
      · exact h
      · exfalso
        have hm : chAt nl ((nl + 3) / 4 - 1) ∈ chT nl ((nl + 3) / 4) := List.mem_map.2 ⟨(nl + 3) / 4 - 1, by simp; omega, rfl⟩
        have h2 := HALL.out _ hm
        rw [chAt_val _ _ (by omega)] at h2
        omega
    have hF : foldC N (chT nl ((nl + 3) / 4)) = rdN 0 N := by
      have h := foldC_is N (nl / 4) (by rw [HNL.out]; omega)
      rw [HNL.out] at h
      rw [show (nl + 3) / 4 = nl / 4 from by omega, h, List.take_of_length_le (by rw [HNL.out]; omega)]
    rw [hF] at hrow hend
    have hln : (rdN 0 N).length ≤ 1048576 := by
      have := rdN_length (nl / 4) N 0 (by rw [HNL.out]; omega)
      omega
    obtain ⟨va, vc, rfl⟩ := owns3_shape hrow
    have ER := Lib.hid (i_encR va vc (rdN 0 N) W hln (readRu_of hrow))
    have HRW := Lib.hid hrow
    have HV7 := Lib.hid hv
    have HN4 : Hid (N.length % 4 = 0) := Lib.hid (by rw [HNL.out]; exact h4)
    have c7 := hv.cell
    have y2 : Boxed W w.heap.size 37 (.slice none 0 0) := (hbel.block _ (by omega)).trans Y2.out
    have y3 : Boxed W (w.heap.size + 1) 4 (.bool false) := (hbel.block _ (by omega)).trans Y3.out
    have HBW : Hid (Below w.heap.size w W) := Lib.hid (HB1.out.trans (hbel.mono (by omega)))
    have hDW : D < W.heap.size := (Array.getElem?_eq_some_iff.1 hKD).1
    have HY2 := Lib.hid y2
    have HY3 := Lib.hid y3
    have HKD := Lib.hid hKD
    obtain ⟨T, hT⟩ : ∃ T : ByteArray, (⟨(erZ (rdN 0 N)).toArray⟩ : ByteArray) = T := ⟨_, rfl⟩
    rw [hT] at ER
    have HT := Lib.hid hT
    obtain ⟨L, hL⟩ : ∃ L, (rdN 0 N).length = L := ⟨_, rfl⟩
    have HL := Lib.hid hL
    rw [hL] at ER HRW HV7 c7
    clear hF h4 hrow hend hv y2 y3 hbel hKD hT hL HALL
    go_wp2_with fail
    refine ER.out.mono ?_
    rintro e w5 ⟨rfl, b5⟩
    have K2 : Hid (Boxed w5 w.heap.size 37 (.slice none 0 0)) := Lib.hid ((b5.block _ (by omega)).trans HY2.out)
    have K3 : Hid (Boxed w5 (w.heap.size + 1) 4 (.bool false)) := Lib.hid ((b5.block _ (by omega)).trans HY3.out)
    have HK7 : Boxed w5 w1.heap.size 37 (.slice va L vc) := (b5.block _ (by omega)).trans HV7.out
    have K7 := HK7.cell
    clear HK7
    have KD5 : Hid (w5.heap[D]? = some (.deferred (some []))) := Lib.hid ((b5.block _ hDW).trans HKD.out)
    have HB5 : Hid (Below w.heap.size w w5) := Lib.hid (HBW.out.trans (b5.mono (by omega)))
    have HR5 := Lib.hid (owns3_below HRW.out b5)
    have p2 := K2.out.cell
    have f2 := K2.out.frozen
    have p3 := K3.out.cell
    have f3 := K3.out.frozen
    clear b5 c7
    by_cases hq : T = s
    · have hd : (T.toList == s.toList) = true := by rw [hq]; simp
      have HV := Lib.hid (HEQ.out HN4.out (by have h := HT.out; rw [hq] at h; have := congrArg (fun b : ByteArray => b.data.toList) h; simpa using this))
      have p4 : (w5.setCell ⟨w.heap.size, 0, none⟩ (.slice va L vc)).cell? ⟨w.heap.size + 1, 0, none⟩ = some (.bool false) := (Boxed.other K3.out (by omega) _).cell
      have f4 : (w5.setCell ⟨w.heap.size, 0, none⟩ (.slice va L vc)).frozen? ⟨w.heap.size + 1, 0, none⟩ = false := (Boxed.other K3.out (by omega) _).frozen
      clear hq
      have P2 : Hid (Boxed ((w5.setCell ⟨w.heap.size, 0, none⟩ (.slice va L vc)).setCell ⟨w.heap.size + 1, 0, none⟩ (.bool true)) w.heap.size 37 (.slice va L vc)) := Lib.hid (Boxed.other (Boxed.set _ K2.out) (by omega) _)
      have P3 : Hid (Boxed ((w5.setCell ⟨w.heap.size, 0, none⟩ (.slice va L vc)).setCell ⟨w.heap.size + 1, 0, none⟩ (.bool true)) (w.heap.size + 1) 4 (.bool true)) := Lib.hid (Boxed.set _ (Boxed.other K3.out (by omega) _))
      have QD : Hid (((w5.setCell ⟨w.heap.size, 0, none⟩ (.slice va L vc)).setCell ⟨w.heap.size + 1, 0, none⟩ (.bool true)).heap[D]? = some (.deferred (some []))) := Lib.hid ((set_other (by omega)).trans ((set_other (by omega)).trans KD5.out))
      have hgp := grownBy_putObj' ((w5.setCell ⟨w.heap.size, 0, none⟩ (.slice va L vc)).setCell ⟨w.heap.size + 1, 0, none⟩ (.bool true)) D (.deferred none)
      have u2 : (((w5.setCell ⟨w.heap.size, 0, none⟩ (.slice va L vc)).setCell ⟨w.heap.size + 1, 0, none⟩ (.bool true)).putObj D (.deferred none)).cell? ⟨w.heap.size, 0, none⟩ = some ((.slice va L vc)) := (P2.out.kept hgp (fun e => by injection e with e; omega)).cell
      have u3 : (((w5.setCell ⟨w.heap.size, 0, none⟩ (.slice va L vc)).setCell ⟨w.heap.size + 1, 0, none⟩ (.bool true)).putObj D (.deferred none)).cell? ⟨w.heap.size + 1, 0, none⟩ = some ((.bool true)) := (P3.out.kept hgp (fun e => by injection e with e; omega)).cell
      have HS6 : Hid (Below w.heap.size w ((w5.setCell ⟨w.heap.size, 0, none⟩ (.slice va L vc)).setCell ⟨w.heap.size + 1, 0, none⟩ (.bool true))) := Lib.hid ((HB5.out.setCell (Nat.le_refl _) _).setCell (Nat.le_succ _) _)
      have HBE : Hid (Below w.heap.size w (((w5.setCell ⟨w.heap.size, 0, none⟩ (.slice va L vc)).setCell ⟨w.heap.size + 1, 0, none⟩ (.bool true)).putObj D (.deferred none))) := Lib.hid (HS6.out.grown hgp HS6.out.size (fun j e => by injection e with e; omega))
      have HO6 : Hid ((((w5.setCell ⟨w.heap.size, 0, none⟩ (.slice va L vc)).setCell ⟨w.heap.size + 1, 0, none⟩ (.bool true)).putObj D (.deferred none)).ownsRow w3.heap.size 61 4 (.slice va L vc) L (rusV (rdN 0 N))) := Lib.hid (by
        have h1 := HR5.out.kept (grownBy_setCell' w5 w.heap.size (.slice va L vc)) (by
          cases h : (Value.slice va L vc).ownBlock with
          | none => exact .inl rfl
          | some g' => exact .inr (fun e => by have := (HR5.out.lt g' h).1; injection e with e; omega))
        have h2 := h1.kept (grownBy_setCell' (w5.setCell ⟨w.heap.size, 0, none⟩ (.slice va L vc)) (w.heap.size + 1) (.bool true)) (by
          cases h : (Value.slice va L vc).ownBlock with
          | none => exact .inl rfl
          | some g' => exact .inr (fun e => by have := (HR5.out.lt g' h).1; injection e with e; omega))
        exact ownsRow_putObj h2 _ QD.out rfl)
      clear hgp
      go_wp2
      refine ⟨by simp, _, _, rfl, run_takeDeferred QD.out, ?_⟩
      refine ⟨.tuple #[(.slice va L vc), (.bool true)], by simp [results, Try.results28, go_sem, u2, u3], ?_⟩
      exact ret_nD (r := (rdN 0 N, true)) HV.out.symm ⟨_, rfl, by rw [HL.out]; exact owns_lowD HO6.out (by omega), HBE.out⟩
    · have hd := str_ne _ _ hq
      have HV := Lib.hid (HNE.out (fun h => hq (by rw [← HT.out, h])))
      have p4 : (w5.setCell ⟨w.heap.size, 0, none⟩ (.slice none 0 0)).cell? ⟨w.heap.size + 1, 0, none⟩ = some (.bool false) := (Boxed.other K3.out (by omega) _).cell
      have f4 : (w5.setCell ⟨w.heap.size, 0, none⟩ (.slice none 0 0)).frozen? ⟨w.heap.size + 1, 0, none⟩ = false := (Boxed.other K3.out (by omega) _).frozen
      clear hq
      have P2 : Hid (Boxed ((w5.setCell ⟨w.heap.size, 0, none⟩ (.slice none 0 0)).setCell ⟨w.heap.size + 1, 0, none⟩ (.bool false)) w.heap.size 37 (.slice none 0 0)) := Lib.hid (Boxed.other (Boxed.set _ K2.out) (by omega) _)
      have P3 : Hid (Boxed ((w5.setCell ⟨w.heap.size, 0, none⟩ (.slice none 0 0)).setCell ⟨w.heap.size + 1, 0, none⟩ (.bool false)) (w.heap.size + 1) 4 (.bool false)) := Lib.hid (Boxed.set _ (Boxed.other K3.out (by omega) _))
      have QD : Hid (((w5.setCell ⟨w.heap.size, 0, none⟩ (.slice none 0 0)).setCell ⟨w.heap.size + 1, 0, none⟩ (.bool false)).heap[D]? = some (.deferred (some []))) := Lib.hid ((set_other (by omega)).trans ((set_other (by omega)).trans KD5.out))
      have hgp := grownBy_putObj' ((w5.setCell ⟨w.heap.size, 0, none⟩ (.slice none 0 0)).setCell ⟨w.heap.size + 1, 0, none⟩ (.bool false)) D (.deferred none)
      have u2 : (((w5.setCell ⟨w.heap.size, 0, none⟩ (.slice none 0 0)).setCell ⟨w.heap.size + 1, 0, none⟩ (.bool false)).putObj D (.deferred none)).cell? ⟨w.heap.size, 0, none⟩ = some ((.slice none 0 0)) := (P2.out.kept hgp (fun e => by injection e with e; omega)).cell
      have u3 : (((w5.setCell ⟨w.heap.size, 0, none⟩ (.slice none 0 0)).setCell ⟨w.heap.size + 1, 0, none⟩ (.bool false)).putObj D (.deferred none)).cell? ⟨w.heap.size + 1, 0, none⟩ = some ((.bool false)) := (P3.out.kept hgp (fun e => by injection e with e; omega)).cell
      have HS6 : Hid (Below w.heap.size w ((w5.setCell ⟨w.heap.size, 0, none⟩ (.slice none 0 0)).setCell ⟨w.heap.size + 1, 0, none⟩ (.bool false))) := Lib.hid ((HB5.out.setCell (Nat.le_refl _) _).setCell (Nat.le_succ _) _)
      have HBE : Hid (Below w.heap.size w (((w5.setCell ⟨w.heap.size, 0, none⟩ (.slice none 0 0)).setCell ⟨w.heap.size + 1, 0, none⟩ (.bool false)).putObj D (.deferred none))) := Lib.hid (HS6.out.grown hgp HS6.out.size (fun j e => by injection e with e; omega))
      clear hgp
      go_wp2
      refine ⟨by simp, _, _, rfl, run_takeDeferred QD.out, ?_⟩
      refine ⟨.tuple #[(.slice none 0 0), (.bool false)], by simp [results, Try.results28, go_sem, u2, u3], ?_⟩
      exact ret_nD (r := ([], false)) HV.out.symm ⟨_, rfl, World.ownsRow_nil _ _ _ _, HBE.out⟩
  case stop =>
    rintro D cd pre W hD ⟨rfl, h4, x2, x3, hbel⟩ hKD
    have HV := Lib.hid (HODD.out (by rw [HNL.out]; exact h4.out))
    have hgp := grownBy_putObj' W D (.deferred none)
    have u2 : (W.putObj D (.deferred none)).cell? ⟨w.heap.size, 0, none⟩ = some (.slice none 0 0) := (x2.kept hgp (fun e => by injection e with e; omega)).cell
    have u3 : (W.putObj D (.deferred none)).cell? ⟨w.heap.size + 1, 0, none⟩ = some (.bool false) := (x3.kept hgp (fun e => by injection e with e; omega)).cell
    have HBE : Hid (Below w.heap.size w (W.putObj D (.deferred none))) := Lib.hid (hbel.grown hgp hbel.size (fun j e => by injection e with e; omega))
    go_wp2
    refine ⟨by simp, _, _, rfl, run_takeDeferred hKD, ?_⟩
    refine ⟨.tuple #[.slice none 0 0, .bool false], by simp [results, Try.results28, go_sem, u2, u3], ?_⟩
    exact ret_nD (r := ([], false)) HV.out.symm ⟨_, rfl, World.ownsRow_nil _ _ _ _, HBE.out⟩
end Go.Proofs.Ytfemkbdgbpgjgaa
