/- Machines as arguments of a law. Nothing of the program. -/
import Derived.Test.YtljmkkodhnkemaaMchLaw
import Derived.Lib.SmallJoins
import Derived.OpenShut
namespace Go.Proofs.Ytljmkkodhnkemaa
open Go.RowKit Go.Lib Go.ChangeShapes Go.WideShapes Go.Deep Go.WideElems Go.Maps

section
variable {H : Type} {enc : TypeId × Value → H} {P : Program} {w : World} {base : Nat} {spare : Nat → Bool} {held : Bool}
theorem argInW_at {t e : TypeId} {v : Value} {n : Nat} {y : DataW H × List MemPlace} (ht : P.underlying t = some (.slice e)) (he : P.underlying e = some (.int .i64)) (hC : P.cellsOf e = 1)
    (h : DataW.trod enc P w 0 (fun _ => true) held n t [v] = some y) : ∃ (l : List Int) (a : Option Addr) (c : Nat), v = .slice a l.length c ∧ ArgIn w a l ∧ l.length ≤ maxLen ∧ ∀ e ∈ l, I64 e := by
  rcases open_ints ht he hC h with ⟨hcs, _⟩ | ⟨x, len, cap, zs, hcs, _, hl, hm, hz, _, hc, hwf⟩
  · injection hcs with hcs _
    exact ⟨[], none, 0, hcs, (fun k hk => absurd hk (by simp)), (by simp [maxLen]), fun e he => by simp at he⟩
  · injection hcs with hcs _
    simp at hz
    refine ⟨zs.take len, some x, cap, by rw [hcs]; simp; omega, fun k hk => ?_, by simp; omega, fun e he => bounds_i64 (hwf e (List.mem_of_mem_take he))⟩
    have hk' : k < zs.length := by simp at hk; omega
    have hce := hc k hk'
    refine ⟨x, rfl, by have := World.block_lt_of_cell? w _ hce; rw [addr_block] at this; exact this, ?_⟩
    rw [hce]
    simp [List.getD, hk']
theorem array7 {α : Type} {cs : Array α} (h : cs.size = 7) : ∃ c0 c1 c2 c3 c4 c5 c6, cs = #[c0, c1, c2, c3, c4, c5, c6] := by
  obtain ⟨l⟩ := cs
  match l, h with
  | [c0, c1, c2, c3, c4, c5, c6], _ => exact ⟨c0, c1, c2, c3, c4, c5, c6, rfl⟩
theorem trod_struct7 {t : TypeId} {f0 f1 f2 f3 f4 f5 f6 : Field} {fuel : Nat} {cs : List Value} {x : DataW H × List MemPlace} (ht : P.underlying t = some (.struct #[f0, f1, f2, f3, f4, f5, f6])) (h : DataW.trod enc P w base spare held fuel t cs = some x) :
    ∃ y0 y1 y2 y3 y4 y5 y6 n, DataW.trod enc P w base spare held n f0.type ((cs.drop f0.offset).take (P.cellsOf f0.type)) = some y0 ∧
      DataW.trod enc P w base spare held n f1.type ((cs.drop f1.offset).take (P.cellsOf f1.type)) = some y1 ∧ DataW.trod enc P w base spare held n f2.type ((cs.drop f2.offset).take (P.cellsOf f2.type)) = some y2 ∧
      DataW.trod enc P w base spare held n f3.type ((cs.drop f3.offset).take (P.cellsOf f3.type)) = some y3 ∧ DataW.trod enc P w base spare held n f4.type ((cs.drop f4.offset).take (P.cellsOf f4.type)) = some y4 ∧
      DataW.trod enc P w base spare held n f5.type ((cs.drop f5.offset).take (P.cellsOf f5.type)) = some y5 ∧ DataW.trod enc P w base spare held n f6.type ((cs.drop f6.offset).take (P.cellsOf f6.type)) = some y6 := by
  obtain ⟨xs, n, _, rfl, hl, hlen, hf⟩ := DataW.trod_struct ht h
  match xs, hlen with
  | [y0, y1, y2, y3, y4, y5, y6], _ => exact ⟨y0, y1, y2, y3, y4, y5, y6, n, by simpa using hf 0 f0 rfl, by simpa using hf 1 f1 rfl, by simpa using hf 2 f2 rfl, by simpa using hf 3 f3 rfl, by simpa using hf 4 f4 rfl, by simpa using hf 5 f5 rfl, by simpa using hf 6 f6 rfl⟩
theorem open_agg7 {r : Reach} {b0 : Nat} {t : TypeId} {f0 f1 f2 f3 f4 f5 f6 : Field} {v : Value} {d : DataW H} {p : List MemPlace} (hs : P.underlying t = some (.struct #[f0, f1, f2, f3, f4, f5, f6])) (hone : oneCellFields P #[f0, f1, f2, f3, f4, f5, f6] = true) (hC : P.cellsOf t = 7)
    (hv : Value.okWide P w r b0 t v) (h : DataW.Trod enc P w base spare held t v d p) :
    ∃ (v0 v1 v2 v3 v4 v5 v6 : Value) (y0 y1 y2 y3 y4 y5 y6 : DataW H × List MemPlace) (n : Nat), v = .agg #[v0, v1, v2, v3, v4, v5, v6] ∧
      DataW.trod enc P w base spare held n f0.type [v0] = some y0 ∧ DataW.trod enc P w base spare held n f1.type [v1] = some y1 ∧ DataW.trod enc P w base spare held n f2.type [v2] = some y2 ∧ DataW.trod enc P w base spare held n f3.type [v3] = some y3 ∧
      DataW.trod enc P w base spare held n f4.type [v4] = some y4 ∧ DataW.trod enc P w base spare held n f5.type [v5] = some y5 ∧ DataW.trod enc P w base spare held n f6.type [v6] = some y6 := by
  obtain ⟨cs, rfl, hsz⟩ := okWide_struct hs hv
  obtain ⟨c0, c1, c2, c3, c4, c5, c6, rfl⟩ := array7 (hsz.trans hC)
  obtain ⟨fuel, hf⟩ := h
  obtain ⟨y0, y1, y2, y3, y4, y5, y6, n, h0, h1, h2, h3, h4, h5, h6⟩ := trod_struct7 hs hf
  obtain ⟨o0, k0⟩ := Go.Deep.hone_of hone 0 f0 rfl
  obtain ⟨o1, k1⟩ := Go.Deep.hone_of hone 1 f1 rfl
  obtain ⟨o2, k2⟩ := Go.Deep.hone_of hone 2 f2 rfl
  obtain ⟨o3, k3⟩ := Go.Deep.hone_of hone 3 f3 rfl
  obtain ⟨o4, k4⟩ := Go.Deep.hone_of hone 4 f4 rfl
  obtain ⟨o5, k5⟩ := Go.Deep.hone_of hone 5 f5 rfl
  obtain ⟨o6, k6⟩ := Go.Deep.hone_of hone 6 f6 rfl
  exact ⟨c0, c1, c2, c3, c4, c5, c6, y0, y1, y2, y3, y4, y5, y6, n, rfl, by simpa [Value.cells, o0, k0] using h0, by simpa [Value.cells, o1, k1] using h1, by simpa [Value.cells, o2, k2] using h2, by simpa [Value.cells, o3, k3] using h3, by simpa [Value.cells, o4, k4] using h4, by simpa [Value.cells, o5, k5] using h5, by simpa [Value.cells, o6, k6] using h6⟩
end
/-- A machine's numbers are numbers. -/
structure McNum (m : McL) : Prop where
  ws : ∀ v ∈ m.st, I64 v
  pc : I64 m.pc
  sp : I64 m.sp
  fp : I64 m.fp
section
variable {H : Type} {enc : TypeId × Value → H} {P : Program} {w : World} {held : Bool}
theorem argM_at {tM tI tS : TypeId} {f0 f1 f2 f3 f4 f5 f6 : Field} {r : Reach} {b0 : Nat} {v : Value} {d : DataW H} {p : List MemPlace} (hs : P.underlying tM = some (.struct #[f0, f1, f2, f3, f4, f5, f6])) (hone : oneCellFields P #[f0, f1, f2, f3, f4, f5, f6] = true) (hC : P.cellsOf tM = 7)
    (hI : P.underlying tI = some (.int .i64)) (hS : P.underlying tS = some (.slice tI)) (hCI : P.cellsOf tI = 1)
    (ht : f0.type = tI ∧ f1.type = tI ∧ f2.type = tI ∧ f3.type = tS ∧ f4.type = tS ∧ f5.type = tI ∧ f6.type = tI)
    (hv : Value.okWide P w r b0 tM v) (h : DataW.Trod enc P w 0 (fun _ => true) held tM v d p) :
    ∃ (m : McL) (aS aO : Option Addr) (cS cO : Nat), v = mcA m (.slice aS m.st.length cS) (.slice aO m.out.length cO) ∧ ArgM w aS aO m ∧ m.st.length ≤ maxLen ∧ m.out.length ≤ maxLen ∧ McNum m := by
  obtain ⟨v0, v1, v2, v3, v4, v5, v6, y0, y1, y2, y3, y4, y5, y6, n, rfl, h0, h1, h2, h3, h4, h5, h6⟩ := open_agg7 hs hone hC hv h
  obtain ⟨e0, e1, e2, e3, e4, e5, e6⟩ := ht
  rw [e0] at h0
  rw [e1] at h1
  rw [e2] at h2
  rw [e3] at h3
  rw [e4] at h4
  rw [e5] at h5
  rw [e6] at h6
  obtain ⟨k0, E0, _, w0⟩ := DataW.trod_int hI h0
  injection E0 with E0; subst E0
  obtain ⟨k1, E1, _, w1⟩ := DataW.trod_int hI h1
  injection E1 with E1; subst E1
  obtain ⟨k2, E2, _, w2⟩ := DataW.trod_int hI h2
  injection E2 with E2; subst E2
  obtain ⟨k5, E5, _, w5⟩ := DataW.trod_int hI h5
  injection E5 with E5; subst E5
  obtain ⟨k6, E6, _, w6⟩ := DataW.trod_int hI h6
  injection E6 with E6; subst E6
  obtain ⟨ls, aS, cS, rfl, s1, s2, s3⟩ := argInW_at hS hI hCI h3
  obtain ⟨lo, aO, cO, rfl, o1, o2, o3⟩ := argInW_at hS hI hCI h4
  exact ⟨⟨k0, k1, k2, ls, lo, k5, k6⟩, aS, aO, cS, cO, rfl, ⟨s1, o1⟩, s2, o2, ⟨s3, bounds_i64 w0, bounds_i64 w1, bounds_i64 w2⟩⟩
end
end Go.Proofs.Ytljmkkodhnkemaa
