/- A program's run from main on, and what Interpret hands back. Nothing of the program. -/
import Derived.Test.YtcnnfhcpkbjolaaDoorPlainR
import Derived.Test.YtcnnfhcpkbjolaaDoorWrapB
import Derived.Defers
namespace Go.Proofs.YtcnnfhcpkbjolaaDoor
open Go.RowKit Go.Lib

/-- The run of main ends so. -/
def GoesTo (p : List PLine) (lim : Nat) (r : RunRes) (s' : RunS) : Prop := ∃ N, runF p appZ arN lim N (.lines [] 0 (locZ p ((0 : Nat) : Int)) (callVars p 0 []) (0 + 1)) ⟨[], []⟩ = some (r, s')
theorem main_fun {p : List PLine} (ho : OkI p) : 0 ∈ funs p := findZ_fun p mainT 0 ho.2.1.2.1
theorem goes {p : List PLine} (ho : OkI p) (lim : Nat) : ∃ r s', GoesTo p lim r s' := by
  obtain ⟨n, ⟨r, s'⟩, h⟩ := run_total ho (ap := appZ) (lim := lim) arN_zero 6 [] 0 (locZ p ((0 : Nat) : Int)) (callVars p 0 []) (0 + 1) ⟨[], []⟩ rfl (main_fun ho) (by omega) (Nat.zero_le _)
  exact ⟨r, s', n, h⟩
def valR : RunRes → Int
  | .ret v => v
  | _ => 0
def codR : RunRes → Int
  | .stop q => q
  | _ => 0
/-- What a run hands back. -/
def RunGives (TI TII : TypeId) (w : World) (s : RunS) (val code : Int) (e : Ending) (w' : World) : Prop :=
  ∃ ov vv X, e = .returned (.agg #[ov, vv, .int .i64 val, .int .i64 code]) ∧ RunR TI TII w.heap.size w' s ov vv X ∧ Below w.heap.size w w'
theorem RunR.start {TI TII B : Nat} {w : World} : RunR TI TII B w ⟨[], []⟩ (.slice none 0 0) (.slice none 0 0) [] :=
  ⟨World.ownsRow_nil _ _ _ _, World.ownsRow_nil _ _ _ _, rfl, ⟨fun x hx => (by cases hx), List.Pairwise.nil⟩, fun x hx => (by cases hx)⟩
/-- The four cells of what is handed back are written. -/
theorem RunR.copied {TI TII T' B rc : Nat} {w : World} {s : RunS} {ov vv : Value} {X : List IvL} {cs : Array Value} {fr : Nat × Nat} (h : RunR TI TII B w s ov vv X) (hg : w.heap[rc]? = some (.cells cs T' fr)) (h1 : TI ≠ T') (h2 : TII ≠ T') (a b c d : Value) :
    RunR TI TII B ((((w.setCell ⟨rc, 0, none⟩ a).setCell ⟨rc, 1, none⟩ b).setCell ⟨rc, 2, none⟩ c).setCell ⟨rc, 3, none⟩ d) s ov vv X := by
  have other : ∀ {v : Value}, v.ownBlock ≠ some rc → ∀ g, v.ownBlock = some g → ((((w.setCell ⟨rc, 0, none⟩ a).setCell ⟨rc, 1, none⟩ b).setCell ⟨rc, 2, none⟩ c).setCell ⟨rc, 3, none⟩ d).heap[g]? = w.heap[g]? := fun hv g hg' => by
    have hne : g ≠ rc := fun e => hv (by rw [hg', e])
    rw [set_other hne, set_other hne, set_other hne, set_other hne]
  exact h.of_block (other (ne_types h.out hg h1)) (other (ne_types h.vis hg h2)) (fun x hx => other (ne_types (h.made.1 x hx) hg h1))
/-- A cell that is none of the rows' is written. -/
theorem RunR.set {TI TII T' B rc j : Nat} {w : World} {s : RunS} {ov vv u : Value} {X : List IvL} {cs : Array Value} {fr : Nat × Nat} (h : RunR TI TII B w s ov vv X) (hg : w.heap[rc]? = some (.cells cs T' fr)) (h1 : TI ≠ T') (h2 : TII ≠ T') : RunR TI TII B (w.setCell ⟨rc, j, none⟩ u) s ov vv X := by
  have other : ∀ {v : Value}, v.ownBlock ≠ some rc → ∀ g, v.ownBlock = some g → (w.setCell ⟨rc, j, none⟩ u).heap[g]? = w.heap[g]? := fun hv g hg' => set_other (fun e => hv (by rw [hg', e]))
  exact h.of_block (other (ne_types h.out hg h1)) (other (ne_types h.vis hg h2)) (fun x hx => other (ne_types (h.made.1 x hx) hg h1))
theorem leaves_tmps {P : Program} {fn : Func} {R : Ending → World → Prop} (h : ∀ t t' : Array Value, results fn t = results fn t') (t t' : Array Value) : ∀ (ds : List Deferred) (u : FrameMode) (w : World), Leaves P fn t R ds u w → Leaves P fn t' R ds u w := by
  intro ds
  induction ds with
  | nil =>
    intro u w hl
    cases u with
    | run => exact hl
    | returning =>
      obtain ⟨v, hv, hR⟩ := hl
      exact ⟨v, by rw [← h t t']; exact hv, hR⟩
    | panicking chain => exact hl
  | cons d ds ih =>
    intro u w hl
    obtain ⟨h1, fv, cap, f, args, h2, h3, h4⟩ := hl
    refine ⟨h1, fv, cap, f, args, h2, h3, h4.mono (fun e u' w' he => ?_)⟩
    cases e with
    | returned v => exact ih _ _ he
    | panicked chain => exact ih _ _ he
    | outgrown => exact he
end Go.Proofs.YtcnnfhcpkbjolaaDoor
