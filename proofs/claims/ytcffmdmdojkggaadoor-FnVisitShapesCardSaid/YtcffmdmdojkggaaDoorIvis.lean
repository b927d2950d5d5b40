/- Plain facts: Where the program keeps a run under way; The program's visit: it is told, or the run ends by a panic. Nothing of the program. -/
import Derived.Test.YtcffmdmdojkggaaDoorPlainR
import Derived.Test.YtcffmdmdojkggaaDoorLocSpec
import Derived.Maps.Own
import Derived.Deep.AppendLies
import Derived.BigQuiet
import Derived.Outline
/-! Where the program keeps a run under way -/
namespace Go.Proofs.YtcffmdmdojkggaaDoor
open Go.RowKit Go.Lib

def RI (ov vv : Value) (X : List IvL) : List Value := ov :: vv :: ivV X
theorem mem_RI {v ov vv : Value} {X : List IvL} : v ∈ RI ov vv X ↔ v = ov ∨ v = vv ∨ ∃ x ∈ X, x.v = v := by
  unfold RI ivV
  simp only [List.mem_cons, List.mem_map]
theorem RI.o {ov vv : Value} {X : List IvL} : ov ∈ RI ov vv X := mem_RI.2 (.inl rfl)
theorem RI.v {ov vv : Value} {X : List IvL} : vv ∈ RI ov vv X := mem_RI.2 (.inr (.inl rfl))
theorem RI.x {ov vv : Value} {X : List IvL} {x : IvL} (h : x ∈ X) : x.v ∈ RI ov vv X := mem_RI.2 (.inr (.inr ⟨x, h, rfl⟩))
/-- The numbers of the calls under way: none, or one of the visits told. -/
def CallsIn (X : List IvL) (c : List Int) (v : Value) : Prop := (c = [] ∧ v = .slice none 0 0) ∨ ∃ x ∈ X, x.v = v ∧ x.xs = c
theorem CallsIn.mono {X X' : List IvL} {c : List Int} {v : Value} (h : CallsIn X c v) (hX : ∀ x ∈ X, x ∈ X') : CallsIn X' c v := by
  rcases h with h | ⟨x, hx, h⟩
  · exact .inl h
  · exact .inr ⟨x, hX x hx, h⟩
structure IAt (T TI TII B rb : Nat) (w : World) (pv : Value) (lim : Int) (s : RunS) (val code : Int) (ov vv : Value) (X : List IvL) : Prop where
  row : w.heap[rb]? = some (.cells #[pv, .int .i64 lim, ov, vv, .int .i64 val, .int .i64 code] T (0, 0))
  R : RunR TI TII B w s ov vv X
  lo : B ≤ rb
section
variable {T TI TII B rb : Nat} {w w' : World} {pv : Value} {lim : Int} {s : RunS} {val code : Int} {ov vv : Value} {X : List IvL}
theorem IAt.lt (h : IAt T TI TII B rb w pv lim s val code ov vv X) : rb < w.heap.size := (blk h.row).2.2
theorem CallsIn.row {c : List Int} {v : Value} (h : CallsIn X c v) (hI : IAt T TI TII B rb w pv lim s val code ov vv X) : w.ownsRow 0 TI 1 v c.length (intV c) := by
  rcases h with ⟨rfl, rfl⟩ | ⟨x, hx, rfl, rfl⟩
  · exact World.ownsRow_nil _ _ _ _
  · exact owns_lo (hI.R.made.1 x hx) (Nat.zero_le _)
theorem IAt.below (h : IAt T TI TII B rb w pv lim s val code ov vv X) (hb : Below w.heap.size w w') : IAt T TI TII B rb w' pv lim s val code ov vv X :=
  ⟨(hb.block rb h.lt).trans h.row, h.R.below hb, h.lo⟩
theorem IAt.ne_o (h : IAt T TI TII B rb w pv lim s val code ov vv X) (hT : TI ≠ T) : ov.ownBlock ≠ some rb := ne_types h.R.out h.row hT
theorem IAt.ne_v (h : IAt T TI TII B rb w pv lim s val code ov vv X) (hT : TII ≠ T) : vv.ownBlock ≠ some rb := ne_types h.R.vis h.row hT
theorem IAt.rows_at (h : IAt T TI TII B rb w pv lim s val code ov vv X) : ∀ v ∈ RI ov vv X, ∀ g, v.ownBlock = some g → B ≤ g ∧ g < w.heap.size := fun v hv g hg => by
  rcases mem_RI.1 hv with rfl | rfl | ⟨x, hx, rfl⟩
  · exact h.R.out.lt g hg
  · exact h.R.vis.lt g hg
  · exact (h.R.made.1 x hx).lt g hg
theorem IAt.base {M' : List Value} (h : IAt T TI TII B rb w pv lim s val code ov vv X) (hs : Step rb (RI ov vv X) M' w w') : Below B w w' := hs.base (Nat.le_of_lt (Nat.lt_of_le_of_lt h.lo h.lt)) h.lo (fun v hv g hg => (h.rows_at v hv g hg).1)
theorem IAt.kept {r : Option Nat} (h : IAt T TI TII B rb w pv lim s val code ov vv X) (hg : w.grownBy w' r) (hrb : r ≠ some rb) (hne : ∀ u ∈ RI ov vv X, ∀ g, u.ownBlock = some g → r ≠ some g) : IAt T TI TII B rb w' pv lim s val code ov vv X := by
  have keep : ∀ v ∈ RI ov vv X, ∀ g, v.ownBlock = some g → w'.heap[g]? = w.heap[g]? := fun v hv g hgv => hg.block g (h.rows_at v hv g hgv).2 (fun e => hne v hv g hgv e.symm)
  exact ⟨(hg.block rb h.lt (fun e => hrb e.symm)).trans h.row, h.R.of_block (keep ov RI.o) (keep vv RI.v) (fun x hx => keep x.v (RI.x hx)), h.lo⟩
/-- The value and the code are written. -/
theorem IAt.valued (h : IAt T TI TII B rb w pv lim s val code ov vv X) (hT : TI ≠ T) (hT2 : TII ≠ T) (d : Int) : IAt T TI TII B rb (w.setCell ⟨rb, 4, none⟩ (.int .i64 d)) pv lim s d code ov vv X := by
  have other : ∀ {v : Value}, v.ownBlock ≠ some rb → ∀ g, v.ownBlock = some g → (w.setCell ⟨rb, 4, none⟩ (.int .i64 d)).heap[g]? = w.heap[g]? := fun hv g hg => set_other (fun e => hv (by rw [hg, e]))
  exact ⟨heap_setCell_at h.row _, h.R.of_block (other (h.ne_o hT)) (other (h.ne_v hT2)) (fun x hx => other (ne_types (h.R.made.1 x hx) h.row hT)), h.lo⟩
theorem IAt.coded (h : IAt T TI TII B rb w pv lim s val code ov vv X) (hT : TI ≠ T) (hT2 : TII ≠ T) (d : Int) : IAt T TI TII B rb (w.setCell ⟨rb, 5, none⟩ (.int .i64 d)) pv lim s val d ov vv X := by
  have other : ∀ {v : Value}, v.ownBlock ≠ some rb → ∀ g, v.ownBlock = some g → (w.setCell ⟨rb, 5, none⟩ (.int .i64 d)).heap[g]? = w.heap[g]? := fun hv g hg => set_other (fun e => hv (by rw [hg, e]))
  exact ⟨heap_setCell_at h.row _, h.R.of_block (other (h.ne_o hT)) (other (h.ne_v hT2)) (fun x hx => other (ne_types (h.R.made.1 x hx) h.row hT)), h.lo⟩
/-- A visit was told. -/
theorem IAt.told {w1 w3 : World} {vv' : Value} {x : IvL} (h : IAt T TI TII B rb w pv lim s val code ov vv X) (hT : TI ≠ T) (hT2 : TII ≠ T) (hT3 : TI ≠ TII) (hb : Below w.heap.size w w1) (hx : w1.ownsRow w.heap.size TI 1 x.v x.xs.length (intV x.xs)) (hg : w1.grownBy w3 vv.ownBlock) (hv : w3.ownsRow B TII 1 vv' (X.length + 1) (ivV (X ++ [x]))) (hat : ∀ g, vv'.ownBlock = some g → vv.ownBlock = some g ∨ w.heap.size ≤ g) :
    IAt T TI TII B rb (w3.setCell ⟨rb, 3, none⟩ vv') pv lim ⟨s.out, s.vis ++ [x.xs]⟩ val code ov vv' (X ++ [x]) ∧ Step rb (RI ov vv X) (RI ov vv' (X ++ [x])) w (w3.setCell ⟨rb, 3, none⟩ vv') := by
  have h1 := h.below hb
  have hnew : ∀ g, x.v.ownBlock = some g → w.heap.size ≤ g := fun g hg => (hx.lt g hg).1
  have hlt := h.lt
  have hR := h.R.told hT3 hb (owns_lo hx (Nat.le_of_lt (Nat.lt_of_le_of_lt h.lo hlt))) hnew hg hv
  have hrow : w3.heap[rb]? = some (.cells #[pv, .int .i64 lim, ov, vv, .int .i64 val, .int .i64 code] T (0, 0)) := (hg.block rb h1.lt (fun e => h1.ne_v hT2 e.symm)).trans h1.row
  have other : ∀ {v : Value}, v.ownBlock ≠ some rb → ∀ g, v.ownBlock = some g → (w3.setCell ⟨rb, 3, none⟩ vv').heap[g]? = w3.heap[g]? := fun hv g hg => set_other (fun e => hv (by rw [hg, e]))
  refine ⟨⟨heap_setCell_at hrow _, hR.of_block (other (ne_types hR.out hrow hT)) (other (ne_types hR.vis hrow hT2)) (fun y hy => other (ne_types (hR.made.1 y hy) hrow hT)), h.lo⟩, ?_⟩
  have st : Step rb (RI ov vv X) (RI ov vv X) w w3 := (Step.of_below hb).trans (Step.of_grown hg RI.v)
  refine ⟨st.os, st.tape, st.output, by simpa [World.setCell] using st.size, fun k hk hr hm => (set_other hr).trans (st.block k hk hr hm), fun v hv' g hg' => ?_⟩
  rcases mem_RI.1 hv' with rfl | rfl | ⟨y, hy, rfl⟩
  · exact .inl ⟨_, RI.o, hg'⟩
  · rcases hat g hg' with e | e
    · exact .inl ⟨_, RI.v, e⟩
    · exact .inr e
  · rcases List.mem_append.1 hy with hy | hy
    · exact .inl ⟨_, RI.x hy, hg'⟩
    · obtain rfl : y = x := by simpa using hy
      exact .inr (hnew g hg')
/-- A number was put out. -/
theorem IAt.put {w3 : World} {ov' : Value} {v : Int} (h : IAt T TI TII B rb w pv lim s val code ov vv X) (hT : TI ≠ T) (hT2 : TII ≠ T) (hT3 : TI ≠ TII) (hg : w.grownBy w3 ov.ownBlock) (ho : w3.ownsRow B TI 1 ov' (s.out.length + 1) (intV (s.out ++ [v]))) (hat : ∀ g, ov'.ownBlock = some g → ov.ownBlock = some g ∨ w.heap.size ≤ g) :
    IAt T TI TII B rb (w3.setCell ⟨rb, 2, none⟩ ov') pv lim ⟨s.out ++ [v], s.vis⟩ val code ov' vv X ∧ Step rb (RI ov vv X) (RI ov' vv X) w (w3.setCell ⟨rb, 2, none⟩ ov') := by
  have hrow : w3.heap[rb]? = some (.cells #[pv, .int .i64 lim, ov, vv, .int .i64 val, .int .i64 code] T (0, 0)) := (hg.block rb h.lt (fun e => h.ne_o hT e.symm)).trans h.row
  have hvis : w3.ownsRow B TII 1 vv X.length (ivV X) := far h.R.vis hg (fun g e e' => ap_types h.R.out h.R.vis hT3 g e' e)
  have hmade := h.R.made.kept hg (fun x hx g e e' => h.R.apart x hx g e e')
  have other : ∀ {v : Value}, v.ownBlock ≠ some rb → ∀ g, v.ownBlock = some g → (w3.setCell ⟨rb, 2, none⟩ ov').heap[g]? = w3.heap[g]? := fun hv g hg => set_other (fun e => hv (by rw [hg, e]))
  have hR : RunR TI TII B w3 ⟨s.out ++ [v], s.vis⟩ ov' vv X := ⟨by simpa using ho, hvis, h.R.xs, hmade, fun x hx g e e' => by
    rcases hat g e' with h1 | h1
    · exact h.R.apart x hx g e h1
    · have := ((h.R.made.1 x hx).lt g e).2; omega⟩
  refine ⟨⟨heap_setCell_at hrow _, hR.of_block (other (ne_types ho hrow hT)) (other (ne_types hvis hrow hT2)) (fun y hy => other (ne_types (hmade.1 y hy) hrow hT)), h.lo⟩, ?_⟩
  have st : Step rb (RI ov vv X) (RI ov vv X) w w3 := Step.of_grown hg RI.o
  refine ⟨st.os, st.tape, st.output, by simpa [World.setCell] using st.size, fun k hk hr hm => (set_other hr).trans (st.block k hk hr hm), fun v hv' g hg' => ?_⟩
  rcases mem_RI.1 hv' with rfl | rfl | ⟨y, hy, rfl⟩
  · rcases hat g hg' with e | e
    · exact .inl ⟨_, RI.o, e⟩
    · exact .inr e
  · exact .inl ⟨_, RI.v, hg'⟩
  · exact .inl ⟨_, RI.x hy, hg'⟩
theorem IAt.keep {M' : List Value} {g : Nat} {cs : Array Value} {T' : TypeId} {fr : Nat × Nat} (h : IAt T TI TII B rb w pv lim s val code ov vv X) (hs : Step rb (RI ov vv X) M' w w') (hg : w.heap[g]? = some (.cells cs T' fr)) (h1 : T ≠ T') (h2 : TI ≠ T') (h3 : TII ≠ T') : w'.heap[g]? = some (.cells cs T' fr) :=
  hs.keep hg (fun e => by
    have := h.row
    rw [← e, hg] at this
    injection this with this
    injection this with _ e3
    exact h1 e3.symm) (fun u hu => by
    rcases mem_RI.1 hu with rfl | rfl | ⟨y, hy, rfl⟩
    · exact ne_types h.R.out hg h2
    · exact ne_types h.R.vis hg h3
    · exact ne_types (h.R.made.1 y hy) hg h2)
theorem IAt.off {B' T' n m : Nat} {v : Value} {xs : List Value} (h : IAt T TI TII B rb w pv lim s val code ov vv X) (hr : w.ownsRow B' T' m v n xs) (h2 : TI ≠ T') (h3 : TII ≠ T') : Off v (RI ov vv X) := fun u hu => by
  rcases mem_RI.1 hu with rfl | rfl | ⟨y, hy, rfl⟩
  · exact ap_types hr h.R.out (Ne.symm h2)
  · exact ap_types hr h.R.vis (Ne.symm h3)
  · exact ap_types hr (h.R.made.1 y hy) (Ne.symm h2)
theorem IAt.off_new {v : Value} (h : IAt T TI TII B rb w pv lim s val code ov vv X) (hv : ∀ g, v.ownBlock = some g → w.heap.size ≤ g) : Off v (RI ov vv X) := fun u hu g hg e => by
  have h1 := hv g hg
  have h2 := h.rows_at u hu g e
  omega
theorem row_ne_map {B' T' n m b : Nat} {v : Value} {xs : List Value} {o : Obj} (hr : w.ownsRow B' T' m v n xs) (hb : w.heap[b]? = some o) (hm : ∀ cs t fr, o ≠ .cells cs t fr) : v.ownBlock ≠ some b := fun h => by
  rcases hr.2 with ⟨rfl, _⟩ | ⟨g1, c1, r1, rfl, _, e1, _⟩
  · cases h
  simp only [Value.ownBlock, Option.some.injEq] at h
  subst h
  rw [hb] at e1
  injection e1 with e1
  exact hm _ _ _ e1
/-- A map is none of the run's own blocks. -/
theorem IAt.map {H : Type} {P : Program} {K : TypeId} {Rd : Value → Option (DataW H × List MemPlace)} {b n : Nat} {D : DataW H} {M' : List Value} (h : IAt T TI TII B rb w pv lim s val code ov vv X) (hs : Step rb (RI ov vv X) M' w w') (hm : w.ownsMap P K Rd b n D) : w'.ownsMap P K Rd b n D := by
  obtain ⟨es, clock, hb, F, hsz, hD⟩ := hm
  refine ⟨es, clock, hs.keep hb (fun e => ?_) (fun u hu => ?_), F, hsz, hD⟩
  · have := h.row
    rw [← e, hb] at this
    injection this with this
    cases this
  · rcases mem_RI.1 hu with rfl | rfl | ⟨y, hy, rfl⟩
    · exact row_ne_map h.R.out hb (fun _ _ _ e => by cases e)
    · exact row_ne_map h.R.vis hb (fun _ _ _ e => by cases e)
    · exact row_ne_map (h.R.made.1 y hy) hb (fun _ _ _ e => by cases e)
theorem map_ne_row {H : Type} {P : Program} {K : TypeId} {Rd : Value → Option (DataW H × List MemPlace)} {b n : Nat} {D : DataW H} {B' T' n' m : Nat} {v : Value} {xs : List Value} (hm : w.ownsMap P K Rd b n D) (hr : w.ownsRow B' T' m v n' xs) : v.ownBlock ≠ some b := by
  obtain ⟨es, clock, hb, _⟩ := hm
  exact row_ne_map hr hb (fun _ _ _ e => by cases e)
/-- A map was written: the run is as it was. -/
theorem IAt.mapped {H : Type} {P : Program} {K : TypeId} {Rd : Value → Option (DataW H × List MemPlace)} {b n : Nat} {D : DataW H} (h : IAt T TI TII B rb w pv lim s val code ov vv X) (hm : w.ownsMap P K Rd b n D) (hg : w.grownBy w' (some b)) : IAt T TI TII B rb w' pv lim s val code ov vv X := by
  refine h.kept hg (fun e => ?_) (fun u hu g e e' => ?_)
  · injection e with e
    obtain ⟨es, clock, hb, _⟩ := hm
    have := h.row
    rw [← e, hb] at this
    injection this with this
    cases this
  · rw [← e'] at e
    rcases mem_RI.1 hu with rfl | rfl | ⟨y, hy, rfl⟩
    · exact map_ne_row hm h.R.out e
    · exact map_ne_row hm h.R.vis e
    · exact map_ne_row hm (h.R.made.1 y hy) e
end
end Go.Proofs.YtcffmdmdojkggaaDoor

/-! The program's visit: it is told, or the run ends by a panic -/
namespace Go.Proofs.YtcffmdmdojkggaaDoor
open Go.RowKit Go.Lib

theorem neI : 3 ≠ 46 ∧ 27 ≠ 46 ∧ 3 ≠ 27 := by decide
theorem infoIR : (Tryd.prog.info? 3).map (fun i => (i.zero, i.size, i.bytes)) = some (some (.int .i64 0), 1, 8) := by kernel_rfl
theorem infoIR2 : (Tryd.prog.info? 27).map (fun i => (i.zero, i.size, i.bytes)) = some (some (.slice none 0 0), 1, 24) := by kernel_rfl
theorem intV_one (l : List Int) : ∀ u ∈ intV l, u.oneCell' = true := by
  intro u hu
  obtain ⟨x, _, rfl⟩ := List.mem_map.1 hu
  rfl
/-- The panic by which a run ends. -/
def endP (q : Int) : List PanicEntry := [{ v := .iface 67 (.int .i64 q), recovered := false }]

set_option maxRecDepth 100000 in
set_option maxHeartbeats 1000000 in
theorem x_cloneI (v : Value) (l : List Int) (w : World) (h : w.ownsRow 0 3 1 v l.length (intV l)) (hl : l.length ≤ 1048576) :
    Calls Tryd.prog 77 #[v] w (Ints 3 w.heap.size l w) := by
  obtain ⟨i0, hi, hz0, hz1, hz2⟩ := info_parts infoIR
  have qn : ∀ (W : World) (a : Option Addr) (n c n' c' : Nat), (binOp .eql 27 (.slice a n c) (.slice none n' c')).run Tryd.prog W = .ok (.bool a.isNone) W := fun W a n c n' c' => Lib.run_eql_slice_nil W _ _ a n c n' c' Tryd.underlying27
  rcases h.2 with ⟨rfl, h0⟩ | ⟨g, cap, cur, rfl, hB, hg, _⟩
  · obtain rfl := List.length_eq_zero_iff.1 h0
    clear h h0
    go_enter Tryd.func77, Tryd.ntmps77
    go_wp2
    go_ret
    exact ⟨_, rfl, World.ownsRow_nil _ _ _ _, Below.refl _ _⟩
  · have HG := Lib.hid ((h.alloc (.cells #[] 3)).cells rfl)
    have hown := World.ownsRow_lit (e := 3) (size := 1) (base := w.heap.size) w #[] 0 (Nat.le_refl _) (by decide) rfl
    have h63 : 0 + l.length ≤ maxLen := by unfold maxLen; omega
    have hby : (0 + l.length) * 8 ≤ 140737488355328 := by omega
    have HB0 : Hid (Below w.heap.size w (w.alloc (.cells #[] 3))) := Lib.hid ((Below.refl _ _).alloc (Nat.le_refl _) _)
    have hz : (w.alloc (.cells #[] 3)).heap.size = w.heap.size + 1 := by simp
    clear h
    go_enter Tryd.func77, Tryd.ntmps77
    go_wp2_with (at_builtin; refine wpList_append_own _ rfl _ _ 27 rfl w.heap.size 3 i0 (.int .i64 0) 1 8 Tryd.underlying27 hi hz0 hz1 hz2 rfl (by decide) _ _ _ rfl hown ⟨g, 0, none⟩ l.length cap (intV l) rfl (by rw [intV_length]; omega) HG.out (intV_one l) h63 hby (by omega) ?_)
    intro v' w1 hown1 hgrow _
    have HO := Lib.hid (owns_ints (l := l) hown1 (by simp))
    have HB := Lib.hid (HB0.out.grown hgrow (by omega) (fun j hj => Nat.le_of_eq (Option.some.inj hj)))
    clear hown1 hgrow
    go_wp2
    go_ret
    exact ⟨_, rfl, HO.out, HB.out⟩

set_option maxRecDepth 100000 in
set_option maxHeartbeats 1000000 in
theorem i_visit_full (B rb : Nat) (pv : Value) (lim : Int) (s : RunS) (val code : Int) (ov vv : Value) (X : List IvL) (k : Int) (cv : Value) (w : World) (h : IAt 46 3 27 B rb w pv lim s val code ov vv X) (hl : (s.vis.length : Int) = lim) :
    Calls Tryd.prog 60 #[.pointer (some ⟨rb, 0, none⟩), .int .i64 k, cv] w fun e w' => e = .panicked (endP 1) ∧ Below w.heap.size w w' := by
  have hlen := h.R.len
  obtain ⟨va, vc, rfl⟩ := owns_shape h.R.vis
  obtain ⟨cc, cf, clt⟩ := blk h.row
  have e1 : w.cell? ⟨rb, 1, none⟩ = some (.int .i64 lim) := cc 1 _ rfl
  have e3 : w.cell? ⟨rb, 3, none⟩ = some (.slice va X.length vc) := cc 3 _ rfl
  have ht : ((X.length : Int) == lim) = true := by rw [hlen, hl]; simp
  clear cc cf h hl hlen
  go_enter Tryd.func60, Tryd.ntmps60
  go_wp2_with fail
  go_quiet (fail)
  go_wp2
  exact ⟨rfl, rfl, below_drewN (Below.refl _ _) nq⟩

/-- A visit is told. -/
def ITold (B rb : Nat) (pv : Value) (lim : Int) (s : RunS) (val code : Int) (c : List Int) (ov vv : Value) (X : List IvL) (k : Int) (w : World) (e : Ending) (w' : World) : Prop :=
  ∃ vv' x, e = .returned x.v ∧ x.xs = c ++ [k] ∧ IAt 46 3 27 B rb w' pv lim ⟨s.out, s.vis ++ [c ++ [k]]⟩ val code ov vv' (X ++ [x]) ∧ Step rb (RI ov vv X) (RI ov vv' (X ++ [x])) w w'

set_option maxRecDepth 100000 in
set_option maxHeartbeats 4000000 in
theorem i_visit_on (B rb : Nat) (pv : Value) (lim : Int) (s : RunS) (val code : Int) (c : List Int) (ov vv : Value) (X : List IvL) (k : Int) (ca : Option Addr) (cc : Nat) (w : World) (h : IAt 46 3 27 B rb w pv lim s val code ov vv X) (hl : (s.vis.length : Int) ≠ lim) (hb : s.vis.length ≤ 2000) (hc : c.length ≤ 6) (hcal : w.ownsRow 0 3 1 (.slice ca c.length cc) c.length (intV c)) :
    Calls Tryd.prog 60 #[.pointer (some ⟨rb, 0, none⟩), .int .i64 k, .slice ca c.length cc] w (ITold B rb pv lim s val code c ov vv X k w) := by
  have HH := Lib.hid h
  have HCAL := Lib.hid hcal
  have hlen := h.R.len
  obtain ⟨I0, hi, hz0, hz1, hz2⟩ := info_parts infoIR
  obtain ⟨J0, hj, hy0, hy1, hy2⟩ := info_parts infoIR2
  obtain ⟨va, vc, rfl⟩ := owns_shape h.R.vis
  obtain ⟨c', cf, clt⟩ := blk h.row
  have e1 : w.cell? ⟨rb, 1, none⟩ = some (.int .i64 lim) := c' 1 _ rfl
  have e3 : w.cell? ⟨rb, 3, none⟩ = some (.slice va X.length vc) := c' 3 _ rfl
  have ht : ((X.length : Int) == lim) = false := by rw [hlen]; simpa using hl
  have HB : Hid (∀ q, Below w.heap.size w (w.drewN q)) := Lib.hid (fun q => below_drewN (Below.refl _ _) q)
  have hXl : X.length ≤ 2000 := by omega
  clear c' cf h hl hlen hcal clt
  go_enter Tryd.func60, Tryd.ntmps60
  go_wp2_with fail
  go_quiet (fail)
  go_wp2_with fail
  have HD := Lib.hid (HB.out nq)
  have HCL := Lib.hid (x_cloneI (.slice ca c.length cc) c (w.drewN nq) (owns_below HCAL.out HD.out) (by omega))
  refine HCL.out.mono ?_
  rintro e w1 ⟨v1, rfl, O1, b1⟩
  have HB1 : Hid (Below w.heap.size w w1) := Lib.hid (HD.out.trans (b1.mono HD.out.size))
  have O1' := Lib.hid (owns_lo O1 HD.out.size)
  have z1 := HB1.out.size
  have h63 : c.length + 1 ≤ maxLen := by unfold maxLen; omega
  have hby : (c.length + 1) * 8 ≤ 140737488355328 := by omega
  clear b1 O1 HCL e1 e3 ht
  go_wp2_with (at_builtin; refine wpList_append_lies _ rfl _ _ 27 rfl w.heap.size 3 I0 (.int .i64 0) 1 8 Tryd.underlying27 hi hz0 hz1 hz2 rfl (by decide) _ _ _ rfl (O1'.out.alloc _) ⟨w1.heap.size, 0, none⟩ 1 1 [.int .i64 k] rfl rfl ?c1 ?c2 (by decide) h63 hby ?c5 _ rfl ?_)
  case c1 => exact cell_one_new _ _ _
  case c2 => intro u hu; simp at hu; subst hu; rfl
  case c5 => simp; omega
  intro g4 c4 w2 hown4 hgrow4 hat4 hlt4
  have HB2 : Hid (Below w.heap.size w w2) := Lib.hid ((HB1.out.alloc z1 _).grown hgrow4 (by simp; omega) (fun q hq => (O1'.out.lt q hq).1))
  have OY : Hid (w2.ownsRow w.heap.size 3 1 (IvL.mk (c ++ [k]) (.slice (some ⟨g4, 0, none⟩) (c.length + 1) c4)).v (c ++ [k]).length (intV (c ++ [k]))) := Lib.hid (owns_ints hown4 (by rw [intV_append]; rfl))
  have HS2 := Lib.hid (HH.out.below HB2.out)
  have e32 : w2.cell? ⟨rb, 3, none⟩ = some (.slice va X.length vc) := (blk HS2.out.row).1 3 _ rfl
  have z2 := HB2.out.size
  have h632 : X.length + 1 ≤ maxLen := by unfold maxLen; omega
  have hby2 : (X.length + 1) * 24 ≤ 140737488355328 := by omega
  have HV2 := Lib.hid HS2.out.R.vis
  clear hown4 hgrow4 hat4 hlt4
  go_wp2_with (at_builtin; refine wpList_append_lies _ rfl _ _ 28 rfl B 27 J0 (.slice none 0 0) 1 24 Tryd.underlying28 hj hy0 hy1 hy2 rfl (by decide) _ _ _ rfl (HV2.out.alloc _) ⟨w2.heap.size, 0, none⟩ 1 1 [.slice (some ⟨g4, 0, none⟩) (c.length + 1) c4] rfl rfl (cell_one_new _ _ _) (by intro u hu; simp at hu; subst hu; rfl) (by decide) h632 hby2 (by have := HH.out.lo; have := HH.out.lt; simp; omega) _ rfl ?_)
  intro g5 c5 w3 hown5 hgrow5 hat5 hlt5
  have HVB : Hid (Below w.heap.size w (w2.alloc (.cells #[.slice (some ⟨g4, 0, none⟩) (c.length + 1) c4] 27))) := Lib.hid (HB2.out.alloc z2 _)
  have zz : (w2.alloc (.cells #[.slice (some ⟨g4, 0, none⟩) (c.length + 1) c4] 27)).heap.size = w2.heap.size + 1 := by simp
  have ES : Hid (w3.heap[rb]? = some (.cells #[pv, .int .i64 lim, ov, .slice va X.length vc, .int .i64 val, .int .i64 code] 46 (0, 0))) := Lib.hid ((hgrow5.block rb (by have := HH.out.lt; omega) (fun e => (HH.out.below HVB.out).ne_v neI.2.1 e.symm)).trans (HH.out.below HVB.out).row)
  have FIN := Lib.hid (HH.out.told (x := IvL.mk (c ++ [k]) (.slice (some ⟨g4, 0, none⟩) (c.length + 1) c4)) neI.1 neI.2.1 neI.2.2 HVB.out (owns_blks OY.out (fun q hq => Below.heap_alloc _ _ _ (OY.out.lt q hq).2)) hgrow5 (by rw [ivV_append]; exact hown5) (fun q hq => by simp only [Value.ownBlock, Option.some.injEq] at hq; subst hq; rcases hat5 with e | e; exact .inl e; exact .inr (by omega)))
  have g3 : w3.cell? ⟨rb, 3, none⟩ = some (.slice va X.length vc) := (blk ES.out).1 3 _ rfl
  have f3 : w3.frozen? ⟨rb, 3, none⟩ = false := (blk ES.out).2.1 3
  clear hown5 hgrow5 hat5 hlt5 e32
  go_wp2
  go_ret
  exact ⟨_, _, rfl, rfl, FIN.out.1, FIN.out.2⟩
end Go.Proofs.YtcffmdmdojkggaaDoor
