/- The laws' eqLineS: two rows of the same lines are equal. -/
import Derived.Test.YthmllcpldgbbcaaDoorLineEq
import Derived.Deep.RegionHeld3
namespace Go.Proofs.YthmllcpldgbbcaaDoor
open Go.RowKit Go.Lib

theorem p_ext {x y : LnL} (h : x.p = y.p) : x.kind = y.kind ∧ x.name = y.name ∧ x.args = y.args ∧ x.expr = y.expr := by
  unfold LnL.p at h
  injection h with h1 h2 h3 h4
  exact ⟨h1, h2, h3, h4⟩
theorem plL_at {X Y : List LnL} (h : plL X = plL Y) (j : Nat) (hx : j < X.length) : ∃ hy : j < Y.length, X[j].p = Y[j].p := by
  have hl : X.length = Y.length := by have := congrArg List.length h; simpa [plL] using this
  have hy : j < Y.length := by omega
  refine ⟨hy, ?_⟩
  rw [← plL_get X j hx, ← plL_get Y j hy]
  simp only [h]

set_option maxRecDepth 100000 in
set_option maxHeartbeats 2000000 in
theorem l_eqLineS (a b : Option Addr) (c d : Nat) (X Y : List LnL) (w : World) (ha : ReadL 9 70 w a X) (hb : ReadL 9 70 w b Y) (hxy : plL X = plL Y) (hl : X.length ≤ 1048576) (hz : ∀ x ∈ X, x.args.length ≤ 1048576 ∧ x.expr.length ≤ 1048576) :
    Calls Tryd.prog 17 #[.slice a X.length c, .slice b Y.length d] w fun e w' => e = .returned (.bool true) ∧ Below w.heap.size w w' := by
  have hyl : Y.length = X.length := by have := congrArg List.length hxy; simpa [plL] using this.symm
  have HA := Lib.hid ha
  have HB := Lib.hid hb
  have HXY := Lib.hid hxy
  have HZ := Lib.hid hz
  rw [hyl]
  clear ha hb hxy hyl hz
  go_enter Tryd.func17, Tryd.ntmps17
  go_wp2_with fail
  go_loopw [5] (fun i wr => ∃ (k : Nat), k ≤ X.length ∧ i = .int .i64 (k : Int) ∧ Below w.heap.size w wr) (fun i _ => X.length - (RowKit.intOf i).toNat)
  case atStart => exact ⟨0, Nat.zero_le _, rfl, Below.refl _ _⟩
  case round =>
    obtain ⟨k, hk, rfl, hbel⟩ := hrel
    have HBE := Lib.hid hbel
    have hB := hbel.size
    by_cases hlt : k < X.length
    · obtain ⟨hlt2, hpp⟩ := plL_at HXY.out k hlt
      obtain ⟨g, rfl, hg, ⟨c0, c1, c2, c3⟩, hm⟩ := (HA.out.below hbel) k hlt
      obtain ⟨g', rfl, hg', ⟨d0, d1, d2, d3⟩, hm'⟩ := (HB.out.below hbel) k hlt2
      have hzz := HZ.out _ (List.getElem_mem hlt)
      obtain ⟨x, hx⟩ : ∃ x, X[k] = x := ⟨_, rfl⟩
      obtain ⟨y, hy⟩ : ∃ y, Y[k] = y := ⟨_, rfl⟩
      rw [hx] at c0 c1 c2 c3 hm hpp hzz
      rw [hy] at d0 d1 d2 d3 hm' hpp
      obtain ⟨q0, q1, q2, q3⟩ := p_ext hpp
      obtain ⟨xa, xb, xc, xd, ea, ee, rs, rt, _, _⟩ := inMem_shape hm
      obtain ⟨ya, yb, yc, yd, fa, fe, ss, st, _, _⟩ := inMem_shape hm'
      rw [ea] at c2
      rw [ee] at c3
      rw [fa, ← q2] at d2
      rw [fe, ← q3] at d3
      rw [← q0] at d0
      rw [← q1] at d1
      rw [← q2] at ss
      rw [← q3] at st
      have HE := Lib.hid (fun W (hb : Below wr.heap.size wr W) => l_eqLine x.kind x.name x.args x.expr xa ya xb yb xc yc xd yd W (rs.below hb) (ss.below hb) (rt.below hb) (st.below hb) hzz.1 hzz.2)
      obtain ⟨kk, nm, gs, ex, va, ve⟩ := x
      dsimp only at c0 c1 c2 c3 d0 d1 d2 d3 HE
      have k0 : (0 : Int) ≤ (k : Int) := by omega
      have k1 : (k : Int) < (X.length : Int) := by omega
      have HC := Lib.hid (And.intro c0 (And.intro c1 (And.intro c2 c3)))
      have HD := Lib.hid (And.intro d0 (And.intro d1 (And.intro d2 d3)))
      clear hx hy hpp hm hm' hzz rs rt ss st ea ee fa fe q0 q1 q2 q3 hbel hlt2
      go_wp2_with fail
      go_region_held3 (fun w' => (w'.cell? ⟨g, k * 4, none⟩ = some (.int .i64 kk) ∧ w'.cell? ⟨g, k * 4 + 1, none⟩ = some (.string nm) ∧ w'.cell? ⟨g, k * 4 + 2, none⟩ = some (.slice xa gs.length xc) ∧ w'.cell? ⟨g, k * 4 + 3, none⟩ = some (.slice xb ex.length xd)) ∧
          (w'.cell? ⟨g', k * 4, none⟩ = some (.int .i64 kk) ∧ w'.cell? ⟨g', k * 4 + 1, none⟩ = some (.string nm) ∧ w'.cell? ⟨g', k * 4 + 2, none⟩ = some (.slice ya gs.length yc) ∧ w'.cell? ⟨g', k * 4 + 3, none⟩ = some (.slice yb ex.length yd)))
        (first | go_keep | (exact ⟨⟨(b1.cell (p := ⟨g, _, none⟩) hg).trans HC.out.1, (b1.cell (p := ⟨g, _, none⟩) hg).trans HC.out.2.1, (b1.cell (p := ⟨g, _, none⟩) hg).trans HC.out.2.2.1, (b1.cell (p := ⟨g, _, none⟩) hg).trans HC.out.2.2.2⟩, ⟨(b1.cell (p := ⟨g', _, none⟩) hg').trans HD.out.1, (b1.cell (p := ⟨g', _, none⟩) hg').trans HD.out.2.1, (b1.cell (p := ⟨g', _, none⟩) hg').trans HD.out.2.2.1, (b1.cell (p := ⟨g', _, none⟩) hg').trans HD.out.2.2.2⟩⟩))
        (first
          | (go_at_call 39; refine (HE.out _ ?_).mono ?_; exact (Below.refl wr.heap.size wr).drew; rintro e w1 ⟨rfl, b1⟩))
      all_goals
        have HB1 : Hid (Below w.heap.size w w1) := Lib.hid (HBE.out.trans ((undrew b1).mono hB))
        clear b1 c0 c1 c2 c3 d0 d1 d2 d3 HC HD
        go_wp2
        go_roundw
        case rel => exact ⟨k + 1, by omega, by go_num, HB1.out⟩
        case measure => simp [RowKit.intOf]; omega
    · go_wp2
      go_ret
      exact ⟨rfl, HBE.out⟩
end Go.Proofs.YthmllcpldgbbcaaDoor
