/- Plain facts: The laws' eqLine: two lines that hold the same are equal; The laws' eqLineS: two rows of the same lines are equal. Nothing of the program. -/
import Derived.Test.YtcnnfhcpkbjolaaDoorPlainB
import Derived.Test.YtcnnfhcpkbjolaaDoorEqStrs
import Derived.Test.YtcnnfhcpkbjolaaDoorTokL
import Derived.Outline
import Derived.Lib.Hide
import Derived.Deep.RegionHeld3
/-! The laws' eqLine: two lines that hold the same are equal -/
namespace Go.Proofs.YtcnnfhcpkbjolaaDoor
open Go.RowKit Go.Lib

set_option maxRecDepth 100000 in
set_option maxHeartbeats 1000000 in
theorem l_eqLine (k : Int) (nm : ByteArray) (gs : List ByteArray) (ex : List TokL) (a1 a2 b1 b2 : Option Addr) (c1 c2 d1 d2 : Nat) (w : World) (h1 : ReadS w a1 gs) (h2 : ReadS w a2 gs) (h3 : ReadT w b1 ex) (h4 : ReadT w b2 ex) (hl : gs.length ≤ 1048576) (hm : ex.length ≤ 1048576) :
    Calls Tryd.prog 40 #[.agg #[.int .i64 k, .string nm, .slice a1 gs.length c1, .slice b1 ex.length d1], .agg #[.int .i64 k, .string nm, .slice a2 gs.length c2, .slice b2 ex.length d2]] w fun e w' => e = .returned (.bool true) ∧ Below w.heap.size w w' := by
  have H1 := Lib.hid h1
  have H2 := Lib.hid h2
  have H3 := Lib.hid h3
  have H4 := Lib.hid h4
  clear h1 h2 h3 h4
  have T := Lib.hid (two_new w (.cells #[.int .i64 k, .string nm, .slice a1 gs.length c1, .slice b1 ex.length d1] 48) (.cells #[.int .i64 k, .string nm, .slice a2 gs.length c2, .slice b2 ex.length d2] 48))
  go_enter Tryd.func40, Tryd.ntmps40
  go_wp2_with fail
  refine (l_eqStrs a1 a2 c1 c2 gs _ (H1.out.below T.out.2.2.2) (H2.out.below T.out.2.2.2) (by omega)).mono ?_
  rintro e w1 ⟨rfl, q1⟩
  obtain ⟨t0, t1, tz, tb⟩ := T.out
  rw [tz] at q1
  have p0 := (q1.block _ (by omega)).trans t0
  have p1 := (q1.block _ (by omega)).trans t1
  have z1 := q1.size
  rw [tz] at z1
  have HB1 : Hid (Below w.heap.size w w1) := Lib.hid (tb.trans (q1.mono (by omega)))
  have e0 : w1.cell? ⟨w.heap.size, 3, none⟩ = some (.slice b1 ex.length d1) := (blk p0).1 3 _ rfl
  have e1 : w1.cell? ⟨w.heap.size + 1, 3, none⟩ = some (.slice b2 ex.length d2) := (blk p1).1 3 _ rfl
  clear t0 t1 tz tb p0 p1 q1
  go_wp2_with fail
  refine (l_eqTokS b1 b2 d1 d2 ex _ (H3.out.below HB1.out) (H4.out.below HB1.out) (by omega)).mono ?_
  rintro e w2 ⟨rfl, q2⟩
  have HB2 : Hid (Below w.heap.size w w2) := Lib.hid (HB1.out.trans (q2.mono (by omega)))
  clear q2
  go_wp2
  go_ret
  exact ⟨rfl, HB2.out⟩
end Go.Proofs.YtcnnfhcpkbjolaaDoor

/-! The laws' eqLineS: two rows of the same lines are equal -/
namespace Go.Proofs.YtcnnfhcpkbjolaaDoor
open Go.RowKit Go.Lib

theorem p_ext {x y : LnL} (h : x.p = y.p) : x.kind = y.kind ∧ x.name = y.name ∧ x.args = y.args ∧ x.expr = y.expr := by
  unfold LnL.p at h
  injection h with h1 h2 h3 h4
  exact ⟨h1, h2, h3, h4⟩
theorem plL_at {X Y : List LnL} (h : plL X = plL Y) (j : Nat) (hx : j < X.length) : ∃ hy : j < Y.length, X[j].p = Y[j].p := by
  have hl : X.length = Y.length := by have := congrArg List.length h; simpa [plL] using this
  have hy : j < Y.length := by omega
  refine ⟨hy, ?_⟩
  rw [← plL_get X j hx, ← plL_get Y j hy]
  simp only [h]

set_option maxRecDepth 100000 in
set_option maxHeartbeats 2000000 in
theorem l_eqLineS (a b : Option Addr) (c d : Nat) (X Y : List LnL) (w : World) (ha : ReadL 9 83 w a X) (hb : ReadL 9 83 w b Y) (hxy : plL X = plL Y) (hl : X.length ≤ 1048576) (hz : ∀ x ∈ X, x.args.length ≤ 1048576 ∧ x.expr.length ≤ 1048576) :
    Calls Tryd.prog 18 #[.slice a X.length c, .slice b Y.length d] w fun e w' => e = .returned (.bool true) ∧ Below w.heap.size w w' := by
  have hyl : Y.length = X.length := by have := congrArg List.length hxy; simpa [plL] using this.symm
  have HA := Lib.hid ha
  have HB := Lib.hid hb
  have HXY := Lib.hid hxy
  have HZ := Lib.hid hz
  rw [hyl]
  clear ha hb hxy hyl hz
  go_enter Tryd.func18, Tryd.ntmps18
  go_wp2_with fail
  go_loopw [5] (fun i wr => ∃ (k : Nat), k ≤ X.length ∧ i = .int .i64 (k : Int) ∧ Below w.heap.size w wr) (fun i _ => X.length - (RowKit.intOf i).toNat)
  case atStart => exact ⟨0, Nat.zero_le _, rfl, Below.refl _ _⟩
  case round =>
    obtain ⟨k, hk, rfl, hbel⟩ := hrel
    have HBE := Lib.hid hbel
    have hB := hbel.size
    by_cases hlt : k < X.length
    · obtain ⟨hlt2, hpp⟩ := plL_at HXY.out k hlt
      obtain ⟨g, rfl, hg, ⟨c0, c1, c2, c3⟩, hm⟩ := (HA.out.below hbel) k hlt
      obtain ⟨g', rfl, hg', ⟨d0, d1, d2, d3⟩, hm'⟩ := (HB.out.below hbel) k hlt2
      have hzz := HZ.out _ (List.getElem_mem hlt)
      obtain ⟨x, hx⟩ : ∃ x, X[k] = x := ⟨_, rfl⟩
      obtain ⟨y, hy⟩ : ∃ y, Y[k] = y := ⟨_, rfl⟩
      rw [hx] at c0 c1 c2 c3 hm hpp hzz
      rw [hy] at d0 d1 d2 d3 hm' hpp
      obtain ⟨q0, q1, q2, q3⟩ := p_ext hpp
      obtain ⟨xa, xb, xc, xd, ea, ee, rs, rt, _, _⟩ := inMem_shape hm
      obtain ⟨ya, yb, yc, yd, fa, fe, ss, st, _, _⟩ := inMem_shape hm'
      rw [ea] at c2
      rw [ee] at c3
      rw [fa, ← q2] at d2
      rw [fe, ← q3] at d3
      rw [← q0] at d0
      rw [← q1] at d1
      rw [← q2] at ss
      rw [← q3] at st
      have HE := Lib.hid (fun W (hb : Below wr.heap.size wr W) => l_eqLine x.kind x.name x.args x.expr xa ya xb yb xc yc xd yd W (rs.below hb) (ss.below hb) (rt.below hb) (st.below hb) hzz.1 hzz.2)
      obtain ⟨kk, nm, gs, ex, va, ve⟩ := x
      dsimp only at c0 c1 c2 c3 d0 d1 d2 d3 HE
      have k0 : (0 : Int) ≤ (k : Int) := by omega
      have k1 : (k : Int) < (X.length : Int) := by omega
      have HC := Lib.hid (And.intro c0 (And.intro c1 (And.intro c2 c3)))
      have HD := Lib.hid (And.intro d0 (And.intro d1 (And.intro d2 d3)))
      clear hx hy hpp hm hm' hzz rs rt ss st ea ee fa fe q0 q1 q2 q3 hbel hlt2
      go_wp2_with fail
      go_region_held3 (fun w' => (w'.cell? ⟨g, k * 4, none⟩ = some (.int .i64 kk) ∧ w'.cell? ⟨g, k * 4 + 1, none⟩ = some (.string nm) ∧ w'.cell? ⟨g, k * 4 + 2, none⟩ = some (.slice xa gs.length xc) ∧ w'.cell? ⟨g, k * 4 + 3, none⟩ = some (.slice xb ex.length xd)) ∧
          (w'.cell? ⟨g', k * 4, none⟩ = some (.int .i64 kk) ∧ w'.cell? ⟨g', k * 4 + 1, none⟩ = some (.string nm) ∧ w'.cell? ⟨g', k * 4 + 2, none⟩ = some (.slice ya gs.length yc) ∧ w'.cell? ⟨g', k * 4 + 3, none⟩ = some (.slice yb ex.length yd)))
        (first | go_keep | (exact ⟨⟨(b1.cell (p := ⟨g, _, none⟩) hg).trans HC.out.1, (b1.cell (p := ⟨g, _, none⟩) hg).trans HC.out.2.1, (b1.cell (p := ⟨g, _, none⟩) hg).trans HC.out.2.2.1, (b1.cell (p := ⟨g, _, none⟩) hg).trans HC.out.2.2.2⟩, ⟨(b1.cell (p := ⟨g', _, none⟩) hg').trans HD.out.1, (b1.cell (p := ⟨g', _, none⟩) hg').trans HD.out.2.1, (b1.cell (p := ⟨g', _, none⟩) hg').trans HD.out.2.2.1, (b1.cell (p := ⟨g', _, none⟩) hg').trans HD.out.2.2.2⟩⟩))
        (first
          | (go_at_call 40; refine (HE.out _ ?_).mono ?_; exact (Below.refl wr.heap.size wr).drew; rintro e w1 ⟨rfl, b1⟩))
      all_goals
        have HB1 : Hid (Below w.heap.size w w1) := Lib.hid (HBE.out.trans ((undrew b1).mono hB))
        clear b1 c0 c1 c2 c3 d0 d1 d2 d3 HC HD
        go_wp2
        go_roundw
        case rel => exact ⟨k + 1, by omega, by go_num, HB1.out⟩
        case measure => simp [RowKit.intOf]; omega
    · go_wp2
      go_ret
      exact ⟨rfl, HBE.out⟩
end Go.Proofs.YtcnnfhcpkbjolaaDoor
