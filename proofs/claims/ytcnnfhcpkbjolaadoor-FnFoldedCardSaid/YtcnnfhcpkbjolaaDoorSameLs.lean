/- The laws' sameLines: two rows of the same lines; and what the lines of a drawn program are. -/
import Derived.Test.YtcnnfhcpkbjolaaDoorSameL
import Derived.Test.YtcnnfhcpkbjolaaDoorDrawnOk
import Derived.Test.YtcnnfhcpkbjolaaDoorPlainB
import Derived.Deep.RegionHeld3
namespace Go.Proofs.YtcnnfhcpkbjolaaDoor
open Go.RowKit Go.Lib

theorem sameLB_self (p : PLine) : sameLB p p = true := (sameLB_iff p p).2 rfl
set_option maxRecDepth 100000 in
set_option maxHeartbeats 2000000 in
theorem l_sameLines (a b : Option Addr) (c d : Nat) (X Y : List LnL) (w : World) (ha : ReadL 9 83 w a X) (hb : ReadL 9 83 w b Y) (hxy : plL X = plL Y) (hl : X.length ≤ 1048576) (hz : ∀ x ∈ X, SmallL x.p) :
    Calls Tryd.prog 13 #[.slice a X.length c, .slice b Y.length d] w fun e w' => e = .returned (.bool true) ∧ Below w.heap.size w w' := by
  have hyl : Y.length = X.length := by have := congrArg List.length hxy; simpa [plL] using this.symm
  have HA := Lib.hid ha
  have HB := Lib.hid hb
  have HXY := Lib.hid hxy
  have HZ := Lib.hid hz
  rw [hyl]
  clear ha hb hxy hyl hz
  go_enter Tryd.func13, Tryd.ntmps13
  go_wp2_with fail
  go_loopw [5] (fun i wr => ∃ (k : Nat), k ≤ X.length ∧ i = .int .i64 (k : Int) ∧ Below w.heap.size w wr) (fun i _ => X.length - (RowKit.intOf i).toNat)
  case atStart => exact ⟨0, Nat.zero_le _, rfl, Below.refl _ _⟩
  case round =>
    obtain ⟨k, hk, rfl, hbel⟩ := hrel
    have HBE := Lib.hid hbel
    have hB := hbel.size
    by_cases hlt : k < X.length
    · have hlt2 : k < Y.length := by have := congrArg List.length HXY.out; simp only [plL_length] at this; omega
      have hpp : X[k].p = Y[k].p := by
        have h1 := plL_get X k hlt
        have h2 := plL_get Y k hlt2
        have h3 := HXY.out
        rw [← h1, ← h2]
        simp only [h3]
      obtain ⟨g, rfl, hg, ⟨c0, c1, c2, c3⟩, hm⟩ := (HA.out.below hbel) k hlt
      obtain ⟨g', rfl, hg', ⟨d0, d1, d2, d3⟩, hm'⟩ := (HB.out.below hbel) k hlt2
      have hzz := HZ.out _ (List.getElem_mem hlt)
      obtain ⟨x, hx⟩ : ∃ x, X[k] = x := ⟨_, rfl⟩
      obtain ⟨y, hy⟩ : ∃ y, Y[k] = y := ⟨_, rfl⟩
      rw [hx] at c0 c1 c2 c3 hm hpp hzz
      rw [hy] at d0 d1 d2 d3 hm' hpp
      obtain ⟨xa, xb, xc, xd, ea, ee, rs, rt, _, _⟩ := inMem_shape hm
      obtain ⟨ya, yb, yc, yd, fa, fe, ss, st, _, _⟩ := inMem_shape hm'
      obtain ⟨kk, nm, gs, ex, va, ve⟩ := x
      obtain ⟨kk', nm', gs', ex', va', ve'⟩ := y
      dsimp only [LnL.p] at hpp
      injection hpp with q0 q1 q2 q3
      subst q0 q1 q2 q3
      dsimp only [LnL.p] at c0 c1 c2 c3 d0 d1 d2 d3 ea ee fa fe rs rt ss st hzz
      rw [ea] at c2
      rw [ee] at c3
      rw [fa] at d2
      rw [fe] at d3
      have HE : Hid (∀ W, Below wr.heap.size wr W → Calls Tryd.prog 34 #[.agg #[.int .i64 kk, .string nm, .slice xa gs.length xc, .slice xb ex.length xd], .agg #[.int .i64 kk, .string nm, .slice ya gs.length yc, .slice yb ex.length yd]] W fun e w' => e = .returned (.bool true) ∧ Below W.heap.size W w') := Lib.hid (fun W hb => by
        have := s_sameLine ⟨kk, nm, gs, ex⟩ ⟨kk, nm, gs, ex⟩ xa ya xb yb xc yc xd yd W (rs.below hb) (ss.below hb) (rt.below hb) (st.below hb) (by have := hzz.2.1; omega) (by have := hzz.2.1; omega) (by have := hzz.2.2.2.1; omega) (by have := hzz.2.2.2.1; omega)
        rw [sameLB_self] at this
        exact this)
      have k0 : (0 : Int) ≤ (k : Int) := by omega
      have k1 : (k : Int) < (X.length : Int) := by omega
      have HC := Lib.hid (And.intro c0 (And.intro c1 (And.intro c2 c3)))
      have HD := Lib.hid (And.intro d0 (And.intro d1 (And.intro d2 d3)))
      clear hx hy hm hm' hzz rs rt ss st ea ee fa fe hbel hlt2
      go_wp2_with fail
      go_region_held3 (fun w' => (w'.cell? ⟨g, k * 4, none⟩ = some (.int .i64 kk) ∧ w'.cell? ⟨g, k * 4 + 1, none⟩ = some (.string nm) ∧ w'.cell? ⟨g, k * 4 + 2, none⟩ = some (.slice xa gs.length xc) ∧ w'.cell? ⟨g, k * 4 + 3, none⟩ = some (.slice xb ex.length xd)) ∧
          (w'.cell? ⟨g', k * 4, none⟩ = some (.int .i64 kk) ∧ w'.cell? ⟨g', k * 4 + 1, none⟩ = some (.string nm) ∧ w'.cell? ⟨g', k * 4 + 2, none⟩ = some (.slice ya gs.length yc) ∧ w'.cell? ⟨g', k * 4 + 3, none⟩ = some (.slice yb ex.length yd)))
        (first | go_keep | (exact ⟨⟨(b1.cell (p := ⟨g, _, none⟩) hg).trans HC.out.1, (b1.cell (p := ⟨g, _, none⟩) hg).trans HC.out.2.1, (b1.cell (p := ⟨g, _, none⟩) hg).trans HC.out.2.2.1, (b1.cell (p := ⟨g, _, none⟩) hg).trans HC.out.2.2.2⟩, ⟨(b1.cell (p := ⟨g', _, none⟩) hg').trans HD.out.1, (b1.cell (p := ⟨g', _, none⟩) hg').trans HD.out.2.1, (b1.cell (p := ⟨g', _, none⟩) hg').trans HD.out.2.2.1, (b1.cell (p := ⟨g', _, none⟩) hg').trans HD.out.2.2.2⟩⟩))
        (first
          | (go_at_call 34; refine (HE.out _ ?_).mono ?_; exact (Below.refl wr.heap.size wr).drew; rintro e w1 ⟨rfl, b1⟩))
      all_goals
        have HB1 : Hid (Below w.heap.size w w1) := Lib.hid (HBE.out.trans ((undrew b1).mono hB))
        clear b1 c0 c1 c2 c3 d0 d1 d2 d3 HC HD
        go_wp2
        go_roundw
        case rel => exact ⟨k + 1, by omega, by go_num, HB1.out⟩
        case measure => simp [RowKit.intOf]; omega
    · go_wp2
      go_ret
      exact ⟨rfl, HBE.out⟩
end Go.Proofs.YtcnnfhcpkbjolaaDoor
