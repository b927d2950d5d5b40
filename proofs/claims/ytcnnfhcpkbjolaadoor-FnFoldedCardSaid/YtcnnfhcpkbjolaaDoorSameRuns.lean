/- The laws' sameInts and sameVisits. -/
import Derived.Test.YtcnnfhcpkbjolaaDoorRows
import Derived.Test.YtcnnfhcpkbjolaaDoorPlainR
import Derived.Outline
import Derived.Lib.Hide
import Derived.Deep.QuietTactic
import Derived.BigQuiet
import Derived.WalkSmall
import Derived.Deep.RegionHeld3
import Derived.Deep.Cut
namespace Go.Proofs.YtcnnfhcpkbjolaaDoor
open Go.RowKit Go.Lib

set_option maxHeartbeats 400000 in
theorem l_sameInts (a b : Option Addr) (c d : Nat) (l : List Int) (w : World) (ha : ReadI w a l) (hb : ReadI w b l) (hl : l.length ≤ 1048576) :
    Calls Tryd.prog 11 #[.slice a l.length c, .slice b l.length d] w fun e w' => e = .returned (.bool true) ∧ Below w.heap.size w w' := by
  have HA := Lib.hid ha
  have HB := Lib.hid hb
  clear ha hb
  go_enter Tryd.func11, Tryd.ntmps11
  go_wp2_with fail
  go_loopw [5] (fun i wr => ∃ (k q : Nat), k ≤ l.length ∧ i = .int .i64 (k : Int) ∧ wr = w.drewN q) (fun i _ => l.length - (intOf i).toNat)
  case atStart => exact ⟨0, 0, Nat.zero_le _, rfl, rfl⟩
  case round =>
    obtain ⟨k, q, hk, rfl, rfl⟩ := hrel
    by_cases hlt : k < l.length
    · obtain ⟨g, rfl, _, c1⟩ := HA.out k hlt
      obtain ⟨g', rfl, _, c2⟩ := HB.out k hlt
      have k0 : (0 : Int) ≤ (k : Int) := by omega
      have k1 : (k : Int) < (l.length : Int) := by omega
      generalize l[k] = x at c1 c2
      clear HA HB
      go_wp2_with fail
      go_quiet (fail)
      go_wp2
      go_roundw
      case rel => exact ⟨k + 1, _, by omega, by go_num, rfl⟩
      case measure => simp [intOf]; omega
    · go_wp2
      go_ret
      exact ⟨rfl, below_drewN (Below.refl _ _) q⟩

/-- A row of rows, each read. -/
def ReadV (w : World) (a : Option Addr) (X : List IvL) : Prop := ∀ j, ∀ h : j < X.length, ∃ g xa xc, a = some ⟨g, 0, none⟩ ∧ g < w.heap.size ∧ w.cell? ⟨g, j, none⟩ = some (.slice xa X[j].xs.length xc) ∧ ReadI w xa X[j].xs
theorem readV_of {TI TII B B' c : Nat} {w : World} {a : Option Addr} {X : List IvL} (h : w.ownsRow B TII 1 (.slice a X.length c) X.length (ivV X)) (hm : MadeI TI B' w X) : ReadV w a X := fun j hj => by
  obtain ⟨xa, xc, e⟩ := owns_shape (hm.1 X[j] (List.getElem_mem hj))
  rcases h.2 with ⟨_, h0⟩ | ⟨g, cap, cur, he, hB, hh, r⟩
  · omega
  · injection he with he
    subst he
    refine ⟨g, xa, xc, rfl, (blk hh).2.2, ?_, readI_of (by have h2 := hm.1 X[j] (List.getElem_mem hj); rw [e] at h2; exact h2)⟩
    have h3 := h.cellAt j (by rw [Nat.mul_one]; exact hj)
    rw [ivV_get X j hj, e] at h3
    exact h3
theorem ReadV.below {w w' : World} {a : Option Addr} {X : List IvL} (h : ReadV w a X) (hb : Below w.heap.size w w') : ReadV w' a X := fun j hj => by
  obtain ⟨g, xa, xc, e, hg, hc, hr⟩ := h j hj
  exact ⟨g, xa, xc, e, Nat.lt_of_lt_of_le hg hb.size, (hb.cell (p := ⟨g, j, none⟩) hg).trans hc, hr.below hb⟩

theorem ReadV.take {w : World} {a : Option Addr} {X : List IvL} (h : ReadV w a X) (n : Nat) : ReadV w a (X.take n) := fun j hj => by
  have hj' : j < X.length := by rw [List.length_take] at hj; omega
  have e : (X.take n)[j] = X[j] := List.getElem_take
  rw [e]
  exact h j hj'
theorem ReadI.take {w : World} {a : Option Addr} {l : List Int} (h : ReadI w a l) (n : Nat) : ReadI w a (l.take n) := fun j hj => by
  have hj' : j < l.length := by rw [List.length_take] at hj; omega
  have e : (l.take n)[j] = l[j] := List.getElem_take
  rw [e]
  exact h j hj'
theorem ivX_take (X : List IvL) (n : Nat) : ivX (X.take n) = (ivX X).take n := by simp [ivX]

set_option maxHeartbeats 400000 in
theorem l_sameVisits (a b : Option Addr) (c d : Nat) (X Y : List IvL) (w : World) (hl : X.length ≤ 1048576) (hxy : ivX X = ivX Y) (ha : ReadV w a X) (hb : ReadV w b Y) (hz : ∀ x ∈ X, x.xs.length ≤ 1048576) :
    Calls Tryd.prog 12 #[.slice a X.length c, .slice b Y.length d] w fun e w' => e = .returned (.bool true) ∧ Below w.heap.size w w' := by
  have hYL : Y.length = X.length := by rw [← ivX_length X, hxy, ivX_length]
  have HA := Lib.hid ha
  have HB := Lib.hid hb
  have HXY := Lib.hid hxy
  have HZ := Lib.hid hz
  have HYL := Lib.hid hYL
  rw [hYL]
  clear ha hb hxy hYL hz
  go_enter Tryd.func12, Tryd.ntmps12
  go_wp2_with fail
  go_loopw [5] (fun i wr => ∃ k : Nat, k ≤ X.length ∧ i = .int .i64 (k : Int) ∧ Hid (Below w.heap.size w wr)) (fun i _ => X.length - (intOf i).toNat)
  case atStart => exact ⟨0, Nat.zero_le _, rfl, Lib.hid (Below.refl _ _)⟩
  case round =>
    obtain ⟨k, hk, rfl, HBW⟩ := hrel
    by_cases hlt : k < X.length
    · have RA := Lib.hid (HA.out.below HBW.out)
      have RB := Lib.hid (HB.out.below HBW.out)
      obtain ⟨g, xa, xc, rfl, hgl, c1, r1⟩ := RA.out k hlt
      obtain ⟨g', ya, yc, rfl, hgl', c2, r2⟩ := RB.out k (by rw [HYL.out]; exact hlt)
      have hkY : k < Y.length := by rw [HYL.out]; exact hlt
      have hxe : Y[k].xs = X[k].xs := by
        have h1 := ivX_get X k hlt
        have h2 := ivX_get Y k (by rw [HYL.out]; exact hlt)
        rw [HXY.out, h2] at h1
        exact Option.some.inj h1
      rw [hxe] at c2 r2
      have hxl := HZ.out X[k] (List.getElem_mem hlt)
      generalize X[k].xs = xs at *
      have EQ := Lib.hid (fun W (hb : Below wr.heap.size wr W) => l_sameInts xa ya xc yc xs W (r1.below hb) (r2.below hb) hxl)
      have k0 : (0 : Int) ≤ (k : Int) := by omega
      have k1 : (k : Int) < (X.length : Int) := by omega
      have HCC : Hid (wr.cell? ⟨g, k, none⟩ = some (.slice xa xs.length xc) ∧ wr.cell? ⟨g', k, none⟩ = some (.slice ya xs.length yc)) := Lib.hid ⟨c1, c2⟩
      have HG : Hid (g < wr.heap.size ∧ g' < wr.heap.size) := Lib.hid ⟨hgl, hgl'⟩
      have HKP : Hid (∀ W, Below wr.heap.size wr W → W.cell? ⟨g, k, none⟩ = some (.slice xa xs.length xc) ∧ W.cell? ⟨g', k, none⟩ = some (.slice ya xs.length yc)) := Lib.hid (fun W hb => ⟨(hb.cell (p := ⟨g, k, none⟩) HG.out.1).trans HCC.out.1, (hb.cell (p := ⟨g', k, none⟩) HG.out.2).trans HCC.out.2⟩)
      clear RA RB r1 r2 hxe c1 c2 hgl hgl'
      go_wp2_with fail
      go_region_held3 (fun w' => w'.cell? ⟨g, k, none⟩ = some (.slice xa xs.length xc) ∧ w'.cell? ⟨g', k, none⟩ = some (.slice ya xs.length yc)) (first | exact HKP.out _ (Below.refl wr.heap.size wr).drew | exact HKP.out _ (undrew b4)) (first
        | (go_at_call 11; refine (EQ.out _ ?_).mono ?_; exact (Below.refl wr.heap.size wr).drew; rintro e w4 ⟨rfl, b4⟩))
      have HB4 : Hid (Below w.heap.size w w4) := Lib.hid (HBW.out.trans ((undrew b4).mono HBW.out.size))
      clear b4
      go_wp2
      go_roundw
      case rel => exact ⟨k + 1, by omega, by go_num, HB4⟩
      case measure => simp [intOf]; omega
    · go_wp2
      go_ret
      exact ⟨rfl, HBW.out⟩

end Go.Proofs.YtcnnfhcpkbjolaaDoor
