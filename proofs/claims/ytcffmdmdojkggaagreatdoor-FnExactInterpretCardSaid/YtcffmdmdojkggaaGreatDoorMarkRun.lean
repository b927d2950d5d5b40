/- The laws' own functions on rows of rows of ints, and on what a run hands back: equality, marks. -/
import Derived.Test.YtcffmdmdojkggaaGreatDoorMarkInts
import Derived.Test.YtcffmdmdojkggaaGreatDoorRunGo
import Derived.Deep.RegionHeld3
import Derived.Deep.Cut
namespace Go.Proofs.YtcffmdmdojkggaaGreatDoor
open Go.RowKit Go.Lib

theorem miN_ge (X : List IvL) : ∀ m, m ≤ miN m X := by
  induction X with
  | nil => intro m; exact Nat.le_refl _
  | cons x r ih =>
    intro m
    have h : miN m (x :: r) = miN (m + x.xs.length) r := rfl
    have := ih (m + x.xs.length)
    omega
theorem miN_app (A R : List IvL) (m : Nat) : miN m A ≤ miN m (A ++ R) := by
  have : miN m (A ++ R) = miN (miN m A) R := by simp [miN]
  rw [this]
  exact miN_ge R _
theorem miN_le (X : List IvL) (b : Nat) (h : ∀ x ∈ X, x.xs.length ≤ b) : ∀ m, miN m X ≤ m + X.length * b := by
  induction X with
  | nil => intro m; exact Nat.le_add_right _ _
  | cons x r ih =>
    intro m
    have h1 : miN m (x :: r) = miN (m + x.xs.length) r := rfl
    have h2 := ih (fun y hy => h y (List.mem_cons_of_mem _ hy)) (m + x.xs.length)
    have h3 := h x (List.mem_cons_self ..)
    rw [List.length_cons, Nat.succ_mul]
    omega
/-- A row of rows, each read. -/
def ReadII (w : World) (a : Option Addr) (X : List IvL) : Prop := ∀ j, ∀ h : j < X.length, ∃ g xa xc, a = some ⟨g, 0, none⟩ ∧ g < w.heap.size ∧ w.cell? ⟨g, j, none⟩ = some (.slice xa X[j].xs.length xc) ∧ ReadI w xa X[j].xs
theorem readII_of {TI TII B B' c : Nat} {w : World} {a : Option Addr} {X : List IvL} (h : w.ownsRow B TII 1 (.slice a X.length c) X.length (ivV X)) (hm : MadeI TI B' w X) : ReadII w a X := fun j hj => by
  obtain ⟨xa, xc, e⟩ := owns_shape (hm.1 X[j] (List.getElem_mem hj))
  rcases h.2 with ⟨_, h0⟩ | ⟨g, cap, cur, he, hB, hh, r⟩
  · omega
  · injection he with he
    subst he
    refine ⟨g, xa, xc, rfl, (blk hh).2.2, ?_, readI_of (by have h2 := hm.1 X[j] (List.getElem_mem hj); rw [e] at h2; exact h2)⟩
    have h3 := h.cellAt j (by rw [Nat.mul_one]; exact hj)
    rw [ivV_get X j hj, e] at h3
    exact h3
theorem ReadII.below {w w' : World} {a : Option Addr} {X : List IvL} (h : ReadII w a X) (hb : Below w.heap.size w w') : ReadII w' a X := fun j hj => by
  obtain ⟨g, xa, xc, e, hg, hc, hr⟩ := h j hj
  exact ⟨g, xa, xc, e, Nat.lt_of_lt_of_le hg hb.size, (hb.cell (p := ⟨g, j, none⟩) hg).trans hc, hr.below hb⟩

set_option maxHeartbeats 400000 in
theorem l_eqIntSS (a b : Option Addr) (c d : Nat) (X Y : List IvL) (w : World) (hl : X.length ≤ 1048576) (hxy : ivX X = ivX Y) (ha : ReadII w a X) (hb : ReadII w b Y) (hz : ∀ x ∈ X, x.xs.length ≤ 1048576) :
    Calls Tryz.prog 21 #[.slice a X.length c, .slice b Y.length d] w fun e w' => e = .returned (.bool true) ∧ Below w.heap.size w w' := by
  have hYL : Y.length = X.length := by rw [← ivX_length X, hxy, ivX_length]
  have HA := Lib.hid ha
  have HB := Lib.hid hb
  have HXY := Lib.hid hxy
  have HZ := Lib.hid hz
  have HYL := Lib.hid hYL
  rw [hYL]
  clear ha hb hxy hYL hz
  go_enter Tryz.func21, Tryz.ntmps21
  go_wp2_with fail
  go_loopw [5] (fun i wr => ∃ k : Nat, k ≤ X.length ∧ i = .int .i64 (k : Int) ∧ Hid (Below w.heap.size w wr)) (fun i _ => X.length - (intOf i).toNat)
  case atStart => exact ⟨0, Nat.zero_le _, rfl, Lib.hid (Below.refl _ _)⟩
  case round =>
    obtain ⟨k, hk, rfl, HBW⟩ := hrel
    by_cases hlt : k < X.length
    · have RA := Lib.hid (HA.out.below HBW.out)
      have RB := Lib.hid (HB.out.below HBW.out)
      obtain ⟨g, xa, xc, rfl, hgl, c1, r1⟩ := RA.out k hlt
      obtain ⟨g', ya, yc, rfl, hgl', c2, r2⟩ := RB.out k (by rw [HYL.out]; exact hlt)
      have hkY : k < Y.length := by rw [HYL.out]; exact hlt
      have hxe : Y[k].xs = X[k].xs := by
        have h1 := ivX_get X k hlt
        have h2 := ivX_get Y k (by rw [HYL.out]; exact hlt)
        rw [HXY.out, h2] at h1
        exact Option.some.inj h1
      rw [hxe] at c2 r2
      have hxl := HZ.out X[k] (List.getElem_mem hlt)
      generalize X[k].xs = xs at *
      have EQ := Lib.hid (fun W (hb : Below wr.heap.size wr W) => l_eqInts xa ya xc yc xs W (r1.below hb) (r2.below hb) hxl)
      have k0 : (0 : Int) ≤ (k : Int) := by omega
      have k1 : (k : Int) < (X.length : Int) := by omega
      have HCC : Hid (wr.cell? ⟨g, k, none⟩ = some (.slice xa xs.length xc) ∧ wr.cell? ⟨g', k, none⟩ = some (.slice ya xs.length yc)) := Lib.hid ⟨c1, c2⟩
      have HG : Hid (g < wr.heap.size ∧ g' < wr.heap.size) := Lib.hid ⟨hgl, hgl'⟩
      have HKP : Hid (∀ W, Below wr.heap.size wr W → W.cell? ⟨g, k, none⟩ = some (.slice xa xs.length xc) ∧ W.cell? ⟨g', k, none⟩ = some (.slice ya xs.length yc)) := Lib.hid (fun W hb => ⟨(hb.cell (p := ⟨g, k, none⟩) HG.out.1).trans HCC.out.1, (hb.cell (p := ⟨g', k, none⟩) HG.out.2).trans HCC.out.2⟩)
      clear RA RB r1 r2 hxe c1 c2 hgl hgl'
      go_wp2_with fail
      go_region_held3 (fun w' => w'.cell? ⟨g, k, none⟩ = some (.slice xa xs.length xc) ∧ w'.cell? ⟨g', k, none⟩ = some (.slice ya xs.length yc)) (first | exact HKP.out _ (Below.refl wr.heap.size wr).drew | exact HKP.out _ (undrew b4)) (first
        | (go_at_call 20; refine (EQ.out _ ?_).mono ?_; exact (Below.refl wr.heap.size wr).drew; rintro e w4 ⟨rfl, b4⟩))
      have HB4 : Hid (Below w.heap.size w w4) := Lib.hid (HBW.out.trans ((undrew b4).mono HBW.out.size))
      clear b4
      go_wp2
      go_roundw
      case rel => exact ⟨k + 1, by omega, by go_num, HB4⟩
      case measure => simp [intOf]; omega
    · go_wp2
      go_ret
      exact ⟨rfl, HBW.out⟩

theorem own_typI {B T n s : Nat} {w : World} {v : Value} {xs : List Value} (h : w.ownsRow B T s v n xs) (g : Nat) (hg : v.ownBlock = some g) : ∃ cs, w.heap[g]? = some (.cells cs T (0, 0)) := by
  rcases h.2 with ⟨rfl, _⟩ | ⟨g', cap, cur, rfl, _, hh, _⟩
  · cases hg
  · injection hg with hg
    subst hg
    exact ⟨_, hh⟩
theorem miX_get (X : List IvL) : ∀ m j, ∀ h : j < X.length, ∀ h' : j < (miX m X).length, (miX m X)[j] = ⟨mki (miN m (X.take j)) X[j].xs.length, X[j].v⟩ := by
  induction X with
  | nil => intro m j h; simp at h
  | cons x r ih =>
    intro m j h h'
    cases j with
    | zero => rfl
    | succ j =>
      have := ih (m + x.xs.length) j (by simpa using h) (by rw [miX_length]; simpa using h)
      simp only [miX, List.getElem_cons_succ, List.take_succ_cons]
      rw [this]
      rfl

set_option maxRecDepth 100000 in
set_option maxHeartbeats 1000000 in
theorem l_markIntSS (a : Option Addr) (c : Nat) (X : List IvL) (m0 B : Nat) (w : World) (hown : w.ownsRow B 24 1 (.slice a X.length c) X.length (ivV X)) (hM : MadeI 3 B w X) (hB : B ≤ w.heap.size) (hl : X.length ≤ 1048576) (hN : miN m0 X ≤ 1048576) :
    Calls Tryz.prog 27 #[.slice a X.length c, .int .i64 (m0 : Int)] w fun e w' => e = .returned (.int .i64 ((miN m0 X : Nat) : Int)) ∧ MadeI 3 B w' (miX m0 X) ∧ Below B w w' ∧
      ∀ j, j < w.heap.size → (∀ x ∈ X, x.v.ownBlock ≠ some j) → w'.heap[j]? = w.heap[j]? := by
  have HO := Lib.hid hown
  have HM := Lib.hid hM
  have HN := Lib.hid hN
  clear hown hM hN
  go_enter Tryz.func27, Tryz.ntmps27
  go_wp2_with fail
  go_loopw [1, 5] (fun x i wr => ∃ (A R : List IvL) (k m : Nat), Hid (X = A ++ R) ∧ Hid (A.length = k) ∧ Hid (miN m0 A = m) ∧ i = .int .i64 (k : Int) ∧ x = .int .i64 (m : Int) ∧ Hid (wr.ownsRow B 24 1 (.slice a X.length c) X.length (ivV X)) ∧ Hid (MadeI 3 B wr (miX m0 A ++ R)) ∧ Hid (Below B w wr) ∧ Hid (∀ j, j < w.heap.size → (∀ x ∈ X, x.v.ownBlock ≠ some j) → wr.heap[j]? = w.heap[j]?)) (fun _ i _ => X.length - (RowKit.intOf i).toNat)
  case atStart => exact ⟨[], X, 0, m0, Lib.hid rfl, Lib.hid rfl, Lib.hid rfl, rfl, rfl, HO, HM, Lib.hid (Below.refl _ _), Lib.hid (fun _ _ _ => rfl)⟩
  case round =>
    obtain ⟨A, R, k, m, HX, HK, HMK, rfl, rfl, HOW, HMA, HBE, HKP⟩ := hrel
    have hlen : k + R.length = X.length := by rw [HX.out, List.length_append, HK.out]
    cases R with
    | nil =>
      have hkk : k = X.length := by simpa using hlen
      have hXA : X = A := by simpa using HX.out
      have HF : Hid (miN m0 X = m ∧ miX m0 A ++ [] = miX m0 X) := Lib.hid ⟨by rw [hXA]; exact HMK.out, by rw [List.append_nil, hXA]⟩
      clear hXA hlen
      subst hkk
      go_wp2
      go_ret
      exact ⟨by rw [HF.out.1]; rfl, by rw [← HF.out.2]; exact HMA.out, HBE.out, HKP.out⟩
    | cons x R =>
      have hlt : k < X.length := by rw [List.length_cons] at hlen; omega
      have HNx : Hid (m + x.xs.length ≤ 1048576) := Lib.hid (by
        have h1 := miN_app (A ++ [x]) R m0
        rw [miN_snoc, HMK.out, List.append_assoc, List.singleton_append, ← HX.out] at h1
        exact Nat.le_trans h1 HN.out)
      have hm1 := HNx.out
      have hox := HMA.out.1 x (List.mem_append_right _ (List.mem_cons_self ..))
      obtain ⟨xa, xc, ea⟩ := owns_shape hox
      obtain ⟨g, he, hgB, hgw⟩ : ∃ g, a = some ⟨g, 0, none⟩ ∧ B ≤ g ∧ g < wr.heap.size := by
        rcases HOW.out.2 with ⟨_, h0⟩ | ⟨g, cap, cur, he, h1, h2, _⟩
        · omega
        · injection he with he
          exact ⟨g, he, h1, (blk h2).2.2⟩
      subst he
      have e0 : wr.cell? ⟨g, k, none⟩ = some (.slice xa x.xs.length xc) := by
        have h3 := HOW.out.cellAt k (by rw [Nat.mul_one]; exact hlt)
        have hk' : X[k] = x := by
          have : X[k]? = some x := by rw [HX.out, List.getElem?_append_right (by rw [HK.out]; exact Nat.le_refl _), HK.out, Nat.sub_self]; rfl
          rw [List.getElem?_eq_getElem hlt] at this
          exact Option.some.inj this
        rw [ivV_get X k hlt, hk', ea] at h3
        exact h3
      have HEA := Lib.hid ea
      have MI := Lib.hid (l_markInts xa xc x.xs m B wr (by rw [ea] at hox; exact hox) (by have := HBE.out.size; omega) (by omega) (by omega))
      have k0 : (0 : Int) ≤ (k : Int) := by omega
      have k1 : (k : Int) < (X.length : Int) := by omega
      clear hox ea
      go_wp2_with fail
      refine MI.out.mono ?_
      rintro e w2 ⟨rfl, O2, g2⟩
      have HG2 : Hid (wr.grownBy w2 x.v.ownBlock) := Lib.hid (by rw [HEA.out]; exact g2)
      have HOX : Hid (x.v.ownBlock = none ∨ ∃ q, x.v.ownBlock = some q ∧ B ≤ q) := Lib.hid (by
        cases hq : x.v.ownBlock with
        | none => exact .inl rfl
        | some q => exact .inr ⟨q, rfl, ((HMA.out.1 x (List.mem_append_right _ (List.mem_cons_self ..))).lt q hq).1⟩)
      have HM2 : Hid (MadeI 3 B w2 (miX m0 A ++ ⟨mki m x.xs.length, x.v⟩ :: R)) := Lib.hid (HMA.out.put HG2.out (by rw [mki_length, HEA.out]; exact O2))
      have HO2 := Lib.hid (far HOW.out HG2.out (fun q hq e => ap_types HOW.out (HMA.out.1 x (List.mem_append_right _ (List.mem_cons_self ..))) (by decide) q hq e))
      have HB2 : Hid (Below B w w2) := Lib.hid (HBE.out.grown HG2.out (by have := HBE.out.size; omega) (fun q hq => by
        rcases HOX.out with h | ⟨q', h, hB'⟩
        · rw [h] at hq; cases hq
        · rw [h] at hq; injection hq with hq; omega))
      have HK2 : Hid (∀ j, j < w.heap.size → (∀ x ∈ X, x.v.ownBlock ≠ some j) → w2.heap[j]? = w.heap[j]?) := Lib.hid (fun j hj hx => (HG2.out.block j (Nat.lt_of_lt_of_le hj HBE.out.size) (fun e => hx x (by rw [HX.out]; exact List.mem_append_right _ (List.mem_cons_self ..)) e.symm)).trans (HKP.out j hj hx))
      have HST : Hid (miX m0 (A ++ [x]) ++ R = miX m0 A ++ ⟨mki m x.xs.length, x.v⟩ :: R) := Lib.hid (by rw [← HMK.out]; exact miX_step m0 A R x)
      clear O2 g2 e0 MI
      go_wp2
      go_roundw
      case rel => exact ⟨A ++ [x], R, k + 1, m + x.xs.length, Lib.hid (by rw [HX.out, List.append_assoc]; rfl), Lib.hid (by rw [List.length_append, HK.out]; rfl), Lib.hid (by rw [miN_snoc, HMK.out]), by go_num, by go_num, HO2, Lib.hid (by rw [HST.out]; exact HM2.out), HB2, HK2⟩
      case measure => simp [RowKit.intOf]; omega

set_option maxRecDepth 100000 in
set_option maxHeartbeats 1000000 in
theorem l_heldIntSS (a : Option Addr) (c : Nat) (X : List IvL) (m0 n : Nat) (w : World) (hn : n = X.length) (hr : ReadII w a (miX m0 X)) (hl : X.length ≤ 1048576) (hN : miN m0 X ≤ 1048576) :
    Calls Tryz.prog 29 #[.slice a n c, .int .i64 (m0 : Int)] w fun e w' => e = .returned (.int .i64 ((miN m0 X : Nat) : Int)) ∧ w = w' := by
  subst hn
  have HR := Lib.hid hr
  have HN := Lib.hid hN
  clear hr hN
  go_enter Tryz.func29, Tryz.ntmps29
  go_wp2_with fail
  go_loop [1, 5] (fun x i => ∃ k : Nat, k ≤ X.length ∧ i = .int .i64 (k : Int) ∧ x = .int .i64 ((miN m0 (X.take k) : Nat) : Int)) (fun _ i => X.length - (intOf i).toNat)
  case atStart => exact ⟨0, Nat.zero_le _, rfl, rfl⟩
  case round =>
    obtain ⟨k, hk, rfl, rfl⟩ := hrel
    by_cases hlt : k < X.length
    · obtain ⟨g, xa, xc, rfl, _, c1, r1⟩ := HR.out k (by rw [miX_length]; exact hlt)
      have HT : Hid (miN m0 (X.take (k + 1)) = miN m0 (X.take k) + X[k].xs.length) := Lib.hid (by rw [List.take_succ_eq_append_getElem hlt, miN_snoc])
      have hle : miN m0 (X.take (k + 1)) ≤ 1048576 := by
        have := miN_app (X.take (k + 1)) (X.drop (k + 1)) m0
        rw [List.take_append_drop] at this
        have := HN.out
        omega
      rw [HT.out] at hle
      have hx := miX_get X m0 k hlt (by rw [miX_length]; exact hlt)
      rw [hx] at c1 r1
      simp only [mki_length] at c1 r1
      generalize X[k].xs.length = xl at *
      generalize miN m0 (X.take k) = mk at *
      have HLD := Lib.hid (l_heldInts xa xc xl mk w r1 (by omega) (by omega))
      have k0 : (0 : Int) ≤ (k : Int) := by omega
      have k1 : (k : Int) < (X.length : Int) := by omega
      have hd : decide (((mk + xl : Nat) : Int) < 0) = false := decide_eq_false (by omega)
      clear r1 hx
      go_wp2_with fail
      refine HLD.out.mono ?_
      rintro e w2 ⟨rfl, rfl⟩
      go_wp2
      go_round
      case rel => exact ⟨k + 1, by omega, by go_num, by rw [HT.out, Int.natCast_add]⟩
      case measure => simp [intOf]; omega
    · have hkk : k = X.length := by omega
      subst hkk
      rw [List.take_length]
      go_wp2
      go_ret
      exact ⟨rfl, rfl⟩

theorem miX_mem (X : List IvL) : ∀ m, ∀ y ∈ miX m X, ∃ x ∈ X, y.v = x.v := by
  induction X with
  | nil => intro m y h; cases h
  | cons x r ih =>
    intro m y h
    rcases List.mem_cons.1 h with rfl | h
    · exact ⟨x, List.mem_cons_self .., rfl⟩
    · obtain ⟨z, hz, e⟩ := ih _ y h
      exact ⟨z, List.mem_cons_of_mem _ hz, e⟩
/-- A run of bounded size. -/
def SmallR (s : RunS) : Prop := s.out.length ≤ 1000 ∧ s.vis.length ≤ 1000 ∧ ∀ v ∈ s.vis, v.length ≤ 7
theorem small_iv {X : List IvL} {s : RunS} (h : SmallR s) (hx : ivX X = s.vis) : X.length ≤ 1000 ∧ ∀ x ∈ X, x.xs.length ≤ 7 := by
  refine ⟨by rw [← ivX_length X, hx]; exact h.2.1, fun x hxx => h.2.2 _ ?_⟩
  rw [← hx]
  exact List.mem_map_of_mem hxx
theorem small_miN {X : List IvL} {s : RunS} (h : SmallR s) (hx : ivX X = s.vis) (m : Nat) : miN m X ≤ m + 7000 := by
  obtain ⟨h1, h2⟩ := small_iv h hx
  have := miN_le X 7 h2 m
  omega

set_option maxHeartbeats 400000 in
theorem l_eqRun (s : RunS) (ov vv ov2 vv2 : Value) (X X2 : List IvL) (B B2 : Nat) (val code : Int) (w : World) (h : RunR 3 24 B w s ov vv X) (h2 : RunR 3 24 B2 w s ov2 vv2 X2) (hs : SmallR s) :
    Calls Tryz.prog 8 #[.agg #[ov, vv, .int .i64 val, .int .i64 code], .agg #[ov2, vv2, .int .i64 val, .int .i64 code]] w fun e w' => e = .returned (.bool true) ∧ Below w.heap.size w w' := by
  obtain ⟨oa, oc, rfl⟩ := owns_shape h.out
  obtain ⟨va, vc, rfl⟩ := owns_shape h.vis
  obtain ⟨pa, pc, rfl⟩ := owns_shape h2.out
  obtain ⟨qa, qc, rfl⟩ := owns_shape h2.vis
  have hsm := small_iv hs h.xs
  have EO := Lib.hid (fun W (hb : Below w.heap.size w W) => l_eqInts oa pa oc pc s.out W ((readI_of h.out).below hb) ((readI_of h2.out).below hb) (by have := hs.1; omega))
  have EV := Lib.hid (fun W (hb : Below w.heap.size w W) => l_eqIntSS va qa vc qc X X2 W (by omega) (h.xs.trans h2.xs.symm) ((readII_of h.vis h.made).below hb) ((readII_of h2.vis h2.made).below hb) (fun x hx => by have := hsm.2 x hx; omega))
  have HB0 : Hid (Below w.heap.size w ((w.alloc (.cells #[.slice oa s.out.length oc, .slice va X.length vc, .int .i64 val, .int .i64 code] 27)).alloc (.cells #[.slice pa s.out.length pc, .slice qa X2.length qc, .int .i64 val, .int .i64 code] 27))) := Lib.hid (((Below.refl _ _).alloc (Nat.le_refl _) _).alloc (by simp) _)
  have HA0 := Lib.hid ((Below.heap_alloc (w.alloc (.cells #[.slice oa s.out.length oc, .slice va X.length vc, .int .i64 val, .int .i64 code] 27)) (.cells #[.slice pa s.out.length pc, .slice qa X2.length qc, .int .i64 val, .int .i64 code] 27) w.heap.size (by simp)).trans (heap_alloc_new w (.cells #[.slice oa s.out.length oc, .slice va X.length vc, .int .i64 val, .int .i64 code] 27)))
  have HA1 := Lib.hid (heap_alloc_new (w.alloc (.cells #[.slice oa s.out.length oc, .slice va X.length vc, .int .i64 val, .int .i64 code] 27)) (.cells #[.slice pa s.out.length pc, .slice qa X2.length qc, .int .i64 val, .int .i64 code] 27))
  have hsz : (w.alloc (.cells #[.slice oa s.out.length oc, .slice va X.length vc, .int .i64 val, .int .i64 code] 27)).heap.size = w.heap.size + 1 := by simp
  rw [hsz] at HA1
  have hsz2 : ((w.alloc (.cells #[.slice oa s.out.length oc, .slice va X.length vc, .int .i64 val, .int .i64 code] 27)).alloc (.cells #[.slice pa s.out.length pc, .slice qa X2.length qc, .int .i64 val, .int .i64 code] 27)).heap.size = w.heap.size + 2 := by simp
  clear h h2 hs hsm hsz
  go_enter Tryz.func8, Tryz.ntmps8
  go_wp2_with fail
  refine (EO.out _ HB0.out).mono ?_
  rintro e w1 ⟨rfl, b1⟩
  rw [hsz2] at b1
  have a0 := (b1.block _ (by omega)).trans HA0.out
  have a1 := (b1.block _ (by omega)).trans HA1.out
  have c1 : w1.cell? ⟨w.heap.size, 1, none⟩ = some (.slice va X.length vc) := (blk a0).1 1 _ rfl
  have d1 : w1.cell? ⟨w.heap.size + 1, 1, none⟩ = some (.slice qa X2.length qc) := (blk a1).1 1 _ rfl
  have z1 := b1.size
  rw [hsz2] at z1
  have HB1 : Hid (Below w.heap.size w w1) := Lib.hid (HB0.out.trans (b1.mono (by omega)))
  have A0 := Lib.hid a0
  have A1 := Lib.hid a1
  clear b1 a0 a1
  go_wp2_with fail
  refine (EV.out _ HB1.out).mono ?_
  rintro e w2 ⟨rfl, b2⟩
  have a0 := (b2.block _ (by omega)).trans A0.out
  have a1 := (b2.block _ (by omega)).trans A1.out
  have c2 : w2.cell? ⟨w.heap.size, 2, none⟩ = some (.int .i64 val) := (blk a0).1 2 _ rfl
  have d2 : w2.cell? ⟨w.heap.size + 1, 2, none⟩ = some (.int .i64 val) := (blk a1).1 2 _ rfl
  have c3 : w2.cell? ⟨w.heap.size, 3, none⟩ = some (.int .i64 code) := (blk a0).1 3 _ rfl
  have d3 : w2.cell? ⟨w.heap.size + 1, 3, none⟩ = some (.int .i64 code) := (blk a1).1 3 _ rfl
  have HB2 : Hid (Below w.heap.size w w2) := Lib.hid (HB1.out.trans (b2.mono (by omega)))
  clear b2 a0 a1 c1 d1
  go_wp2
  go_ret
  exact ⟨rfl, HB2.out⟩

set_option maxHeartbeats 400000 in
theorem l_markRun (s : RunS) (ov vv : Value) (X : List IvL) (B : Nat) (val code : Int) (w : World) (h : RunR 3 24 B w s ov vv X) (hs : SmallR s) (hB : B ≤ w.heap.size) :
    Calls Tryz.prog 11 #[.agg #[ov, vv, .int .i64 val, .int .i64 code], .int .i64 1] w fun e w' => e = .returned (.int .i64 ((miN (1 + s.out.length) X : Nat) : Int)) ∧
      RunR 3 24 B w' ⟨mki 1 s.out.length, ivX (miX (1 + s.out.length) X)⟩ ov vv (miX (1 + s.out.length) X) ∧ Below B w w' ∧ ∀ j, j < w.heap.size → ov.ownBlock ≠ some j → (∀ x ∈ X, x.v.ownBlock ≠ some j) → w'.heap[j]? = w.heap[j]? := by
  obtain ⟨oa, oc, rfl⟩ := owns_shape h.out
  obtain ⟨va, vc, rfl⟩ := owns_shape h.vis
  have hsm := small_iv hs h.xs
  have hmn := small_miN hs h.xs (1 + s.out.length)
  have hs1 := hs.1
  have H := Lib.hid h
  have HA0 := Lib.hid (heap_alloc_new w (.cells #[.slice oa s.out.length oc, .slice va X.length vc, .int .i64 val, .int .i64 code] 27))
  have HB0 : Hid (Below w.heap.size w (w.alloc (.cells #[.slice oa s.out.length oc, .slice va X.length vc, .int .i64 val, .int .i64 code] 27))) := Lib.hid ((Below.refl _ _).alloc (Nat.le_refl _) _)
  have hsz : (w.alloc (.cells #[.slice oa s.out.length oc, .slice va X.length vc, .int .i64 val, .int .i64 code] 27)).heap.size = w.heap.size + 1 := by simp
  have MO := Lib.hid (l_markInts oa oc s.out 1 B _ (h.below HB0.out).out (by omega) (by omega) (by omega))
  clear h hs
  go_enter Tryz.func11, Tryz.ntmps11
  go_wp2_with fail
  refine MO.out.mono ?_
  rintro e w1 ⟨rfl, O1, g1⟩
  have HR0 := Lib.hid (H.out.below HB0.out)
  have V1 := Lib.hid (far HR0.out.vis g1 (fun g e e' => ap_types HR0.out.out HR0.out.vis (by decide) g e' e))
  have M1 := Lib.hid (HR0.out.made.kept g1 (fun x hx g hg => HR0.out.apart x hx g hg))
  have a0 := (g1.block w.heap.size (by omega) (fun e => ne_types HR0.out.out HA0.out (by decide) e.symm)).trans HA0.out
  have c1 : w1.cell? ⟨w.heap.size, 1, none⟩ = some (.slice va X.length vc) := (blk a0).1 1 _ rfl
  have z1 := g1.size
  rw [hsz] at z1
  have O1' := Lib.hid O1
  have HB1 : Hid (Below B w w1) := Lib.hid ((HB0.out.mono hB).grown g1 (by omega) (fun j hj => (HR0.out.out.lt j hj).1))
  have HK1 : Hid (∀ j, j < w.heap.size → (Value.slice oa s.out.length oc).ownBlock ≠ some j → w1.heap[j]? = w.heap[j]?) := Lib.hid (fun j hj hne => (g1.block j (by omega) (fun e => hne e.symm)).trans (HB0.out.block j hj))
  have MS := Lib.hid (l_markIntSS va vc X (1 + s.out.length) B w1 V1.out M1.out (by omega) (by omega) (by omega))
  clear O1 g1 a0 MO
  go_wp2_with fail
  refine MS.out.mono ?_
  rintro e w2 ⟨rfl, M2, b2, k2⟩
  have hap : ∀ x ∈ X, ∀ g, x.v.ownBlock = some g → (Value.slice oa s.out.length oc).ownBlock ≠ some g := H.out.apart
  have O2 := owns_blks O1'.out (fun g hg => k2 g (O1'.out.lt g hg).2 (fun x hx e => hap x hx g e hg))
  have V2 := owns_blks V1.out (fun g hg => k2 g (V1.out.lt g hg).2 (fun x hx e => ap_types V1.out (M1.out.1 x hx) (by decide) g hg e))
  have FIN : Hid (RunR 3 24 B w2 ⟨mki 1 s.out.length, ivX (miX (1 + s.out.length) X)⟩ (.slice oa s.out.length oc) (.slice va X.length vc) (miX (1 + s.out.length) X)) := Lib.hid ⟨by rw [mki_length]; exact O2, by rw [miX_length, miV]; exact V2, rfl, M2, fun y hy => by
    obtain ⟨x, hx, e⟩ := miX_mem X _ y hy
    rw [e]
    exact H.out.apart x hx⟩
  have HB2 := Lib.hid (HB1.out.trans b2)
  have HK2 : Hid (∀ j, j < w.heap.size → (Value.slice oa s.out.length oc).ownBlock ≠ some j → (∀ x ∈ X, x.v.ownBlock ≠ some j) → w2.heap[j]? = w.heap[j]?) := Lib.hid (fun j hj h1 h2 => (k2 j (by omega) h2).trans (HK1.out j hj h1))
  clear O2 V2 M2 b2 k2 MS
  go_wp2
  go_ret
  exact ⟨rfl, FIN.out, HB2.out, HK2.out⟩

set_option maxHeartbeats 400000 in
theorem l_heldRun (no : Nat) (vis : List (List Int)) (ov vv : Value) (X : List IvL) (B : Nat) (val code : Int) (w : World) (h : RunR 3 24 B w ⟨mki 1 no, vis⟩ ov vv (miX (1 + no) X)) (hno : no ≤ 1000) (hX : X.length ≤ 1000) (hN : miN (1 + no) X ≤ 1048576) :
    Calls Tryz.prog 12 #[.agg #[ov, vv, .int .i64 val, .int .i64 code], .int .i64 1] w fun e w' => e = .returned (.int .i64 ((miN (1 + no) X : Nat) : Int)) ∧ Below w.heap.size w w' := by
  obtain ⟨oa, oc, rfl⟩ := owns_shape h.out
  obtain ⟨va, vc, rfl⟩ := owns_shape h.vis
  have HA0 := Lib.hid (heap_alloc_new w (.cells #[.slice oa (mki 1 no).length oc, .slice va (miX (1 + no) X).length vc, .int .i64 val, .int .i64 code] 27))
  have HB0 : Hid (Below w.heap.size w (w.alloc (.cells #[.slice oa (mki 1 no).length oc, .slice va (miX (1 + no) X).length vc, .int .i64 val, .int .i64 code] 27))) := Lib.hid ((Below.refl _ _).alloc (Nat.le_refl _) _)
  have HO := Lib.hid (l_heldInts oa oc no 1 _ ((readI_of h.out).below HB0.out) (by omega) (by omega))
  have HV := Lib.hid (l_heldIntSS va vc X (1 + no) X.length _ rfl ((readII_of h.vis h.made).below HB0.out) (by omega) hN)
  have hlo : (mki 1 no).length = no := mki_length _ _
  have hlv : (miX (1 + no) X).length = X.length := miX_length _ _
  simp only [hlo, hlv] at HA0 HB0 HO HV ⊢
  have c1 : (w.alloc (.cells #[.slice oa no oc, .slice va X.length vc, .int .i64 val, .int .i64 code] 27)).cell? ⟨w.heap.size, 1, none⟩ = some (.slice va X.length vc) := (blk HA0.out).1 1 _ rfl
  have hd : decide (((1 + no : Nat) : Int) < 0) = false := decide_eq_false (by omega)
  have hd2 : decide (((miN (1 + no) X : Nat) : Int) < 0) = false := decide_eq_false (by omega)
  clear h hlo hlv
  go_enter Tryz.func12, Tryz.ntmps12
  go_wp2_with fail
  refine HO.out.mono ?_
  rintro e w1 ⟨rfl, rfl⟩
  go_wp2_with fail
  refine HV.out.mono ?_
  rintro e w2 ⟨rfl, rfl⟩
  go_wp2
  go_ret
  exact ⟨rfl, HB0.out⟩
end Go.Proofs.YtcffmdmdojkggaaGreatDoor
