/- The laws' markPlaceS, by shape. -/
import Derived.Test.YtakgjlpgcepnkaaPlaRow
import Derived.Test.YtakgjlpgcepnkaaMkdA
import Derived.Deep.QuietTactic
import Derived.BigQuiet
namespace Go.Proofs.Ytakgjlpgcepnkaa
open Go.RowKit Go.Lib

def ShP (lo hi : Nat) (w : World) (a : Option Addr) (X : List VPl) : Prop := ∀ j (h : j < X.length), ∃ g xa xc, a = some ⟨g, 0, none⟩ ∧ lo ≤ g ∧ g < hi ∧ X[j].x.v = .slice xa X[j].x.p.chain.length xc ∧
  (∃ t0 t1 t2 t3 t4 t6 t7, w.cell? ⟨g, j * 8, none⟩ = some (.int .i64 t0) ∧ w.cell? ⟨g, j * 8 + 1, none⟩ = some (.int .i64 t1) ∧ w.cell? ⟨g, j * 8 + 2, none⟩ = some (.int .i64 t2) ∧ w.cell? ⟨g, j * 8 + 3, none⟩ = some (.int .i64 t3) ∧ w.cell? ⟨g, j * 8 + 4, none⟩ = some (.bool t4) ∧ w.cell? ⟨g, j * 8 + 5, none⟩ = some (.slice xa X[j].x.p.chain.length xc) ∧ w.cell? ⟨g, j * 8 + 6, none⟩ = some (.int .i64 t6) ∧ w.cell? ⟨g, j * 8 + 7, none⟩ = some (.bool t7)) ∧ (∀ i, w.frozen? ⟨g, i, none⟩ = false) ∧ ShI lo hi w xa X[j].x.p.chain.length
theorem ShP.mkd {lo hi lo' hi' : Nat} {w w' : World} {a : Option Addr} {X : List VPl} (h : ShP lo hi w a X) (hm : Mkd lo' hi' w w') : ShP lo hi w' a X := fun j hj => by
  obtain ⟨g, xa, xc, e, h1, h2, ev, ⟨t0, t1, t2, t3, t4, t6, t7, c0, c1, c2, c3, c4, c5, c6, c7⟩, hf, hi⟩ := h j hj
  obtain ⟨y0, e0, s0⟩ := hm.cell _ _ _ c0
  obtain ⟨y1, e1, s1⟩ := hm.cell _ _ _ c1
  obtain ⟨y2, e2, s2⟩ := hm.cell _ _ _ c2
  obtain ⟨y3, e3, s3⟩ := hm.cell _ _ _ c3
  obtain ⟨y4, e4, s4⟩ := hm.cell _ _ _ c4
  obtain ⟨y5, e5, s5⟩ := hm.cell _ _ _ c5
  obtain ⟨y6, e6, s6⟩ := hm.cell _ _ _ c6
  obtain ⟨y7, e7, s7⟩ := hm.cell _ _ _ c7
  obtain ⟨z0, rfl⟩ := s0.int
  obtain ⟨z1, rfl⟩ := s1.int
  obtain ⟨z2, rfl⟩ := s2.int
  obtain ⟨z3, rfl⟩ := s3.int
  obtain ⟨z4, rfl⟩ := s4.bool
  obtain rfl := s5.slice
  obtain ⟨z6, rfl⟩ := s6.int
  obtain ⟨z7, rfl⟩ := s7.bool
  exact ⟨g, xa, xc, e, h1, h2, ev, ⟨z0, z1, z2, z3, z4, z6, z7, e0, e1, e2, e3, e4, e5, e6, e7⟩, fun i => hm.frz _ _ (World.block_lt_of_cell? w _ c0) (hf i), hi.mkd hm⟩
theorem shP_of {B TI TP c : Nat} {w : World} {a : Option Addr} {X : List VPl} (h : w.ownsRow B TP 8 (.slice a X.length c) X.length (vplV X)) (hm : MadeI TI B w (pchL X)) : ShP B w.heap.size w a X := fun j hj => by
  have hc := hm.1 ⟨X[j].x.p.chain, X[j].x.v⟩ (by unfold pchL; exact List.mem_map.2 ⟨X[j], List.getElem_mem hj, rfl⟩)
  obtain ⟨xa, xc, hx⟩ := owns_shape hc
  dsimp only at hc hx
  rw [hx] at hc
  obtain ⟨g, hg⟩ : ∃ g, a = some ⟨g, 0, none⟩ := by
    rcases h.2 with ⟨_, h0⟩ | ⟨g, cap, cur, e, _⟩
    · omega
    · injection e with e; exact ⟨g, e⟩
  subst hg
  have ce : ∀ i, i < 8 → w.cell? ⟨g, j * 8 + i, none⟩ = (vplC X[j])[i]? := fun i hi => by
    rw [h.cellAt (j * 8 + i) (by have := vplV_length X; omega)]
    exact vplV_at X j hj i hi
  have hl := h.lt g rfl
  refine ⟨g, xa, xc, rfl, hl.1, hl.2, hx, ⟨X[j].off, X[j].x.p.code, X[j].x.p.arg, X[j].x.p.line, X[j].x.p.start, X[j].x.p.depth, X[j].x.p.ent, ce 0 (by omega), ce 1 (by omega), ce 2 (by omega), ce 3 (by omega), ce 4 (by omega), ?_, ce 6 (by omega), ce 7 (by omega)⟩, fun i => h.frozenAt i, shI_of hc⟩
  rw [ce 5 (by omega), ← hx]
  rfl
def sumV (X : List VPl) : Nat := (X.map fun y => y.x.p.chain.length).sum
theorem sumV_next (l : List VPl) (k : Nat) (h : k < l.length) : sumV (l.take (k + 1)) = sumV (l.take k) + l[k].x.p.chain.length := by
  unfold sumV
  rw [List.take_succ_eq_append_getElem h, List.map_append, List.sum_append]
  simp
theorem sumV_le (X : List VPl) (k : Nat) : sumV (X.take k) ≤ sumV X := by
  have e : sumV X = sumV (X.take k) + sumV (X.drop k) := by unfold sumV; rw [← List.sum_append, ← List.map_append, List.take_append_drop]
  omega
set_option maxRecDepth 100000 in
set_option maxHeartbeats 4000000 in
theorem l_markPlaceS (lo hi : Nat) (a : Option Addr) (X : List VPl) (c m : Nat) (w : World) (hs : ShP lo hi w a X) (hl : X.length ≤ 1048576) (h1 : m + 7 * X.length + sumV X ≤ 15000000) (hx : ∀ x ∈ X, x.x.p.chain.length ≤ 1048576) :
    Calls Try.prog 19 #[.slice a X.length c, .int .i64 (m : Int)] w fun e w' => e = .returned (.int .i64 ((m + 7 * X.length + sumV X : Nat) : Int)) ∧ Mkd lo hi w w' := by
  have HS := Lib.hid hs
  have HX := Lib.hid hx
  have HMO := Lib.hid (fun k => sumV_le X k)
  clear hs hx
  go_enter Try.func19, Try.ntmps19
  go_wp2_with fail
  go_loopw [1, 5] (fun x i wr => ∃ k : Nat, k ≤ X.length ∧ i = .int .i64 (k : Int) ∧ x = .int .i64 ((m + 7 * k + sumV (X.take k) : Nat) : Int) ∧ Hid (Mkd lo hi w wr)) (fun _ i _ => X.length - (intOf i).toNat)
  case atStart => exact ⟨0, Nat.zero_le _, rfl, by rw [List.take_zero]; rfl, Lib.hid (Mkd.refl _ _ _)⟩
  case round =>
    obtain ⟨k, hk, rfl, rfl, HM⟩ := hrel
    by_cases hlt : k < X.length
    · have k0 : (0 : Int) ≤ (k : Int) := by omega
      have k1 : (k : Int) < (X.length : Int) := by omega
      have HN := Lib.hid (sumV_next X k hlt)
      have HN1 := Lib.hid (HMO.out (k + 1))
      have hkk := HMO.out k
      have hyl := Lib.hid (HX.out _ (List.getElem_mem hlt))
      have HSK := Lib.hid (fun (W : World) (hm : Mkd lo hi w W) => (HS.out.mkd hm) k hlt)
      obtain ⟨y, hy⟩ : ∃ y, X[k] = y := ⟨_, rfl⟩
      rw [hy] at HN hyl HSK
      clear hy
      obtain ⟨S, hS⟩ : ∃ S, sumV (X.take k) = S := ⟨_, rfl⟩
      rw [hS] at HN hkk
      have HSS := Lib.hid hS
      rw [hS]
      clear hS
      obtain ⟨M, hM⟩ : ∃ M, m + 7 * k + S = M := ⟨_, rfl⟩
      have HMM := Lib.hid hM
      have mb : M ≤ 15000000 := by omega
      rw [hM]
      clear hM hkk
      obtain ⟨g, xa, xc, rfl, q1, q2, ev, ⟨t0, t1, t2, t3, t4, t6, t7, c0, c1, c2, c3, c4, c5, c6, c7⟩, hf, _⟩ := HSK.out _ HM.out
      obtain ⟨n, hn⟩ : ∃ n, y.x.p.chain.length = n := ⟨_, rfl⟩
      rw [hn] at HN hyl HSK c5 ev
      clear hn
      have M1 := Mkd.set q1 q2 c0 (v := .int .i64 (M : Int)) (Shp.ints _ _)
      obtain ⟨y1, d1, s1⟩ := M1.cell _ _ _ c1
      have M2 := M1.trans (Mkd.set q1 q2 d1 (v := .int .i64 ((M : Int) + 1)) (by obtain ⟨t, rfl⟩ := s1.int; exact Shp.ints _ _))
      obtain ⟨y2, d2, s2⟩ := M2.cell _ _ _ c2
      have M3 := M2.trans (Mkd.set q1 q2 d2 (v := .int .i64 ((M : Int) + 1 + 1)) (by obtain ⟨t, rfl⟩ := s2.int; exact Shp.ints _ _))
      obtain ⟨y3, d3, s3⟩ := M3.cell _ _ _ c3
      have M4 := M3.trans (Mkd.set q1 q2 d3 (v := .int .i64 ((M : Int) + 1 + 1 + 1)) (by obtain ⟨t, rfl⟩ := s3.int; exact Shp.ints _ _))
      obtain ⟨y4, d4, s4⟩ := M4.cell _ _ _ c4
      have M5 := fun b : Bool => M4.trans (Mkd.set q1 q2 d4 (v := .bool b) (by obtain ⟨t, rfl⟩ := s4.bool; exact Shp.bools _ _))
      have HM5 := Lib.hid (fun b : Bool => HM.out.trans (M5 b))
      have SY := Lib.hid (fun b : Bool => (by
        obtain ⟨g', xa', xc', e', _, _, ev', _, _, hsy⟩ := HSK.out _ (HM5.out b)
        rw [ev] at ev'
        injection ev' with ea _ ec
        subst ea ec
        exact l_markIntM lo hi xa n xc (M + 5) _ hsy hyl.out (by omega) : Calls Try.prog 49 #[.slice xa n xc, .int .i64 ((M + 5 : Nat) : Int)] _ fun e w' => e = .returned (.int .i64 ((M + 5 + n : Nat) : Int)) ∧ Mkd lo hi _ w'))
      rw [show ((M + 5 : Nat) : Int) = (M : Int) + 1 + 1 + 1 + 1 + 1 from by omega] at SY
      clear M1 M2 M3 M4 M5 d1 d2 d3 d4 s1 s2 s3 s4
      go_wp2_with fail
      refine (SY.out _).mono ?_
      rintro e w2 ⟨rfl, b2⟩
      have HM6 : Hid (Mkd lo hi w w2) := Lib.hid ((HM5.out _).trans b2)
      clear b2 SY HM5 c0 c1 c2 c3 c4 c5 c6 c7 hf HM
      obtain ⟨g', xa', xc', e', _, _, _, ⟨t0, t1, t2, t3, t4, t6, t7, _, _, _, _, _, _, c6, c7⟩, hf, _⟩ := HSK.out _ HM6.out
      injection e' with e'
      injection e' with e'
      subst e'
      have M1 := fun v : Int => Mkd.set q1 q2 c6 (v := .int .i64 v) (Shp.ints _ _)
      have HM7 := Lib.hid (fun (v : Int) (b : Bool) => HM6.out.trans ((M1 v).trans (by
        obtain ⟨y7, d7, s7⟩ := (M1 v).cell _ _ _ c7
        exact Mkd.set q1 q2 d7 (v := .bool b) (by obtain ⟨t, rfl⟩ := s7.bool; exact Shp.bools _ _))))
      have hn1 := hyl.out
      clear M1 HM6
      go_wp2_with fail
      go_roundw
      case rel => exact ⟨k + 1, by omega, by go_num, (by have h1 := HN.out; have h2 := HMM.out; rw [h1]; congr 2; omega), Lib.hid (HM7.out _ _)⟩
      case measure => simp [intOf]; omega
    · have hkk : k = X.length := by omega
      subst hkk
      rw [List.take_length]
      go_wp2
      go_ret
      exact ⟨rfl, HM.out⟩
end Go.Proofs.Ytakgjlpgcepnkaa
