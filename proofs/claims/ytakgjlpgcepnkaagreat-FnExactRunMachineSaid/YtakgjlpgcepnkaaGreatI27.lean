/- Marks of spaces: rows of images; spaces; machines; Spaces as arguments of a law, and what does not hang on where a space's parts lie. -/
import Derived.Test.YtakgjlpgcepnkaaGreatI26
import Derived.Test.YtakgjlpgcepnkaaGreatI25
import Derived.Test.YtakgjlpgcepnkaaGreatI07
/-! Marks of spaces: rows of images; spaces; machines -/
namespace Go.Proofs.YtakgjlpgcepnkaaGreat
open Go.RowKit Go.Lib

set_option maxHeartbeats 2000000 in
theorem l_markImM (lo hi : Nat) (a : Option Addr) (X : List ImA) (c m : Nat) (w : World) (hs : ShM lo hi w a X) (hl : X.length ≤ 1048576) (h0 : 0 < m) (h1 : m + X.length + 3 * sumI X ≤ 5000000) (hx : ∀ x ∈ X, x.l.length ≤ 1048576) :
    Calls Tryz.prog 32 #[.slice a X.length c, .int .i64 (m : Int)] w fun e w' => e = .returned (.int .i64 ((m + X.length + 3 * sumI X : Nat) : Int)) ∧ Mkd lo hi w w' := by
  have HS := Lib.hid hs
  have HX := Lib.hid hx
  have mono : ∀ k, k ≤ X.length → sumI (X.take k) ≤ sumI X := fun k _ => by
    have e : sumI X = sumI (X.take k) + sumI (X.drop k) := by unfold sumI; rw [← List.sum_append, ← List.map_append, List.take_append_drop]
    omega
  have HMO := Lib.hid mono
  clear hs hx mono
  go_enter Tryz.func32, Tryz.ntmps32
  go_wp2_with fail
  go_loopw [1, 5] (fun x i wr => ∃ k : Nat, k ≤ X.length ∧ i = .int .i64 (k : Int) ∧ x = .int .i64 ((m + k + 3 * sumI (X.take k) : Nat) : Int) ∧ Hid (Mkd lo hi w wr)) (fun _ i _ => X.length - (intOf i).toNat)
  case atStart => exact ⟨0, Nat.zero_le _, rfl, by rw [List.take_zero]; rfl, Lib.hid (Mkd.refl _ _ _)⟩
  case round =>
    obtain ⟨k, hk, rfl, rfl, HM⟩ := hrel
    by_cases hlt : k < X.length
    · have k0 : (0 : Int) ≤ (k : Int) := by omega
      have k1 : (k : Int) < (X.length : Int) := by omega
      have HN := Lib.hid (sumI_next X k hlt)
      have HN1 := Lib.hid (HMO.out (k + 1) hlt)
      have hkk := HMO.out k hk
      have hyl := Lib.hid (HX.out _ (List.getElem_mem hlt))
      have HSK := Lib.hid (fun (W : World) (hm : Mkd lo hi w W) => (HS.out.mkd hm) k hlt)
      obtain ⟨y, hy⟩ : ∃ y, X[k] = y := ⟨_, rfl⟩
      rw [hy] at HN hyl HSK
      clear hy
      obtain ⟨S, hS⟩ : ∃ S, sumI (X.take k) = S := ⟨_, rfl⟩
      rw [hS] at HN hkk
      have HSS := Lib.hid hS
      rw [hS]
      clear hS
      have mb : m + k + 3 * S ≤ 5000000 := by omega
      obtain ⟨g, rfl, q1, q2, _⟩ := HSK.out _ HM.out
      obtain ⟨M, hM⟩ : ∃ M, m + k + 3 * S = M := ⟨_, rfl⟩
      have HMM := Lib.hid hM
      rw [hM] at mb
      rw [hM]
      have hM0 : 0 < M := by omega
      clear hM hkk
      go_wp2_with fail
      refine (l_mark _ M _ rfl hM0 (by omega)).mono ?_
      rintro e w1 ⟨rfl, b1⟩
      have HM1 : Hid (Mkd lo hi w w1) := Lib.hid (HM.out.trans (Mkd.below b1))
      clear b1
      obtain ⟨g', e', _, _, ⟨s, c0, c1⟩, hf, _⟩ := HSK.out _ HM1.out
      injection e' with e'
      injection e' with e'
      subst e'
      generalize mkT M = z
      have M1 := Mkd.set q1 q2 c0 (v := .string z) (Shp.strs _ _)
      have HM2 : Hid (Mkd lo hi w _) := Lib.hid (HM1.out.trans M1)
      obtain ⟨_, e2, _, _, ⟨_, _, c1'⟩, _, hsy⟩ := HSK.out _ HM2.out
      injection e2 with e2
      injection e2 with e2
      subst e2
      have SY := Lib.hid (l_markSymM lo hi y.a y.l.length y.c (M + 1) _ hsy hyl.out (by omega) (by have := HMM.out; have := HN1.out; have := HN.out; omega))
      rw [Int.natCast_add] at SY
      clear M1 hsy c1
      go_wp2_with fail
      refine SY.out.mono ?_
      rintro e w2 ⟨rfl, b2⟩
      have HM3 : Hid (Mkd lo hi w w2) := Lib.hid (HM2.out.trans b2)
      clear b2 SY HM2 HM1 c0 c1' hf
      go_wp2
      go_roundw
      case rel => exact ⟨k + 1, by omega, by go_num, (by have h1 := HN.out; have h2 := HMM.out; rw [h1]; congr 2; omega), HM3⟩
      case measure => simp [intOf]; omega
    · have hkk : k = X.length := by omega
      subst hkk
      rw [List.take_length]
      go_wp2
      go_ret
      exact ⟨rfl, HM.out⟩
set_option maxHeartbeats 2000000 in
theorem l_markSpM (lo hi : Nat) (a0 a1 a2 : Option Addr) (c0 c1 c2 m nb ne : Nat) (X : List ImA) (w : World) (hh : hi ≤ w.heap.size) (hs : ShM lo hi w a0 X) (hb : ShI lo hi w a1 nb) (he : ShI lo hi w a2 ne) (h0 : 0 < m) (h1 : m + X.length + 3 * sumI X ≤ 5000000) (hx : ∀ x ∈ X, x.l.length ≤ 1048576) (hl : X.length ≤ 1048576) (hnb : nb ≤ 1048576) (hne : ne ≤ 1048576) :
    Calls Tryz.prog 13 #[.agg #[.slice a0 X.length c0, .slice a1 nb c1, .slice a2 ne c2], .int .i64 (m : Int)] w fun e w' => e = .returned (.int .i64 ((m + X.length + 3 * sumI X + nb + ne : Nat) : Int)) ∧ Mkd lo hi w w' := by
  have T0 := Lib.hid (heap_alloc_new w (.cells #[.slice a0 X.length c0, .slice a1 nb c1, .slice a2 ne c2] 34))
  have TB := Lib.hid ((Below.refl w.heap.size w).alloc (Nat.le_refl _) (.cells #[.slice a0 X.length c0, .slice a1 nb c1, .slice a2 ne c2] 34))
  have M0 : Hid (Mkd lo hi w _) := Lib.hid (Mkd.below TB.out)
  have C1 := Lib.hid (l_markImM lo hi a0 X c0 m _ (hs.mkd M0.out) hl h0 h1 hx)
  have C2 := Lib.hid (fun (W : World) (hm : Mkd lo hi w W) (k : Nat) hk => l_markIntM lo hi a1 nb c1 k W (hb.mkd hm) hnb hk)
  have C3 := Lib.hid (fun (W : World) (hm : Mkd lo hi w W) (k : Nat) hk => l_markIntM lo hi a2 ne c2 k W (he.mkd hm) hne hk)
  have tz : (w.alloc (.cells #[.slice a0 X.length c0, .slice a1 nb c1, .slice a2 ne c2] 34)).heap.size = w.heap.size + 1 := by simp
  have HH := Lib.hid hh
  clear hs hb he hx
  obtain ⟨M, hM⟩ : ∃ M, m + X.length + 3 * sumI X = M := ⟨_, rfl⟩
  rw [hM] at h1 C1
  rw [hM]
  clear hM
  go_enter Tryz.func13, Tryz.ntmps13
  go_wp2_with fail
  refine C1.out.mono ?_
  rintro e w1 ⟨rfl, b1⟩
  have M1 : Hid (Mkd lo hi w w1) := Lib.hid (M0.out.trans b1)
  have P1 := Lib.hid ((b1.block (k := w.heap.size) (by rw [tz]; omega) (.inr HH.out)).trans T0.out)
  have z1 := b1.size
  rw [tz] at z1
  clear b1 tz T0 TB M0 C1
  obtain ⟨e0, e1, e2⟩ := cells3s P1.out
  go_wp2_with fail
  refine (C2.out _ M1.out M (by omega)).mono ?_
  rintro e w2 ⟨rfl, b2⟩
  have M2 : Hid (Mkd lo hi w w2) := Lib.hid (M1.out.trans b2)
  have P2 := Lib.hid ((b2.block (k := w.heap.size) (by omega) (.inr HH.out)).trans P1.out)
  clear b2 P1 M1 C2 e0 e1 e2
  obtain ⟨e0, e1, e2⟩ := cells3s P2.out
  go_wp2_with fail
  refine (C3.out _ M2.out (M + nb) (by omega)).mono ?_
  rintro e w3 ⟨rfl, b3⟩
  have M3 : Hid (Mkd lo hi w w3) := Lib.hid (M2.out.trans b3)
  clear b3 P2 M2 C3 e0 e1 e2
  go_wp2
  go_ret
  exact ⟨rfl, M3.out⟩
end Go.Proofs.YtakgjlpgcepnkaaGreat

/-! Spaces as arguments of a law, and what does not hang on where a space's parts lie. Nothing of the program -/
namespace Go.Proofs.YtakgjlpgcepnkaaGreat
open Go.RowKit Go.Lib Go.ChangeShapes Go.WideShapes Go.Deep

section
variable {H : Type} {enc : TypeId × Value → H} {P : Program} {w : World} {held : Bool}
end
/-- Images without addresses. -/
def canI (l : List (ByteArray × List SyL)) : List ImA := l.map fun p => ⟨p.1, p.2, none, 0⟩
theorem canI_len (X : List ImA) : (canI (psI X)).length = X.length := by unfold canI psI; simp
theorem spB_can (X : List ImA) (B E : List Int) : spB X B E = spB (canI (psI X)) B E := by
  match X with
  | [] => rfl
  | [_] => rfl
  | [x, y] =>
    match B with
    | [] => rfl
    | [_] => rfl
    | [b0, b1] => rfl
    | _ :: _ :: _ :: _ => rfl
  | _ :: _ :: _ :: _ => unfold spB; rw [canI_len]; rfl
end Go.Proofs.YtakgjlpgcepnkaaGreat
