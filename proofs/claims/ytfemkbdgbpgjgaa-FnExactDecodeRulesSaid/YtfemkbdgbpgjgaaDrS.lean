/- DecodeRules, the model's. -/
import Derived.Test.YtfemkbdgbpgjgaaDrPlain
import Derived.Test.YtfemkbdgbpgjgaaPackV
import Derived.Test.YtfemkbdgbpgjgaaVruS
import Derived.Test.YtfemkbdgbpgjgaaRuTo
namespace Go.Proofs.Ytfemkbdgbpgjgaa
open Go.RowKit Go.Lib

theorem str_of (s : ByteArray) : (⟨s.data.toList.toArray⟩ : ByteArray) = s := by apply bl_eq; simp
set_option maxRecDepth 100000 in
set_option maxHeartbeats 4000000 in
theorem s_decR (s : ByteArray) (w : World) (hm : s.size ≤ 1048576) :
    Calls Try.prog 46 #[.string s] w (DrR 61 w.heap.size (drZ s.data.toList) w) := by
  have UN := Lib.hid (fun W => s_unI s 0 W (by omega) (by decide))
  have HBAD := Lib.hid (drZ_bad s.data.toList)
  have HODD := Lib.hid (drZ_odd s.data.toList)
  have HNE := Lib.hid (drZ_ne s.data.toList)
  have HEQ := Lib.hid (drZ_eq s.data.toList)
  have hul := unZ_len s.data.toList 0
  rw [list_len] at hul HBAD
  have hub := unZ_bd s.data.toList 0
  obtain ⟨r, hr⟩ : ∃ r, unZ s.data.toList 0 = r := ⟨_, rfl⟩
  rw [hr] at UN HBAD HODD HNE HEQ hul hub
  obtain ⟨N, z, ok⟩ := r
  dsimp only at HBAD HODD HNE HEQ hul hub
  have HUB := Lib.hid hub
  obtain ⟨hN, hz⟩ := hul
  clear hr hub
  obtain ⟨nl, hnl⟩ : ∃ nl, N.length = nl := ⟨_, rfl⟩
  have HNL := Lib.hid hnl
  rw [hnl] at hN
  have TE : Hid ((nl : Int).tmod 4 = (nl : Int) % 4) := Lib.hid (Int.tmod_eq_emod_of_nonneg (by omega))
  have UN2 : Hid (∀ W, Calls Try.prog 37 #[.string s, .int .i64 0] W fun e W' => ∃ a c, e = .returned (.tuple #[.slice a nl c, .int .i64 (z : Int), .bool ok]) ∧ ReadI W' a N ∧ Below W.heap.size W W') := Lib.hid (fun W => (UN.out W).mono (by
    rintro e w' ⟨v, rfl, O, b⟩
    dsimp only at O ⊢
    obtain ⟨a, c, rfl⟩ := owns_shape O
    rw [← HNL.out]
    exact ⟨a, c, rfl, readI_of O, b⟩))
  clear UN hnl
  by_cases hbad : ok = false ∨ z ≠ s.size
  · have HV := Lib.hid (HBAD.out hbad)
    cases ok with
    | false =>
      clear hbad
      go_enter Try.func46, Try.ntmps46
      go_wp2_with fail
      refine (UN2.out _).mono ?_
      rintro e w1 ⟨a, c, rfl, rd, b1⟩
      have HB := Lib.hid b1
      have hB := b1.size
      clear b1 rd
      go_wp2
      go_ret2
      exact ret_nD (r := ([], false)) HV.out.symm ⟨_, rfl, World.ownsRow_made _ _ _ hB (by decide) (by simp), HB.out.alloc hB _⟩
    | true =>
      have hzz : ((z : Int) == (s.size : Int)) = false := beq_eq_false_iff_ne.2 (by rcases hbad with h | h; cases h; omega)
      clear hbad
      go_enter Try.func46, Try.ntmps46
      go_wp2_with fail
      refine (UN2.out _).mono ?_
      rintro e w1 ⟨a, c, rfl, rd, b1⟩
      have HB := Lib.hid b1
      have hB := b1.size
      clear b1 rd
      go_wp2
      go_ret2
      exact ret_nD (r := ([], false)) HV.out.symm ⟨_, rfl, World.ownsRow_made _ _ _ hB (by decide) (by simp), HB.out.alloc hB _⟩
  obtain rfl : ok = true := by cases ok; exact absurd (.inl rfl) hbad; rfl
  obtain rfl : z = s.size := by by_cases h : z = s.size; exact h; exact absurd (.inr h) hbad
  clear hbad HBAD
  by_cases hodd : nl % 4 = 0
  · have h4 : ((nl : Int) % 4 == 0) = true := by simp; omega
    have HN4 : Hid (N.length % 4 = 0) := Lib.hid (by rw [HNL.out]; exact hodd)
    have ht := TE.out
    obtain ⟨i0, hi, hz0, hz1, hz2⟩ := info_parts infoRu
    clear HODD hodd
    go_enter Try.func46, Try.ntmps46
    go_wp2_with fail
    refine (UN2.out _).mono ?_
    rintro e w1 ⟨a, c, rfl, rd, b1⟩
    have HB1 := Lib.hid b1
    have hB1 := b1.size
    have RD := Lib.hid rd
    clear b1 rd UN2
    go_wp2_with fail
    have hne4 : ((nl : Int) % 4 != 0) = false := by assumption
    simp only [hne4]
    clear h4 ht hne4
    go_loopw [7, 8, 9] (fun v la x wr => ∃ k : Nat, k ≤ nl ∧ Hid (k % 4 = 0) ∧ x = .int .i64 (k : Int) ∧ la = .int .i64 (lastE 0 (rdN 0 (N.take k))) ∧ wr.ownsRow w1.heap.size 61 4 v (rdN 0 (N.take k)).length (rusV (rdN 0 (N.take k))) ∧ Below w1.heap.size w1 wr)
      (fun _ _ x _ => nl - (intOf x).toNat)
    case atStart => exact ⟨0, Nat.zero_le _, Lib.hid rfl, rfl, rfl, World.ownsRow_made _ _ _ (Nat.le_refl _) (by decide) (by simp [rdN]), (Below.refl _ _).alloc (Nat.le_refl _) _⟩
    case round =>
      obtain ⟨k, hk, HK4, rfl, rfl, hown, hbel⟩ := hrel
      have HB := Lib.hid hbel
      have hB := hbel.size
      have h4 := HK4.out
      have hlen := rdN_len4 N k h4 (by rw [HNL.out]; exact hk)
      have hn4 := HN4.out
      rw [HNL.out] at hn4
      by_cases hlt : k < nl
      · have hk3 : k + 3 < nl := by omega
        have hkN : k + 3 < N.length := by rw [HNL.out]; exact hk3
        have RD2 := RD.out.below hbel
        obtain ⟨g, rfl, hg, c0⟩ := RD2 k (by omega)
        have cc : ∀ j, (hj : j < N.length) → wr.cell? ⟨g, j, none⟩ = some (.int .i64 N[j]) := fun j hj => by
          obtain ⟨g', e, _, h⟩ := RD2 j hj
          injection e with e
          injection e with e
          subst e
          exact h
        have c1 := cc (k + 1) (by omega)
        have c2 := cc (k + 2) (by omega)
        have c3 := cc (k + 3) (by omega)
        have d0 := HUB.out _ (List.getElem_mem (show k < N.length by omega))
        have d1 := HUB.out _ (List.getElem_mem (show k + 1 < N.length by omega))
        have hT := rdN_take4 N k h4 hkN
        have hE := rdN_end4 N HUB.out k h4 (by omega) (by rw [HNL.out]; omega)
        have h63 : (rdN 0 (N.take k)).length + 1 ≤ maxLen := by unfold maxLen; omega
        have hby : ((rdN 0 (N.take k)).length + 1) * 32 ≤ 140737488355328 := by omega
        obtain ⟨R, hR⟩ : ∃ R, rdN 0 (N.take k) = R := ⟨_, rfl⟩
        rw [hR] at hT hE h63 hby hown ⊢
        obtain ⟨la, hla⟩ : ∃ la, lastE 0 R = la := ⟨_, rfl⟩
        rw [hla] at hT hE ⊢
        obtain ⟨n0, hn0⟩ : ∃ x, N[k] = x := ⟨_, rfl⟩
        obtain ⟨n1, hn1⟩ : ∃ x, N[k + 1] = x := ⟨_, rfl⟩
        obtain ⟨n2, hn2⟩ : ∃ x, N[k + 2] = x := ⟨_, rfl⟩
        obtain ⟨n3, hn3⟩ : ∃ x, N[k + 3] = x := ⟨_, rfl⟩
        rw [hn0] at c0 d0 hT
        rw [hn1] at c1 d1 hT
        rw [hn2] at c2 hT
        rw [hn3] at c3 hT
        obtain ⟨e0, e1⟩ := hE
        obtain ⟨d00, d01⟩ := d0
        obtain ⟨d10, d11⟩ := d1
        have HT := Lib.hid hT
        have HLN : Hid (lastE 0 (rdN 0 (N.take (k + 4))) = la + n0 + n1) := Lib.hid (by rw [hT, lastE_snoc])
        have HK5 : Hid ((k + 4) % 4 = 0) := Lib.hid (by omega)
        have k0 : (0 : Int) ≤ (k : Int) := by omega
        have k1 : (k : Int) < (nl : Int) := by omega
        have k2 : (k : Int) + 1 < (nl : Int) := by omega
        have k3 : (k : Int) + 2 < (nl : Int) := by omega
        have k4 : (k : Int) + 3 < (nl : Int) := by omega
        have HOW := Lib.hid hown
        clear cc RD2 hT hR hla hn0 hn1 hn2 hn3 hlen h4 hn4 hown hbel
        go_wp2_with fail
        have q0 : IntKind.i64.wrap (la + n0) = la + n0 := IntWalk.i64_in _ (by omega)
        have q1 : IntKind.i64.wrap ((k : Int) + 1) = (k : Int) + 1 := IntWalk.i64_in _ (by omega)
        have q2 : IntKind.i64.wrap ((k : Int) + 2) = (k : Int) + 2 := IntWalk.i64_in _ (by omega)
        have q3 : IntKind.i64.wrap ((k : Int) + 3) = (k : Int) + 3 := IntWalk.i64_in _ (by omega)
        go_region
        clear q0 q2 q3
        obtain ⟨W2, hW2⟩ : ∃ W, (wr.alloc (.cells #[.int .i64 (la + n0), .int .i64 0, .bool (n2 == 1), .int .i64 n3] 61)).drew = W := ⟨_, rfl⟩
        have HBK : W2.heap[wr.heap.size]? = some (.cells #[.int .i64 (la + n0), .int .i64 0, .bool (n2 == 1), .int .i64 n3] 61 (0, 0)) := hW2 ▸ heap_alloc_new wr (.cells #[.int .i64 (la + n0), .int .i64 0, .bool (n2 == 1), .int .i64 n3] 61)
        have B2 : Below wr.heap.size wr W2 := hW2 ▸ ((Below.refl _ _).alloc (Nat.le_refl _) _).drew
        have hgB : g < wr.heap.size := hg
        have f0 : W2.cell? ⟨wr.heap.size, 0, none⟩ = some (.int .i64 (la + n0)) := (blk HBK).1 0 _ rfl
        have fz : W2.frozen? ⟨wr.heap.size, 1, none⟩ = false := (blk HBK).2.1 1
        have fc : W2.cell? ⟨wr.heap.size, 1, none⟩ = some (.int .i64 0) := (blk HBK).1 1 _ rfl
        have gc1 : W2.cell? ⟨g, k + 1, none⟩ = some (.int .i64 n1) := (B2.cell (p := ⟨g, k + 1, none⟩) hg).trans c1
        have HBK2 := Lib.hid HBK
        have HW2 := Lib.hid hW2
        have HB2 := Lib.hid B2
        rw [hW2]
        clear HBK hW2 B2 c0 c1 c2 c3
        go_wp2_with fail
        have q4 : IntKind.i64.wrap (la + n0 + n1) = la + n0 + n1 := IntWalk.i64_in _ (by omega)
        go_region
        clear q1 q4
        have P : Hid ((W2.setCell ⟨wr.heap.size, 1, none⟩ (.int .i64 (la + n0 + n1))).drew.heap[wr.heap.size]? = some (.cells #[.int .i64 (la + n0), .int .i64 (la + n0 + n1), .bool (n2 == 1), .int .i64 n3] 61 (0, 0))) := Lib.hid (heap_setCell_at HBK2.out (.int .i64 (la + n0 + n1)))
        have B3 : Hid (Below wr.heap.size wr (W2.setCell ⟨wr.heap.size, 1, none⟩ (.int .i64 (la + n0 + n1))).drew) := Lib.hid (HB2.out.setCell (Nat.le_refl _) _).drew
        obtain ⟨W3, hW3⟩ : ∃ W, (W2.setCell ⟨wr.heap.size, 1, none⟩ (.int .i64 (la + n0 + n1))).drew = W := ⟨_, rfl⟩
        rw [hW3] at P B3 ⊢
        have p0 : W3.cell? ⟨wr.heap.size, 0, none⟩ = some (.int .i64 (la + n0)) := (blk P.out).1 0 _ rfl
        have p1 : W3.cell? ⟨wr.heap.size, 1, none⟩ = some (.int .i64 (la + n0 + n1)) := (blk P.out).1 1 _ rfl
        have p2 : W3.cell? ⟨wr.heap.size, 2, none⟩ = some (.bool (n2 == 1)) := (blk P.out).1 2 _ rfl
        have p3 : W3.cell? ⟨wr.heap.size, 3, none⟩ = some (.int .i64 n3) := (blk P.out).1 3 _ rfl
        have hown3 := owns3_below HOW.out B3.out
        have HB4 := Lib.hid (HB.out.trans (B3.out.mono hB))
        have hB4 : w1.heap.size ≤ W3.heap.size := HB4.out.size
        have HT2 : Hid (rusV (rdN 0 (N.take (k + 4))) = rusV R ++ [.int .i64 (la + n0), .int .i64 (la + n0 + n1), .bool (n2 == 1), .int .i64 n3]) := Lib.hid (by rw [HT.out, rusV_append, rusV_one]; rfl)
        have HT3 : Hid ((rdN 0 (N.take (k + 4))).length = R.length + 1) := Lib.hid (by rw [HT.out, List.length_append]; rfl)
        clear hW3 f0 fz fc gc1 HOW HBK2 HW2 HB2
        go_wp2_with (at_builtin; refine wpList_append_own _ rfl _ _ 37 rfl w1.heap.size 61 i0 _ 4 32 Try.underlying37 hi hz0 hz1 hz2 rfl (by decide) _ _ _ rfl (hown3.alloc _) ⟨W3.heap.size, 0, none⟩ 1 1 [.int .i64 (la + n0), .int .i64 (la + n0 + n1), .bool (n2 == 1), .int .i64 n3] rfl rfl (World.news_of_block (heap_alloc_new W3 (.cells #[.int .i64 (la + n0), .int .i64 (la + n0 + n1), .bool (n2 == 1), .int .i64 n3] 61))) (fun u hu => by simp at hu; rcases hu with rfl | rfl | rfl | rfl <;> rfl) h63 hby (by simp; omega) ?_)
        intro v' w4 hown4 hgrow _
        have R5 : Hid (w4.ownsRow w1.heap.size 61 4 v' (rdN 0 (N.take (k + 4))).length (rusV (rdN 0 (N.take (k + 4))))) := Lib.hid (by rw [HT2.out, HT3.out]; exact hown4)
        have RB := Lib.hid (below_appD hown3 HB4.out hB4 hgrow)
        clear hown4 hgrow hown3 HB4 p0 p1 p2 p3
        go_wp2
        go_roundw
        case rel => exact ⟨k + 4, by omega, HK5, by go_num, by rw [HLN.out], R5.out, RB.out⟩
        case measure => simp [intOf]; omega
      · have hkn : k = nl := by omega
        have e : N.take k = N := List.take_of_length_le (by rw [HNL.out]; omega)
        rw [e] at hown hlen
        obtain ⟨va, vc, rfl⟩ := owns3_shape hown
        have ER := Lib.hid (fun W h => s_encR va vc (rdN 0 N) W (by omega) h)
        have RR := Lib.hid (readRu_of hown)
        have HOW := Lib.hid hown
        have HLE : Hid ((rdN 0 (N.take k)).length = (rdN 0 N).length) := Lib.hid (by rw [e])
        have k1 : ¬ (k : Int) < (nl : Int) := by omega
        obtain ⟨T, hT⟩ : ∃ T : ByteArray, (⟨(erZ (rdN 0 N)).toArray⟩ : ByteArray) = T := ⟨_, rfl⟩
        rw [hT] at ER
        have HT := Lib.hid hT
        have n4 := HN4.out
        clear hkn e hown hbel hlen hT hn4
        by_cases hq : T = s
        · have hd : (T.toList == s.toList) = true := by rw [hq]; simp
          have HV := Lib.hid (HEQ.out n4 (by have h := HT.out; rw [hq] at h; have := congrArg (fun b : ByteArray => b.data.toList) h; simpa using this))
          clear hq n4
          go_wp2_with fail
          refine (ER.out _ RR.out).mono ?_
          rintro e w5 ⟨rfl, b5⟩
          have HO5 := Lib.hid (owns3_below HOW.out b5)
          have HB5 := Lib.hid (HB1.out.trans ((HB.out.trans (b5.mono hB)).mono hB1))
          clear b5
          go_wp2
          go_ret2
          exact ret_nD (r := (rdN 0 N, true)) HV.out.symm ⟨_, rfl, owns_lowD HO5.out hB1, HB5.out⟩
        · have hd := str_ne _ _ hq
          have HV := Lib.hid (HNE.out (fun h => hq (by rw [← HT.out, h])))
          clear hq n4
          go_wp2_with fail
          refine (ER.out _ RR.out).mono ?_
          rintro e w5 ⟨rfl, b5⟩
          have HB5 := Lib.hid (HB1.out.trans ((HB.out.trans (b5.mono hB)).mono hB1))
          have hB5 := HB5.out.size
          clear b5
          go_wp2
          go_ret2
          exact ret_nD (r := ([], false)) HV.out.symm ⟨_, rfl, World.ownsRow_made _ _ _ hB5 (by decide) (by simp), HB5.out.alloc hB5 _⟩
  · have h4 : ((nl : Int) % 4 == 0) = false := by simp; omega
    have HV := Lib.hid (HODD.out (by rw [HNL.out]; exact hodd))
    have ht := TE.out
    clear hodd
    go_enter Try.func46, Try.ntmps46
    go_wp2_with fail
    refine (UN2.out _).mono ?_
    rintro e w1 ⟨a, c, rfl, rd, b1⟩
    have HB := Lib.hid b1
    have hB := b1.size
    clear b1 rd
    go_wp2
    go_ret2
    exact ret_nD (r := ([], false)) HV.out.symm ⟨_, rfl, World.ownsRow_made _ _ _ hB (by decide) (by simp), HB.out.alloc hB _⟩
end Go.Proofs.Ytfemkbdgbpgjgaa
