/- The model's DecodeOp. -/
import Derived.Test.YtljmkkodhnkemaaOpDecP
import Derived.Deep.RegionHeld3
import Derived.Deep.QuietTactic
import Derived.BigQuiet
import Derived.Deep.Cut
namespace Go.Proofs.Ytljmkkodhnkemaa
open Go.RowKit Go.Lib

theorem below_drwS {B : Nat} {w w' : World} (h : Below B w w') (k : Nat) : Below B w (w'.drewN k) := ⟨h.os, h.tape, h.output, h.size, h.block⟩

theorem s_dec_out (s : ByteArray) (a : Int) (w : World) (hm : s.size ≤ maxLen) (h : a < 0 ∨ (s.size : Int) ≤ a) :
    Calls Try.prog 55 #[.string s, .int .i64 a] w fun e w' => e = .returned (decV (decZ s.data.toList a)) ∧ Below w.heap.size w w' := by
  have HR : Hid (decZ s.data.toList a = none) := Lib.hid (by
    rcases h with h | h
    · exact decZ_neg _ _ h
    · exact decZ_far _ _ (by rw [list_len]; exact h))
  unfold maxLen at hm
  by_cases h1 : a < 0
  · clear h
    go_enter Try.func55, Try.ntmps55
    go_wp2
    refine bodyPost_ret (v := .tuple #[.agg #[.int .i64 0, .int .i64 0], .int .i64 0, .bool false]) (by simp [results, Try.results55, go_sem]) rfl ⟨by rw [HR.out]; rfl, ?_⟩
    exact (Below.refl _ _).alloc (Nat.le_refl _) _
  · have h2 : (s.size : Int) ≤ a := by omega
    clear h
    go_enter Try.func55, Try.ntmps55
    go_wp2
    refine bodyPost_ret (v := .tuple #[.agg #[.int .i64 0, .int .i64 0], .int .i64 0, .bool false]) (by simp [results, Try.results55, go_sem]) rfl ⟨by rw [HR.out]; rfl, ?_⟩
    exact (Below.refl _ _).alloc (Nat.le_refl _) _

set_option maxRecDepth 100000 in
set_option maxHeartbeats 2000000 in
theorem s_dec_in (s : ByteArray) (i : Nat) (w : World) (hm : s.size ≤ 4294967296) (h : i < s.size) :
    Calls Try.prog 55 #[.string s, .int .i64 (i : Int)] w fun e w' => e = .returned (decV (decZ s.data.toList (i : Int))) ∧ Below w.heap.size w w' := by
  have hl : i < s.data.toList.length := by rw [list_len]; exact h
  have HR := Lib.hid (decZ_in s.data.toList i hl)
  have hg : s.data.toList[i] = s[i]'h := rfl
  rw [hg] at HR
  have NB := Lib.hid (fun k hk hj => next_byte s.data.toList i k hk hj)
  obtain ⟨L, hL⟩ : ∃ L, s.data.toList.drop (i + 1) = L := ⟨_, rfl⟩
  have hLl : L.length = s.size - (i + 1) := by rw [← hL, List.length_drop, list_len]
  rw [hL] at HR NB
  have S := Lib.hid (fun W => s_size ((s[i]'h).toNat : Int) W)
  have WD := Lib.hid (fun W => s_wid ((s[i]'h).toNat : Int) W)
  have hb := (s[i]'h).toNat_lt
  have hwc : wrap64 ((s[i]'h).toNat : Int) = ((s[i]'h).toNat : Int) := by unfold wrap64; omega
  obtain ⟨c, hc⟩ : ∃ c : Int, ((s[i]'h).toNat : Int) = c := ⟨_, rfl⟩
  rw [hc] at HR S WD
  have hc0 : 0 ≤ c := by omega
  have hc1 : c < 256 := by omega
  have HC := Lib.hid hc
  have FC := Lib.hid (fit_cases c)
  have hw4 := widN_le c
  have HSZ := Lib.hid (sizZ_zero c hc0)
  have HSC := Lib.hid (sizZ_code c hc0)
  have HV0 : Hid (valB (L.take 0) = 0) := Lib.hid rfl
  obtain ⟨m, hme⟩ : ∃ m : Nat, widN c = m := ⟨_, rfl⟩
  obtain ⟨sg, hsg⟩ : ∃ sg, sgnB c = sg := ⟨_, rfl⟩
  obtain ⟨sz, hsz⟩ : ∃ sz, sizZ c = sz := ⟨_, rfl⟩
  rw [hsz] at S HSZ HSC
  have HSG := Lib.hid hsg
  have HM := Lib.hid hme
  rw [hme] at HR WD FC hw4 HSC
  rw [hsg] at WD FC
  have HL := Lib.hid hL
  have HLL := Lib.hid hLl
  have hi1 : (i : Int) < (s.size : Int) := by omega
  have hi0 : (0 : Int) ≤ (i : Int) := by omega
  have hmi : (s.size : Int) ≤ 4294967296 := by omega
  clear hc hb hg hl hL hLl hme hsg hsz
  by_cases h17 : 17 < c
  · have hz : sz = 0 := HSZ.out.2 h17
    subst hz
    have HN : Hid (decZ s.data.toList (i : Int) = none) := Lib.hid (by rw [HR.out, if_neg (fun hh => by omega)])
    clear HSZ HSC
    go_enter Try.func55, Try.ntmps55
    go_wp2_with fail
    rw [HC.out]
    refine (WD.out _).mono ?_
    rintro e w' ⟨rfl, rfl⟩
    go_wp2_with fail
    refine (S.out _).mono ?_
    rintro e w' ⟨rfl, rfl⟩
    go_wp2_with fail
    refine bodyPost_ret (v := .tuple #[.agg #[.int .i64 0, .int .i64 0], .int .i64 0, .bool false]) (by simp [results, Try.results55, go_sem]) rfl ⟨by rw [HN.out]; rfl, ?_⟩
    exact ((Below.refl _ _).alloc (Nat.le_refl _) _).alloc (by simp) _
  have h17' : c ≤ 17 := by omega
  have hsz : sz = 1 + (m : Int) := HSC.out h17'
  have hz : (sz == 0) = false := beq_eq_false_iff_ne.2 (by omega)
  clear hsz h17 HSZ HSC
  by_cases hfar : (s.size : Int) < (i : Int) + 1 + (m : Int)
  · have HN : Hid (decZ s.data.toList (i : Int) = none) := Lib.hid (by rw [HR.out, if_neg (fun hh => by have := HLL.out; omega)])
    go_enter Try.func55, Try.ntmps55
    go_wp2_with fail
    rw [HC.out]
    refine (WD.out _).mono ?_
    rintro e w' ⟨rfl, rfl⟩
    go_wp2_with fail
    refine (S.out _).mono ?_
    rintro e w' ⟨rfl, rfl⟩
    go_wp2_with fail
    refine bodyPost_ret (v := .tuple #[.agg #[.int .i64 0, .int .i64 0], .int .i64 0, .bool false]) (by simp [results, Try.results55, go_sem]) rfl ⟨by rw [HN.out]; rfl, ?_⟩
    exact ((Below.refl _ _).alloc (Nat.le_refl _) _).alloc (by simp) _
  have hnear : (i : Int) + 1 + (m : Int) ≤ (s.size : Int) := by omega
  have HN : Hid (decZ s.data.toList (i : Int) = some (⟨c, sgnV c (valB (L.take m))⟩, 1 + m)) := Lib.hid (by rw [HR.out, if_pos ⟨h17', by have := HLL.out; omega⟩])
  clear hfar
  go_enter Try.func55, Try.ntmps55
  go_wp2_with fail
  rw [HC.out]
  clear hwc
  refine (WD.out _).mono ?_
  rintro e w' ⟨rfl, rfl⟩
  go_wp2_with fail
  refine (S.out _).mono ?_
  rintro e w' ⟨rfl, rfl⟩
  go_wp2_with fail
  have HBA : Hid (Below w.heap.size w ((w.alloc (.cells #[.int .i64 0, .int .i64 0] 93)).alloc (.cells #[.int .i64 c, .int .i64 0] 93))) := Lib.hid (((Below.refl _ _).alloc (Nat.le_refl _) _).alloc (by simp) _)
  have HK0 : Hid (((w.alloc (.cells #[.int .i64 0, .int .i64 0] 93)).alloc (.cells #[.int .i64 c, .int .i64 0] 93)).heap[w.heap.size]? = some (.cells #[.int .i64 0, .int .i64 0] 93 (0, 0))) := Lib.hid (by
    have h := ((Below.refl _ _).alloc (Nat.le_refl _) (.cells #[.int .i64 c, .int .i64 0] 93) : Below (w.alloc (.cells #[.int .i64 0, .int .i64 0] 93)).heap.size (w.alloc (.cells #[.int .i64 0, .int .i64 0] 93)) _).block w.heap.size (by simp)
    exact h.trans (heap_alloc_new w _))
  have HK1 : Hid (((w.alloc (.cells #[.int .i64 0, .int .i64 0] 93)).alloc (.cells #[.int .i64 c, .int .i64 0] 93)).heap[w.heap.size + 1]? = some (.cells #[.int .i64 c, .int .i64 (valB (L.take 0) : Int)] 93 (0, 0))) := Lib.hid (by
    rw [HV0.out]
    have h := heap_alloc_new (w.alloc (.cells #[.int .i64 0, .int .i64 0] 93)) (.cells #[.int .i64 c, .int .i64 0] 93)
    simpa using h)
  go_loopw [10] (fun x wr => ∃ k : Nat, k ≤ m ∧ x = .int .i64 (k : Int) ∧ wr.heap[w.heap.size]? = some (.cells #[.int .i64 0, .int .i64 0] 93 (0, 0)) ∧ wr.heap[w.heap.size + 1]? = some (.cells #[.int .i64 c, .int .i64 (valB (L.take k) : Int)] 93 (0, 0)) ∧ Below w.heap.size w wr)
    (fun x _ => m - (intOf x).toNat)
  case atStart => exact ⟨0, by omega, rfl, HK0.out, HK1.out, HBA.out⟩
  case round =>
    obtain ⟨k, hk, rfl, hq0, hq1, hbel⟩ := hrel
    have HQ0 := Lib.hid hq0
    have HQ1 := Lib.hid hq1
    have HB := Lib.hid hbel
    have hgl : w.heap.size + 1 < wr.heap.size := (blk hq1).2.2
    clear hq0 hq1 hbel
    by_cases hlt : k < m
    · have d0 : wr.cell? ⟨w.heap.size + 1, 1, none⟩ = some (.int .i64 (valB (L.take k) : Int)) := (blk HQ1.out).1 1 _ rfl
      have f0 : wr.frozen? ⟨w.heap.size + 1, 1, none⟩ = false := (blk HQ1.out).2.1 1
      have k0 : (0 : Int) ≤ (k : Int) := by omega
      have k1 : (k : Int) < (m : Int) := by omega
      have k2 : (k : Int) < 4 := by omega
      have hidx : i + 1 + k < s.data.toList.length := by rw [list_len]; omega
      have hx0 : (0 : Int) ≤ (i : Int) + 1 + (k : Int) := by omega
      have hx1 : (i : Int) + 1 + (k : Int) < (s.size : Int) := by omega
      have NBk := Lib.hid (NB.out k (by omega) hidx)
      go_wp2_with fail
      go_region
      all_goals
        have HE : Hid (wrap64 ((valB (L.take k) : Int) + wrap64 (wrap64 ((s[i + 1 + k]'(by rw [list_len] at hidx; exact hidx)).toNat : Int) * 2 ^ (8 * k))) = (valB (L.take (k + 1)) : Int)) := Lib.hid (by
          have hb := (s[i + 1 + k]'(by rw [list_len] at hidx; exact hidx)).toNat_lt
          rw [show wrap64 ((s[i + 1 + k]'(by rw [list_len] at hidx; exact hidx)).toNat : Int) = ((s[i + 1 + k]'(by rw [list_len] at hidx; exact hidx)).toNat : Int) from by unfold wrap64; omega]
          have h1 := NBk.out.1
          have h2 := NBk.out.2.1
          rw [← h1] at h2
          exact h2)
        obtain ⟨E, hE⟩ : ∃ E, wrap64 ((valB (L.take k) : Int) + wrap64 (wrap64 ((s[i + 1 + k]'(by rw [list_len] at hidx; exact hidx)).toNat : Int) * 2 ^ (8 * k))) = E := ⟨_, rfl⟩
        rw [hE] at HE
        try rw [hE]
        have HQ0' : Hid ((wr.setCell ⟨w.heap.size + 1, 1, none⟩ (.int .i64 E)).drew.heap[w.heap.size]? = some (.cells #[.int .i64 0, .int .i64 0] 93 (0, 0))) := Lib.hid ((set_other (by omega)).trans HQ0.out)
        have HQ1' : Hid ((wr.setCell ⟨w.heap.size + 1, 1, none⟩ (.int .i64 E)).drew.heap[w.heap.size + 1]? = some (.cells #[.int .i64 c, .int .i64 (valB (L.take (k + 1)) : Int)] 93 (0, 0))) := Lib.hid (by rw [← HE.out]; exact heap_setCell_at HQ1.out _)
        have HB' : Hid (Below w.heap.size w (wr.setCell ⟨w.heap.size + 1, 1, none⟩ (.int .i64 E)).drew) := Lib.hid ((HB.out.grown (grown_setCell wr (w.heap.size + 1) 1 _) (by omega) (fun j hj => by injection hj with e; omega)).drew)
        clear hE d0 f0
        go_wp2
        go_roundw
        case rel => exact ⟨k + 1, by omega, by go_num, HQ0'.out, HQ1'.out, HB'.out⟩
        case measure => simp [intOf]; omega
    · have hkm : m = k := by omega
      subst hkm
      clear hlt hk
      obtain ⟨V, hV⟩ : ∃ V : Nat, valB (L.take m) = V := ⟨_, rfl⟩
      have HV : Hid (decZ s.data.toList (i : Int) = some (⟨c, sgnV c V⟩, 1 + m)) := Lib.hid (by rw [HN.out, ← hV])
      have hVl : V < 256 ^ m := by
        have h := valB_lt (L.take m)
        rw [List.length_take, hV] at h
        exact Nat.lt_of_lt_of_le h (Nat.pow_le_pow_right (by decide) (by omega))
      rw [hV] at HQ1
      clear hV
      rcases FC.out with ⟨hm1, hm2, _, _⟩ | ⟨hm1, hm2, _, _⟩ | ⟨hm1, hm2, _, _⟩ | ⟨hm1, hm2, _, _⟩ | ⟨hm1, hm2, _, _⟩
      · have HS : Hid (sgnV c V = (V : Int)) := Lib.hid (by unfold sgnV; rw [HSG.out, hm2, if_neg (by simp)])
        subst hm2
        clear hm1 hVl
        have HX0 := HQ0
        have HX1 := HQ1
        have HBX := HB
        go_wp2_with fail
        go_quiet (fail)
        have e0 : wr.cell? ⟨w.heap.size + 1, 0, none⟩ = some (.int .i64 c) := (blk HX1.out).1 0 _ rfl
        have e1 : wr.cell? ⟨w.heap.size + 1, 1, none⟩ = some (.int .i64 (V : Int)) := (blk HX1.out).1 1 _ rfl
        have g0 : wr.cell? ⟨w.heap.size, 0, none⟩ = some (.int .i64 0) := (blk HX0.out).1 0 _ rfl
        have g1 : wr.cell? ⟨w.heap.size, 1, none⟩ = some (.int .i64 0) := (blk HX0.out).1 1 _ rfl
        have p0 : wr.frozen? ⟨w.heap.size, 0, none⟩ = false := (blk HX0.out).2.1 0
        have p1 : wr.frozen? ⟨w.heap.size, 1, none⟩ = false := (blk HX0.out).2.1 1
        go_wp2_with fail
        refine bodyPost_ret (v := .tuple #[.agg #[.int .i64 c, .int .i64 (V : Int)], .int .i64 (1 + (m : Int)), .bool true]) (by simp [results, Try.results55, go_sem, g0, g1]) rfl ⟨?_, ?_⟩
        · rw [HV.out]
          show _ = Ending.returned (.tuple #[.agg #[.int .i64 c, .int .i64 (sgnV c V)], .int .i64 ((1 + m : Nat) : Int), .bool true])
          rw [HS.out, Int.natCast_add]
          rfl
        · exact ((below_drwS HBX.out _).setCell (Nat.le_refl _) _).setCell (Nat.le_refl _) _
      · have HS : Hid (sgnV c V = (V : Int)) := Lib.hid (by unfold sgnV; rw [HSG.out, hm2, if_neg (by simp)])
        subst hm2
        clear hm1 hVl
        have HX0 := HQ0
        have HX1 := HQ1
        have HBX := HB
        go_wp2_with fail
        go_quiet (fail)
        have e0 : wr.cell? ⟨w.heap.size + 1, 0, none⟩ = some (.int .i64 c) := (blk HX1.out).1 0 _ rfl
        have e1 : wr.cell? ⟨w.heap.size + 1, 1, none⟩ = some (.int .i64 (V : Int)) := (blk HX1.out).1 1 _ rfl
        have g0 : wr.cell? ⟨w.heap.size, 0, none⟩ = some (.int .i64 0) := (blk HX0.out).1 0 _ rfl
        have g1 : wr.cell? ⟨w.heap.size, 1, none⟩ = some (.int .i64 0) := (blk HX0.out).1 1 _ rfl
        have p0 : wr.frozen? ⟨w.heap.size, 0, none⟩ = false := (blk HX0.out).2.1 0
        have p1 : wr.frozen? ⟨w.heap.size, 1, none⟩ = false := (blk HX0.out).2.1 1
        go_wp2_with fail
        refine bodyPost_ret (v := .tuple #[.agg #[.int .i64 c, .int .i64 (V : Int)], .int .i64 (1 + (m : Int)), .bool true]) (by simp [results, Try.results55, go_sem, g0, g1]) rfl ⟨?_, ?_⟩
        · rw [HV.out]
          show _ = Ending.returned (.tuple #[.agg #[.int .i64 c, .int .i64 (sgnV c V)], .int .i64 ((1 + m : Nat) : Int), .bool true])
          rw [HS.out, Int.natCast_add]
          rfl
        · exact ((below_drwS HBX.out _).setCell (Nat.le_refl _) _).setCell (Nat.le_refl _) _
      · have HS : Hid (sgnV c V = (V : Int)) := Lib.hid (by unfold sgnV; rw [HSG.out, hm2, if_neg (by simp)])
        subst hm2
        clear hm1 hVl
        have HX0 := HQ0
        have HX1 := HQ1
        have HBX := HB
        go_wp2_with fail
        go_quiet (fail)
        have e0 : wr.cell? ⟨w.heap.size + 1, 0, none⟩ = some (.int .i64 c) := (blk HX1.out).1 0 _ rfl
        have e1 : wr.cell? ⟨w.heap.size + 1, 1, none⟩ = some (.int .i64 (V : Int)) := (blk HX1.out).1 1 _ rfl
        have g0 : wr.cell? ⟨w.heap.size, 0, none⟩ = some (.int .i64 0) := (blk HX0.out).1 0 _ rfl
        have g1 : wr.cell? ⟨w.heap.size, 1, none⟩ = some (.int .i64 0) := (blk HX0.out).1 1 _ rfl
        have p0 : wr.frozen? ⟨w.heap.size, 0, none⟩ = false := (blk HX0.out).2.1 0
        have p1 : wr.frozen? ⟨w.heap.size, 1, none⟩ = false := (blk HX0.out).2.1 1
        go_wp2_with fail
        refine bodyPost_ret (v := .tuple #[.agg #[.int .i64 c, .int .i64 (V : Int)], .int .i64 (1 + (m : Int)), .bool true]) (by simp [results, Try.results55, go_sem, g0, g1]) rfl ⟨?_, ?_⟩
        · rw [HV.out]
          show _ = Ending.returned (.tuple #[.agg #[.int .i64 c, .int .i64 (sgnV c V)], .int .i64 ((1 + m : Nat) : Int), .bool true])
          rw [HS.out, Int.natCast_add]
          rfl
        · exact ((below_drwS HBX.out _).setCell (Nat.le_refl _) _).setCell (Nat.le_refl _) _
      · subst hm1
        subst hm2
        have hVl' : (V : Int) < 65536 := by
          have : (256 : Nat) ^ 2 = 65536 := by decide
          omega
        by_cases hbig : (32768 : Int) ≤ (V : Int)
        · have HS : Hid (sgnV c V = (V : Int) - 65536) := Lib.hid (by
            have : (256 : Nat) ^ 2 = 65536 := by decide
            unfold sgnV; rw [HSG.out, HM.out, this, if_pos ⟨rfl, by omega⟩]; rfl)
          have d1 : wr.cell? ⟨w.heap.size + 1, 1, none⟩ = some (.int .i64 (V : Int)) := (blk HQ1.out).1 1 _ rfl
          have f1 : wr.frozen? ⟨w.heap.size + 1, 1, none⟩ = false := (blk HQ1.out).2.1 1
          clear hVl
          go_wp2_with fail
          go_quiet (fail)
          go_wp2_with fail
          have HX0 : Hid (((wr.drewN (nq + 1)).setCell ⟨w.heap.size + 1, 1, none⟩ (.int .i64 ((V : Int) - 65536))).heap[w.heap.size]? = some (.cells #[.int .i64 0, .int .i64 0] 93 (0, 0))) := Lib.hid ((set_other (w := wr.drewN (nq + 1)) (by omega)).trans HQ0.out)
          have HX1 : Hid (((wr.drewN (nq + 1)).setCell ⟨w.heap.size + 1, 1, none⟩ (.int .i64 ((V : Int) - 65536))).heap[w.heap.size + 1]? = some (.cells #[.int .i64 c, .int .i64 ((V : Int) - 65536)] 93 (0, 0))) := Lib.hid (heap_setCell_at (w := wr.drewN (nq + 1)) HQ1.out _)
          have HBX : Hid (Below w.heap.size w ((wr.drewN (nq + 1)).setCell ⟨w.heap.size + 1, 1, none⟩ (.int .i64 ((V : Int) - 65536)))) := Lib.hid ((below_drwS HB.out (nq + 1)).grown (grown_setCell (wr.drewN (nq + 1)) (w.heap.size + 1) 1 _) (show w.heap.size ≤ wr.heap.size by omega) (fun j hj => by injection hj with e; omega))
          go_region
          all_goals
            obtain ⟨wz, hwz⟩ : ∃ wz, (wr.drewN (nq + 1)).setCell ⟨w.heap.size + 1, 1, none⟩ (.int .i64 ((V : Int) - 65536)) = wz := ⟨_, rfl⟩
            rw [hwz] at HX0 HX1 HBX
            try rw [hwz]
            clear hwz d1 f1 HQ0 HQ1 HB
            have e0 : wz.cell? ⟨w.heap.size + 1, 0, none⟩ = some (.int .i64 c) := (blk HX1.out).1 0 _ rfl
            have e1 : wz.cell? ⟨w.heap.size + 1, 1, none⟩ = some (.int .i64 ((V : Int) - 65536)) := (blk HX1.out).1 1 _ rfl
            have g0 : wz.cell? ⟨w.heap.size, 0, none⟩ = some (.int .i64 0) := (blk HX0.out).1 0 _ rfl
            have g1 : wz.cell? ⟨w.heap.size, 1, none⟩ = some (.int .i64 0) := (blk HX0.out).1 1 _ rfl
            have p0 : wz.frozen? ⟨w.heap.size, 0, none⟩ = false := (blk HX0.out).2.1 0
            have p1 : wz.frozen? ⟨w.heap.size, 1, none⟩ = false := (blk HX0.out).2.1 1
            go_wp2_with fail
            refine bodyPost_ret (v := .tuple #[.agg #[.int .i64 c, .int .i64 ((V : Int) - 65536)], .int .i64 (3), .bool true]) (by simp [results, Try.results55, go_sem, g0, g1]) rfl ⟨?_, ?_⟩
            · rw [HV.out]
              show _ = Ending.returned (.tuple #[.agg #[.int .i64 c, .int .i64 (sgnV c V)], .int .i64 ((1 + 2 : Nat) : Int), .bool true])
              rw [HS.out, Int.natCast_add]
              rfl
            · exact ((HBX.out).setCell (Nat.le_refl _) _).setCell (Nat.le_refl _) _
        · have HS : Hid (sgnV c V = (V : Int)) := Lib.hid (by
            have : (256 : Nat) ^ 2 = 65536 := by decide
            unfold sgnV; rw [HSG.out, HM.out, this, if_neg (fun h => by have := h.2; omega)])
          have d1 : wr.cell? ⟨w.heap.size + 1, 1, none⟩ = some (.int .i64 (V : Int)) := (blk HQ1.out).1 1 _ rfl
          have hd : decide ((32768 : Int) ≤ (V : Int)) = false := decide_eq_false hbig
          clear hVl hVl' hbig
          have HX0 := HQ0
          have HX1 := HQ1
          have HBX := HB
          go_wp2_with fail
          go_quiet (fail)
          have e0 : wr.cell? ⟨w.heap.size + 1, 0, none⟩ = some (.int .i64 c) := (blk HX1.out).1 0 _ rfl
          have e1 : wr.cell? ⟨w.heap.size + 1, 1, none⟩ = some (.int .i64 (V : Int)) := (blk HX1.out).1 1 _ rfl
          have g0 : wr.cell? ⟨w.heap.size, 0, none⟩ = some (.int .i64 0) := (blk HX0.out).1 0 _ rfl
          have g1 : wr.cell? ⟨w.heap.size, 1, none⟩ = some (.int .i64 0) := (blk HX0.out).1 1 _ rfl
          have p0 : wr.frozen? ⟨w.heap.size, 0, none⟩ = false := (blk HX0.out).2.1 0
          have p1 : wr.frozen? ⟨w.heap.size, 1, none⟩ = false := (blk HX0.out).2.1 1
          go_wp2_with fail
          refine bodyPost_ret (v := .tuple #[.agg #[.int .i64 c, .int .i64 (V : Int)], .int .i64 (3), .bool true]) (by simp [results, Try.results55, go_sem, g0, g1]) rfl ⟨?_, ?_⟩
          · rw [HV.out]
            show _ = Ending.returned (.tuple #[.agg #[.int .i64 c, .int .i64 (sgnV c V)], .int .i64 ((1 + 2 : Nat) : Int), .bool true])
            rw [HS.out, Int.natCast_add]
            rfl
          · exact ((below_drwS HBX.out _).setCell (Nat.le_refl _) _).setCell (Nat.le_refl _) _
      · subst hm1
        subst hm2
        have hVl' : (V : Int) < 4294967296 := by
          have : (256 : Nat) ^ 4 = 4294967296 := by decide
          omega
        by_cases hbig : (2147483648 : Int) ≤ (V : Int)
        · have HS : Hid (sgnV c V = (V : Int) - 4294967296) := Lib.hid (by
            have : (256 : Nat) ^ 4 = 4294967296 := by decide
            unfold sgnV; rw [HSG.out, HM.out, this, if_pos ⟨rfl, by omega⟩]; rfl)
          have d1 : wr.cell? ⟨w.heap.size + 1, 1, none⟩ = some (.int .i64 (V : Int)) := (blk HQ1.out).1 1 _ rfl
          have f1 : wr.frozen? ⟨w.heap.size + 1, 1, none⟩ = false := (blk HQ1.out).2.1 1
          clear hVl
          go_wp2_with fail
          go_quiet (fail)
          go_wp2_with fail
          have HX0 : Hid (((wr.drewN (nq + 1)).setCell ⟨w.heap.size + 1, 1, none⟩ (.int .i64 ((V : Int) - 4294967296))).heap[w.heap.size]? = some (.cells #[.int .i64 0, .int .i64 0] 93 (0, 0))) := Lib.hid ((set_other (w := wr.drewN (nq + 1)) (by omega)).trans HQ0.out)
          have HX1 : Hid (((wr.drewN (nq + 1)).setCell ⟨w.heap.size + 1, 1, none⟩ (.int .i64 ((V : Int) - 4294967296))).heap[w.heap.size + 1]? = some (.cells #[.int .i64 c, .int .i64 ((V : Int) - 4294967296)] 93 (0, 0))) := Lib.hid (heap_setCell_at (w := wr.drewN (nq + 1)) HQ1.out _)
          have HBX : Hid (Below w.heap.size w ((wr.drewN (nq + 1)).setCell ⟨w.heap.size + 1, 1, none⟩ (.int .i64 ((V : Int) - 4294967296)))) := Lib.hid ((below_drwS HB.out (nq + 1)).grown (grown_setCell (wr.drewN (nq + 1)) (w.heap.size + 1) 1 _) (show w.heap.size ≤ wr.heap.size by omega) (fun j hj => by injection hj with e; omega))
          go_region
          all_goals
            obtain ⟨wz, hwz⟩ : ∃ wz, (wr.drewN (nq + 1)).setCell ⟨w.heap.size + 1, 1, none⟩ (.int .i64 ((V : Int) - 4294967296)) = wz := ⟨_, rfl⟩
            rw [hwz] at HX0 HX1 HBX
            try rw [hwz]
            clear hwz d1 f1 HQ0 HQ1 HB
            have e0 : wz.cell? ⟨w.heap.size + 1, 0, none⟩ = some (.int .i64 c) := (blk HX1.out).1 0 _ rfl
            have e1 : wz.cell? ⟨w.heap.size + 1, 1, none⟩ = some (.int .i64 ((V : Int) - 4294967296)) := (blk HX1.out).1 1 _ rfl
            have g0 : wz.cell? ⟨w.heap.size, 0, none⟩ = some (.int .i64 0) := (blk HX0.out).1 0 _ rfl
            have g1 : wz.cell? ⟨w.heap.size, 1, none⟩ = some (.int .i64 0) := (blk HX0.out).1 1 _ rfl
            have p0 : wz.frozen? ⟨w.heap.size, 0, none⟩ = false := (blk HX0.out).2.1 0
            have p1 : wz.frozen? ⟨w.heap.size, 1, none⟩ = false := (blk HX0.out).2.1 1
            go_wp2_with fail
            refine bodyPost_ret (v := .tuple #[.agg #[.int .i64 c, .int .i64 ((V : Int) - 4294967296)], .int .i64 (5), .bool true]) (by simp [results, Try.results55, go_sem, g0, g1]) rfl ⟨?_, ?_⟩
            · rw [HV.out]
              show _ = Ending.returned (.tuple #[.agg #[.int .i64 c, .int .i64 (sgnV c V)], .int .i64 ((1 + 4 : Nat) : Int), .bool true])
              rw [HS.out, Int.natCast_add]
              rfl
            · exact ((HBX.out).setCell (Nat.le_refl _) _).setCell (Nat.le_refl _) _
        · have HS : Hid (sgnV c V = (V : Int)) := Lib.hid (by
            have : (256 : Nat) ^ 4 = 4294967296 := by decide
            unfold sgnV; rw [HSG.out, HM.out, this, if_neg (fun h => by have := h.2; omega)])
          have d1 : wr.cell? ⟨w.heap.size + 1, 1, none⟩ = some (.int .i64 (V : Int)) := (blk HQ1.out).1 1 _ rfl
          have hd : decide ((2147483648 : Int) ≤ (V : Int)) = false := decide_eq_false hbig
          clear hVl hVl' hbig
          have HX0 := HQ0
          have HX1 := HQ1
          have HBX := HB
          go_wp2_with fail
          go_quiet (fail)
          have e0 : wr.cell? ⟨w.heap.size + 1, 0, none⟩ = some (.int .i64 c) := (blk HX1.out).1 0 _ rfl
          have e1 : wr.cell? ⟨w.heap.size + 1, 1, none⟩ = some (.int .i64 (V : Int)) := (blk HX1.out).1 1 _ rfl
          have g0 : wr.cell? ⟨w.heap.size, 0, none⟩ = some (.int .i64 0) := (blk HX0.out).1 0 _ rfl
          have g1 : wr.cell? ⟨w.heap.size, 1, none⟩ = some (.int .i64 0) := (blk HX0.out).1 1 _ rfl
          have p0 : wr.frozen? ⟨w.heap.size, 0, none⟩ = false := (blk HX0.out).2.1 0
          have p1 : wr.frozen? ⟨w.heap.size, 1, none⟩ = false := (blk HX0.out).2.1 1
          go_wp2_with fail
          refine bodyPost_ret (v := .tuple #[.agg #[.int .i64 c, .int .i64 (V : Int)], .int .i64 (5), .bool true]) (by simp [results, Try.results55, go_sem, g0, g1]) rfl ⟨?_, ?_⟩
          · rw [HV.out]
            show _ = Ending.returned (.tuple #[.agg #[.int .i64 c, .int .i64 (sgnV c V)], .int .i64 ((1 + 4 : Nat) : Int), .bool true])
            rw [HS.out, Int.natCast_add]
            rfl
          · exact ((below_drwS HBX.out _).setCell (Nat.le_refl _) _).setCell (Nat.le_refl _) _
end Go.Proofs.Ytljmkkodhnkemaa
