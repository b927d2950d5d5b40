/- The model's ParseLine. -/
import Derived.Test.YthmllcpldgbbcaaGreatDoorFlnSpec
import Derived.Test.YthmllcpldgbbcaaGreatDoorPexSpec
import Derived.Test.YthmllcpldgbbcaaGreatDoorFieldsSpec
import Derived.Test.YthmllcpldgbbcaaGreatDoorPlainC
import Derived.Laws.AppendOwnNone
namespace Go.Proofs.YthmllcpldgbbcaaGreatDoor
open Go.RowKit Go.Lib

theorem infoStP : (Tryz.prog.info? 9).map (fun i => (i.zero, i.size, i.bytes)) = some (some (.string ⟨#[]⟩), 1, 16) := by kernel_rfl
theorem soStrS : ∀ W, (sizeOf 9).run Tryz.prog W = .ok 1 W := fun _ => by kernel_rfl
theorem s_spl (s : ByteArray) (w : World) (hm : s.size ≤ maxLen) : Calls Tryz.prog 58 #[.string s] w (Strs 9 w.heap.size (spR s).1 (spR s).2 w) := by
  by_cases h : s.size ≤ 600
  · exact s_split s w h
  · exact s_split_long s w (by omega) hm
/-- What the model's line of words is, is small. -/
theorem low_smallS (ws : List ByteArray) (hl : ws.length ≤ 24) (hz : ∀ s ∈ ws, s.size ≤ 600) : (lowS ws).args.length ≤ 2000000 ∧ (∀ s ∈ (lowS ws).args, s.size ≤ maxLen) ∧ (lowS ws).name.size ≤ maxLen ∧ (lowS ws).expr.length ≤ 1048576 ∧ NamesT (lowS ws).expr := by
  have hpe : ∀ l : List ByteArray, NamesT (peZ l).1 := fun l => by
    unfold peZ
    split
    · rename_i t ht
      split
      · exact names_max _ _ ht
      · intro j hj; simp at hj
    · intro j hj; simp at hj
  have hts : ∀ s ∈ ws.tail, s.size ≤ 600 := fun s hs => hz s (List.mem_of_mem_tail hs)
  have htl : ws.tail.length ≤ 24 := by rw [List.length_tail]; omega
  have hr : (restW (kindZ (ws.headD ⟨#[]⟩)) ws.tail).length ≤ 24 ∧ ∀ s ∈ restW (kindZ (ws.headD ⟨#[]⟩)) ws.tail, s.size ≤ 600 := by
    unfold restW
    split
    · exact ⟨by rw [List.length_tail]; omega, fun s hs => hts s (List.mem_of_mem_tail hs)⟩
    · exact ⟨htl, hts⟩
  have hn : (nameW (kindZ (ws.headD ⟨#[]⟩)) ws.tail).size ≤ 600 := by
    unfold nameW
    split
    · cases h : ws.tail with
      | nil => exact Nat.zero_le _
      | cons a b => rw [h] at hts; exact hts a (by simp)
    · exact Nat.zero_le _
  unfold lowS
  refine ⟨?_, ?_, by unfold maxLen; dsimp only; omega, ?_, ?_⟩
  · dsimp only; split
    · omega
    · simp
  · dsimp only; split
    · intro s hs; have := hr.2 s hs; unfold maxLen; omega
    · simp
  · dsimp only; split
    · simp
    · have := peZ_len (restW (kindZ (ws.headD ⟨#[]⟩)) ws.tail); omega
  · dsimp only; split
    · intro j hj; simp at hj
    · exact hpe _
theorem strs_oneS (l : List ByteArray) : ∀ u ∈ strV l, u.oneCell' = true := by
  intro u hu
  obtain ⟨s, _, rfl⟩ := List.mem_map.1 hu
  rfl
/-- The kind that the first n words have shown. -/
def kpZ (s : ByteArray) (n : Nat) : Int := if 0 ≤ kindZ s ∧ kindZ s < n then kindZ s else -1
theorem kpZ_0 (s : ByteArray) : kpZ s 0 = -1 := by unfold kpZ; rw [if_neg (by omega)]
theorem kpZ_8 (s : ByteArray) : kpZ s 8 = kindZ s := by
  have := kindZ_bd s
  unfold kpZ
  by_cases h : 0 ≤ kindZ s
  · rw [if_pos (by omega)]
  · rw [if_neg (by omega)]; omega
theorem kpZ_hit (s : ByteArray) (n : Nat) (hn : n < 8) (h : wordZ (n : Int) = s) : kpZ s (n + 1) = (n : Int) := by
  have : kindZ s = (n : Int) := by rw [← h]; exact kind_word _ (by omega) (by omega)
  unfold kpZ
  rw [if_pos (by rw [this]; omega), this]
theorem kpZ_miss (s : ByteArray) (n : Nat) (h : wordZ (n : Int) ≠ s) : kpZ s (n + 1) = kpZ s n := by
  have : kindZ s ≠ (n : Int) := fun e => h (word_kind s _ e (by omega)).1.symm
  unfold kpZ
  by_cases hk : 0 ≤ kindZ s ∧ kindZ s < n
  · rw [if_pos hk, if_pos (by omega)]
  · rw [if_neg hk, if_neg (by omega)]

set_option maxRecDepth 100000 in
set_option maxHeartbeats 4000000 in
theorem s_pline (s : ByteArray) (w : World) (hm : s.size ≤ maxLen) :
    Calls Tryz.prog 34 #[.string s] w (PlRes 9 66 w.heap.size (plZ s) w) := by
  have HB0 := Lib.hid ((Below.refl w.heap.size w).alloc (Nat.le_refl _) (.cells #[.int .i64 0, .string ⟨#[]⟩, .slice none 0 0, .slice none 0 0] 32))
  have T0 := Lib.hid (heap_alloc_new w (.cells #[.int .i64 0, .string ⟨#[]⟩, .slice none 0 0, .slice none 0 0] 32))
  have S1 := Lib.hid (fun W => s_spl s W hm)
  have HSM := Lib.hid (fun (h : (spR s).2 = true) => field_small s (spR s).1 (by rw [← h]))
  have HPN := Lib.hid (plZ_no s)
  have HPY := Lib.hid (plZ_yes s)
  have hln := spR_len s
  obtain ⟨ws, hws⟩ : ∃ x, (spR s).1 = x := ⟨_, rfl⟩
  obtain ⟨ok, hok⟩ : ∃ x, (spR s).2 = x := ⟨_, rfl⟩
  rw [hws] at S1 HSM HPN HPY hln
  rw [hok] at S1 HSM HPN HPY
  clear hws hok
  go_enter Tryz.func34, Tryz.ntmps34
  go_wp2_with fail
  refine (S1.out _).mono ?_
  rintro e w1 ⟨v, rfl, O1, b1⟩
  obtain ⟨av, cv, rfl⟩ := owns_shape O1
  have hcap := cap_of O1
  have HRD := Lib.hid (readO_of (reads_of O1))
  have tz : (w.alloc (.cells #[.int .i64 0, .string ⟨#[]⟩, .slice none 0 0, .slice none 0 0] 32)).heap.size = w.heap.size + 1 := by simp
  have z1 := b1.size
  rw [tz] at z1 b1
  have P1 := Lib.hid ((b1.block _ (by omega)).trans T0.out)
  have HB1 : Hid (Below w.heap.size w w1) := Lib.hid (HB0.out.trans (b1.mono (by omega)))
  clear tz b1 T0 HB0 O1
  have hzero : ws.length = 0 ∨ ok = false → plZ s = (zeroL, false) := fun h => HPN.out (fun e => by
    rcases h with h | h
    · exact e.2.1 (List.length_eq_zero_iff.1 h)
    · rw [h] at e; exact absurd e.1 (by decide))
  have HZ := Lib.hid hzero
  clear hzero
  by_cases hz : ws.length = 0 ∨ ok = false
  · have HX := Lib.hid (HZ.out hz)
    have d0 : w1.cell? ⟨w.heap.size, 0, none⟩ = some (.int .i64 0) := (blk P1.out).1 0 _ rfl
    have d1 : w1.cell? ⟨w.heap.size, 1, none⟩ = some (.string ⟨#[]⟩) := (blk P1.out).1 1 _ rfl
    have d2 : w1.cell? ⟨w.heap.size, 2, none⟩ = some (.slice none 0 0) := (blk P1.out).1 2 _ rfl
    have d3 : w1.cell? ⟨w.heap.size, 3, none⟩ = some (.slice none 0 0) := (blk P1.out).1 3 _ rfl
    have g10 := (blk P1.out).2.1 0
    have g11 := (blk P1.out).2.1 1
    have g12 := (blk P1.out).2.1 2
    have g13 := (blk P1.out).2.1 3
    have m1 := (blk P1.out).2.2
    cases ok with
    | false =>
      clear hz
      go_wp2
      refine bodyPost_ret (v := .tuple #[.agg #[.int .i64 0, .string ⟨#[]⟩, .slice none 0 0, .slice none 0 0], .bool false]) (by simp [results, Tryz.results34, go_sem, d0, d1, d2, d3, m1]) rfl ⟨.slice none 0 0, .slice none 0 0, by rw [HX.out]; rfl, by rw [HX.out]; exact World.ownsRow_nil _ _ _ _, by rw [HX.out]; exact World.ownsRow_nil _ _ _ _, ?_⟩
      exact (((HB1.out.setCell (by simp) _).setCell (by simp) _).setCell (by simp) _).setCell (by simp) _
    | true =>
      have hw0 : ws.length = 0 := by rcases hz with h | h; exact h; cases h
      rw [hw0]
      clear hz
      go_wp2
      refine bodyPost_ret (v := .tuple #[.agg #[.int .i64 0, .string ⟨#[]⟩, .slice none 0 0, .slice none 0 0], .bool false]) (by simp [results, Tryz.results34, go_sem, d0, d1, d2, d3, m1]) rfl ⟨.slice none 0 0, .slice none 0 0, by rw [HX.out]; rfl, by rw [HX.out]; exact World.ownsRow_nil _ _ _ _, by rw [HX.out]; exact World.ownsRow_nil _ _ _ _, ?_⟩
      exact (((HB1.out.setCell (by simp) _).setCell (by simp) _).setCell (by simp) _).setCell (by simp) _
  have hok : ok = true := by cases ok with
    | true => rfl
    | false => exact absurd (.inr rfl) hz
  subst hok
  have hw0 : 0 < ws.length := Nat.pos_of_ne_zero (fun h => hz (.inl h))
  clear hz HZ
  have HW : Hid (∀ s ∈ ws, s.size ≤ 600) := Lib.hid (HSM.out rfl)
  have HY := Lib.hid (low_smallS ws hln HW.out)
  have HPN' : Hid (¬ (lineB (lowS ws) = true ∧ lineT (lowS ws) = s) → plZ s = (zeroL, false)) := Lib.hid (fun h => HPN.out (fun e => h e.2.2))
  have HPY' : Hid (lineB (lowS ws) = true ∧ lineT (lowS ws) = s → plZ s = (lowS ws, true)) := Lib.hid (fun h => HPY.out ⟨rfl, by intro e; rw [e] at hw0; exact absurd hw0 (by decide), h⟩)
  clear HPN HPY HSM S1
  cases ws with
  | nil => exact absurd hw0 (by decide)
  | cons x r =>
  obtain ⟨g, o, rfl, c0⟩ := HRD.out 0 (by simp)
  have hgl := World.block_lt_of_cell? w1 _ c0
  dsimp only at hgl
  simp only [Nat.add_zero, List.getElem_cons_zero] at c0
  obtain ⟨n, hnn⟩ : ∃ n, (x :: r).length = n := ⟨_, rfl⟩
  rw [hnn] at hw0 hcap ⊢
  have hrl : r.length + 1 = n := by rw [← hnn]; rfl
  have hd0 : ((n : Int) == 0) = false := beq_eq_false_iff_ne.2 (by omega)
  have hn0 : (0 : Int) < (n : Int) := by omega
  have HNL : Hid (r.length + 1 = n) := Lib.hid hrl
  have hl24 : n ≤ 24 := by omega
  clear hnn hln hrl
  have X1 : Hid ((w1.alloc (.cells #[.int .i64 (kpZ x 0), .string ⟨#[]⟩, .slice none 0 0, .slice none 0 0] 32)).heap[w1.heap.size]? = some (.cells #[.int .i64 (kpZ x 0), .string ⟨#[]⟩, .slice none 0 0, .slice none 0 0] 32 (0, 0))) := Lib.hid (heap_alloc_new w1 _)
  rw [kpZ_0] at X1
  have HBx : Hid (Below w1.heap.size w1 (w1.alloc (.cells #[.int .i64 (-1), .string ⟨#[]⟩, .slice none 0 0, .slice none 0 0] 32))) := Lib.hid ((Below.refl _ _).alloc (Nat.le_refl _) _)
  have C0 := Lib.hid c0
  clear c0
  go_wp2_with fail
  go_loopw [7] (fun v wr => ∃ m : Nat, m ≤ 8 ∧ v = .int .i64 (m : Int) ∧ Hid (Below w1.heap.size w1 wr) ∧ Hid (wr.heap[w1.heap.size]? = some (.cells #[.int .i64 (kpZ x m), .string ⟨#[]⟩, .slice none 0 0, .slice none 0 0] 32 (0, 0)))) (fun v _ => 8 - (RowKit.intOf v).toNat)
  case atStart => exact ⟨0, by omega, rfl, HBx, by rw [kpZ_0]; exact X1⟩
  case round =>
    obtain ⟨m, hm8, rfl, HB2, X2⟩ := hrel
    have z2 := HB2.out.size
    have lx := (blk X2.out).2.2
    clear X1 HBx
    by_cases hlt : m < 8
    · have k1 : (m : Int) < 8 := by omega
      obtain ⟨K, hK⟩ : ∃ K, kpZ x m = K := ⟨_, rfl⟩
      have HK := Lib.hid hK
      rw [hK] at X2
      clear hK
      go_wp2_with fail
      refine (s_words _).mono ?_
      rintro e w3 ⟨g3, rfl, hg3, hc3, b3⟩
      have z3 := b3.size
      have X3 := Lib.hid ((b3.block _ lx).trans X2.out)
      have HB3 : Hid (Below w1.heap.size w1 w3) := Lib.hid (HB2.out.trans (b3.mono (by omega)))
      have c3 : w3.cell? ⟨g, o, none⟩ = some (.string x) := (HB3.out.cell (p := ⟨g, o, none⟩) hgl).trans C0.out
      have lg3 : g < w3.heap.size := by omega
      have lx3 := (blk X3.out).2.2
      clear hg3 hc3 b3 X2 HB2 lx
      obtain ⟨eq, heq⟩ : ∃ eq, ((wordZ (m : Int)).toList == x.toList) = eq := ⟨_, rfl⟩
      have HEQ := Lib.hid heq
      clear heq
      go_upto_region 8 with fail
      go_cut [36] (fun q wx => q = .bool eq ∧ Hid (Below w1.heap.size w1 wx) ∧ Hid (wx.heap[w1.heap.size]? = some (.cells #[.int .i64 K, .string ⟨#[]⟩, .slice none 0 0, .slice none 0 0] 32 (0, 0))))
      case first =>
        go_wp2_with fail
        go_region_with (first
          | (go_at_call 59; refine (s_words _).mono ?_; rintro e wW ⟨g4, rfl, hg4, hc4, b4⟩; have hcell : wW.cell? ⟨g4, m, none⟩ = some (.string (wordZ (m : Int))) := (blk hc4).1 m _ (wordsV_at m hlt); have c4 : wW.cell? ⟨g, o, none⟩ = some (.string x) := (b4.cell (p := ⟨g, o, none⟩) lg3).trans c3))
        all_goals
          have HB4 : Hid (Below w1.heap.size w1 wW) := Lib.hid (HB3.out.trans ((undrew b4).mono (by omega)))
          have X4 := Lib.hid ((b4.block _ lx3).trans X3.out)
          clear b4 hc4 hg4 hcell c4
          go_wp2_with fail
          go_meet
          exact ⟨by rw [← HEQ.out], HB4, X4⟩
      case rest =>
      obtain ⟨rfl, HB4, X4⟩ := hcut
      rename World => wW
      clear c3 lg3 lx3 X3 HB3
      have x0 : wW.cell? ⟨w1.heap.size, 0, none⟩ = some (.int .i64 K) := (blk X4.out).1 0 _ rfl
      have f0 := (blk X4.out).2.1 0
      have lx4 := (blk X4.out).2.2
      cases eq
      · have hne : wordZ (m : Int) ≠ x := fun h => by
          have := HEQ.out
          rw [h] at this
          simp at this
        have HM : Hid (kpZ x (m + 1) = K) := Lib.hid ((kpZ_miss x m hne).trans HK.out)
        clear hne
        go_wp2_with fail
        go_roundw
        case rel => exact ⟨m + 1, by omega, by go_num, HB4, by rw [HM.out]; exact X4⟩
        case measure => simp [RowKit.intOf]; omega
      · have he : wordZ (m : Int) = x := by
          apply Classical.byContradiction
          intro h
          have := HEQ.out
          rw [str_ne _ _ h] at this
          cases this
        have HM : Hid (kpZ x (m + 1) = (m : Int)) := Lib.hid (kpZ_hit x m hlt he)
        clear he
        go_wp2_with fail
        go_roundw
        case rel =>
          have hX := heap_setCell_at (j := 0) X4.out (.int .i64 (m : Int))
          exact ⟨m + 1, by omega, by go_num, Lib.hid (HB4.out.setCell (by simp) _), by rw [HM.out]; exact Lib.hid hX⟩
        case measure => simp [RowKit.intOf]; omega
    · obtain rfl : m = 8 := by omega
      rw [kpZ_8] at X2
      have HLS : Hid (lowS (x :: r) = ⟨kindZ x, nameW (kindZ x) r, if kindZ x = 0 then restW (kindZ x) r else [], if kindZ x = 0 then [] else (peZ (restW (kindZ x) r)).1⟩) := Lib.hid rfl
      obtain ⟨kb1, kb7⟩ := kindZ_bd x
      obtain ⟨k, hk⟩ : ∃ k, kindZ x = k := ⟨_, rfl⟩
      rw [hk] at X2 HLS kb1 kb7
      clear hk hlt
      go_wp2_with fail
      refine (s_words _).mono ?_
      rintro e w3 ⟨g3, rfl, hg3, hc3, b3⟩
      have z3 := b3.size
      have X3 := Lib.hid ((b3.block _ lx).trans X2.out)
      have HB3' : Hid (Below w1.heap.size w1 w3) := Lib.hid (HB2.out.trans (b3.mono (by omega)))
      have HB3 : Hid (Below w.heap.size w w3) := Lib.hid (HB1.out.trans (HB3'.out.mono (by omega)))
      have P3 := Lib.hid ((HB3'.out.block _ (by omega)).trans P1.out)
      have hNL := HNL.out
      obtain ⟨o', ho', hsl⟩ := run_rest Tryz.underlying29 soStrS g o n r.length cv (by omega) hcap.1
      have HRT : Hid (ReadO w1 (some ⟨g, o', none⟩) r) := Lib.hid (HRD.out.tail ho')
      obtain ⟨tb, htb⟩ : ∃ x, (namedB k && decide (0 < r.length)) = x := ⟨_, rfl⟩
      have HTB := Lib.hid htb
      have x0 : w3.cell? ⟨w1.heap.size, 0, none⟩ = some (.int .i64 k) := (blk X3.out).1 0 _ rfl
      have x1 : w3.cell? ⟨w1.heap.size, 1, none⟩ = some (.string ⟨#[]⟩) := (blk X3.out).1 1 _ rfl
      have f1 := (blk X3.out).2.1 1
      have m3 := (blk X3.out).2.2
      clear htb hg3 hc3 b3 X2 HB2 lx hNL
      go_upto_region 11 with fail
      go_cut [53] (fun q wx => q = .bool tb ∧ wx = w3)
      case first =>
        clear hsl
        by_cases h0 : k = 0
        · subst h0
          go_wp2_with fail
          go_meet
          exact ⟨by rw [← HTB.out]; simp [namedB], rfl⟩
        · have q0 : (k == 0) = false := beq_eq_false_iff_ne.2 h0
          by_cases h1 : k = 1
          · subst h1
            go_wp2_with fail
            go_meet
            exact ⟨by rw [← HTB.out]; simp [namedB], rfl⟩
          · have q1 : (k == 1) = false := beq_eq_false_iff_ne.2 h1
            go_wp2_with fail
            go_meet
            exact ⟨by rw [← HTB.out]; simp [namedB, h0, h1], rfl⟩
      case rest =>
      obtain ⟨rfl, rfl⟩ := hcut
      rename World => w3
      clear hsl
      go_upto_if 53 with fail
      go_cut [8] (fun v wy => ∃ o2 c2, v = .slice (some ⟨g, o2, none⟩) (restW k r).length c2 ∧ Hid (ReadO w1 (some ⟨g, o2, none⟩) (restW k r)) ∧ Hid (Below w1.heap.size w1 wy) ∧ Hid (wy.heap[w1.heap.size]? = some (.cells #[.int .i64 k, .string (nameW k r), .slice none 0 0, .slice none 0 0] 32 (0, 0))))
      case first =>
        cases tb
        · have hx : restW k r = r ∧ nameW k r = ⟨#[]⟩ := by
            unfold restW nameW
            have h := HTB.out
            cases hb : namedB k with
            | false => exact ⟨rfl, rfl⟩
            | true =>
              have h0 : r.length = 0 := by rw [hb] at h; simp at h; simp [h]
              obtain rfl := List.length_eq_zero_iff.1 h0
              exact ⟨rfl, rfl⟩
          have HX := Lib.hid hx
          clear hx
          go_wp2_with fail
          go_meet
          refine ⟨o', cv - 1, by rw [HX.out.1], ?_, HB3', ?_⟩
          · rw [HX.out.1]; exact HRT
          · rw [HX.out.2]; exact X3
        · have h := HTB.out
          obtain ⟨hb1, hr1⟩ : namedB k = true ∧ 0 < r.length := by simpa using h
          cases r with
          | nil => simp at hr1
          | cons y r2 =>
          have hx : restW k (y :: r2) = r2 ∧ nameW k (y :: r2) = y := by
            unfold restW nameW
            rw [hb1]
            exact ⟨rfl, rfl⟩
          have HX := Lib.hid hx
          have hlr : (y :: r2).length = r2.length + 1 := rfl
          have hNL := HNL.out
          obtain ⟨o2, ho2, hsl⟩ := run_rest Tryz.underlying29 soStrS g o' (y :: r2).length r2.length (cv - 1) rfl (by omega)
          have HR2 : Hid (ReadO w1 (some ⟨g, o2, none⟩) r2) := Lib.hid (HRT.out.tail ho2)
          have cy := HRT.out.head
          have dy : w3.cell? ⟨g, o', none⟩ = some (.string y) := (HB3'.out.cell (p := ⟨g, o', none⟩) hgl).trans cy
          obtain ⟨nn, hnn⟩ : ∃ x, (y :: r2).length = x := ⟨_, rfl⟩
          rw [hnn] at hsl hr1 hlr ⊢
          have k2 : (0 : Int) < (nn : Int) := by omega
          obtain ⟨cc, hcc⟩ : ∃ x, cv - 1 = x := ⟨_, rfl⟩
          rw [hcc] at hsl ⊢
          clear hx h hb1 cy hnn hlr hcc hNL
          go_wp2_with fail
          go_meet
          have hX := heap_setCell_at (j := 1) X3.out (.string y)
          refine ⟨o2, cc - 1, by rw [HX.out.1], ?_, Lib.hid (HB3'.out.setCell (by simp) _), ?_⟩
          · rw [HX.out.1]; exact HR2
          · rw [HX.out.2]; exact Lib.hid hX
      case rest =>
      obtain ⟨o2, c2, rfl, HRQ, HBy, HXy⟩ := hcut
      rename World => wy
      have HQS : Hid ((restW k r).length ≤ 24 ∧ ∀ s ∈ restW k r, s.size ≤ 600) := Lib.hid (by
        have h := HW.out
        have h2 := HNL.out
        unfold restW
        split
        · refine ⟨by rw [List.length_tail]; omega, fun s hs => h s (List.mem_cons_of_mem _ (List.mem_of_mem_tail hs))⟩
        · exact ⟨by omega, fun s hs => h s (List.mem_cons_of_mem _ hs)⟩)
      rw [HLS.out] at HY HPN' HPY'
      obtain ⟨Q, hQ⟩ : ∃ x, restW k r = x := ⟨_, rfl⟩
      obtain ⟨nm, hnm⟩ : ∃ x, nameW k r = x := ⟨_, rfl⟩
      rw [hQ] at HY HPN' HPY' HRQ HQS ⊢
      rw [hnm] at HY HPN' HPY' HXy
      obtain ⟨A, hA⟩ : ∃ A, (if k = 0 then Q else []) = A := ⟨_, rfl⟩
      obtain ⟨E, hE⟩ : ∃ E, (if k = 0 then [] else (peZ Q).1) = E := ⟨_, rfl⟩
      rw [hA, hE] at HY HPN' HPY'
      have HA := Lib.hid hA
      have HEE := Lib.hid hE
      obtain ⟨zb, hzb⟩ : ∃ b, (k == 0) = b := ⟨_, rfl⟩
      have HZB := Lib.hid hzb
      clear hQ hnm hA hE hzb HTB X3 P3 HB3 HB3' HRT ho' HLS x0 x1 f1 m3
      have x0 : wy.cell? ⟨w1.heap.size, 0, none⟩ = some (.int .i64 k) := (blk HXy.out).1 0 _ rfl
      have x2 : wy.cell? ⟨w1.heap.size, 2, none⟩ = some (.slice none 0 0) := (blk HXy.out).1 2 _ rfl
      have x3 : wy.cell? ⟨w1.heap.size, 3, none⟩ = some (.slice none 0 0) := (blk HXy.out).1 3 _ rfl
      have f2 := (blk HXy.out).2.1 2
      have f3 := (blk HXy.out).2.1 3
      have m2 := (blk HXy.out).2.2
      go_upto_region 14 with fail
      go_cut [62] (fun q wx => q = .bool zb ∧ wx = wy)
      case first =>
        go_wp2_with fail
        go_meet
        exact ⟨by rw [← HZB.out], rfl⟩
      case rest =>
      obtain ⟨rfl, rfl⟩ := hcut
      rename World => wy
      go_upto_if 62 with fail
      go_cut [] (fun wz => ∃ a c b d, Hid (wz.ownsRow w1.heap.size 9 1 (.slice a A.length c) A.length (strV A)) ∧ Hid (wz.ownsRow w1.heap.size 66 3 (.slice b E.length d) E.length (toksV E)) ∧ Hid (Below w1.heap.size w1 wz) ∧
        Hid (wz.heap[w1.heap.size]? = some (.cells #[.int .i64 k, .string nm, .slice a A.length c, .slice b E.length d] 32 (0, 0))))
      case first =>
        cases zb
        · have hk0 : k ≠ 0 := by have := HZB.out; simpa using this
          have hAx := HA.out
          rw [if_neg hk0] at hAx
          have hEx := HEE.out
          rw [if_neg hk0] at hEx
          have PE := Lib.hid (s_pexprO (some ⟨g, o2, none⟩) c2 Q wy (by have := HQS.out.1; omega) (fun s hs => Nat.le_trans (HQS.out.2 s hs) (by decide)) (HRQ.out.below HBy.out))
          subst hAx
          rw [hEx] at PE
          clear hk0 hEx
          go_wp2_with fail
          refine PE.out.mono ?_
          rintro e w6 ⟨ve, rfl, O6, b6⟩
          obtain ⟨ax, cx, rfl⟩ := owns3_shape O6
          have z6 := b6.size
          have X6 := Lib.hid ((b6.block _ m2).trans HXy.out)
          have HB6 : Hid (Below w1.heap.size w1 w6) := Lib.hid (HBy.out.trans (b6.mono (by omega)))
          have y0 : w6.cell? ⟨w1.heap.size, 0, none⟩ = some (.int .i64 k) := (blk X6.out).1 0 _ rfl
          have y3 : w6.cell? ⟨w1.heap.size, 3, none⟩ = some (.slice none 0 0) := (blk X6.out).1 3 _ rfl
          have v3 := (blk X6.out).2.1 3
          have HO6 := Lib.hid (owns_lo (owns_set (j := 3) (x := .slice ax E.length cx) O6 m2) (Nat.le_of_lt m2))
          have hX := heap_setCell_at (j := 3) X6.out (.slice ax E.length cx)
          clear x0 x2 x3 f2 f3 b6 O6
          go_wp2_with fail
          go_meet
          exact ⟨none, 0, ax, cx, Lib.hid (World.ownsRow_nil _ _ _ _), HO6, Lib.hid (HB6.out.setCell (by simp) _), Lib.hid hX⟩
        · have hk0 : k = 0 := by have := HZB.out; simpa using this
          have hAx := HA.out
          rw [if_pos hk0] at hAx
          have hEx := HEE.out
          rw [if_pos hk0] at hEx
          subst hAx hEx
          clear hk0
          obtain ⟨i0, hi, hz0, hz1, hz2⟩ := info_parts infoStP
          have RQ := Lib.hid (HRQ.out.below HBy.out)
          have h63 : 0 + Q.length ≤ maxLen := by have := HQS.out.1; unfold maxLen; omega
          have hby : (0 + Q.length) * 16 ≤ 140737488355328 := by have := HQS.out.1; omega
          have hown := World.ownsRow_lit (base := wy.heap.size) (e := 9) (size := 1) wy #[] 0 (Nat.le_refl _) (by decide) rfl
          have HBa : Hid (Below wy.heap.size wy (wy.alloc (.cells #[] 9))) := Lib.hid ((Below.refl _ _).alloc (Nat.le_refl _) _)
          have HNW : Hid (∀ (i : Nat) u, (strV Q)[i]? = some u → (wy.alloc (.cells #[] 9)).cell? ((⟨g, o2, none⟩ : Addr).add i) = some u) := Lib.hid (fun i u hu => by
            have hj : i < Q.length := by have := (List.getElem?_eq_some_iff.1 hu).1; rwa [strV_length] at this
            obtain ⟨g', o3, e, cc⟩ := (RQ.out.below HBa.out) i hj
            injection e with e
            injection e with e1 e2
            subst e1 e2
            rw [add_plain, cc]
            unfold strV at hu
            rw [List.getElem?_map, List.getElem?_eq_getElem hj] at hu
            exact hu)
          have X0 := Lib.hid ((HBa.out.block _ m2).trans HXy.out)
          have tzz : (wy.alloc (.cells #[] 9)).heap.size = wy.heap.size + 1 := by simp
          go_wp2_with (at_builtin; refine wpList_append_own _ rfl _ _ 29 rfl wy.heap.size 9 i0 _ 1 16 Tryz.underlying29 hi hz0 hz1 hz2 rfl (by decide) _ _ _ rfl hown ⟨g, o2, none⟩ Q.length c2 (strV Q) rfl (by rw [strV_length]; omega) HNW.out (strs_oneS Q) h63 hby (by simp) ?_)
          intro v' w6 hown6 hgrow _
          obtain ⟨ax, cx, rfl⟩ := owns_shape hown6
          have HO6 : Hid (w6.ownsRow wy.heap.size 9 1 (.slice ax Q.length cx) Q.length (strV Q)) := Lib.hid (by
            refine owns_strs (l := Q) hown6 ?_
            simp)
          have X6 := Lib.hid ((hgrow.block _ (by omega) (by simp [Value.ownBlock]; omega)).trans X0.out)
          have HB6 : Hid (Below w1.heap.size w1 w6) := Lib.hid ((HBy.out.trans (HBa.out.mono (by omega))).grown hgrow (by omega) (fun j hj => by simp [Value.ownBlock] at hj; omega))
          have y0 : w6.cell? ⟨w1.heap.size, 0, none⟩ = some (.int .i64 k) := (blk X6.out).1 0 _ rfl
          have y2 : w6.cell? ⟨w1.heap.size, 2, none⟩ = some (.slice none 0 0) := (blk X6.out).1 2 _ rfl
          have v2 := (blk X6.out).2.1 2
          have HO7 := Lib.hid (owns_lo (owns_set (j := 2) (x := .slice ax Q.length cx) HO6.out m2) (Nat.le_of_lt m2))
          have hX := heap_setCell_at (j := 2) X6.out (.slice ax Q.length cx)
          clear x0 x2 x3 f2 f3 hown6 hgrow hown
          go_wp2_with fail
          go_meet
          exact ⟨ax, cx, none, 0, HO7, Lib.hid (World.ownsRow_nil _ _ _ _), Lib.hid (HB6.out.setCell (by simp) _), Lib.hid hX⟩
      case rest =>
      obtain ⟨a, c, b, d, HOA, HOE, HBz, HXz⟩ := hcut
      rename World => wz
      clear x0 x2 x3 f2 f3 m2
      have HRA := Lib.hid (reads_of HOA.out)
      have HRE := Lib.hid (readT_of HOE.out)
      obtain ⟨y1, y2, y3, y4, y5⟩ := HY.out
      have LO := Lib.hid (fun W h1 h2 => s_lineok ⟨k, nm, A, E⟩ a b c d W h1 h2 y1 y2 y3 y4 y5)
      have FL := Lib.hid (fun W h1 h2 => s_fline ⟨k, nm, A, E⟩ a b c d W h1 h2 y1 y2 y3 y4 y5)
      have HOUT := Lib.hid (lineB_out ⟨k, nm, A, E⟩)
      dsimp only at LO FL HOUT
      obtain ⟨lb, hlb⟩ : ∃ x, lineB ⟨k, nm, A, E⟩ = x := ⟨_, rfl⟩
      obtain ⟨lt, hlt⟩ : ∃ x, lineT ⟨k, nm, A, E⟩ = x := ⟨_, rfl⟩
      rw [hlb] at LO HOUT HPN' HPY'
      rw [hlt] at FL HPN' HPY'
      obtain ⟨V, hV⟩ : ∃ V, (!(lb && (lt.toList == s.toList))) = V := ⟨_, rfl⟩
      have HV := Lib.hid hV
      clear hlb hlt hV y1 y2 y3 y4 y5
      have x0 : wz.cell? ⟨w1.heap.size, 0, none⟩ = some (.int .i64 k) := (blk HXz.out).1 0 _ rfl
      have x1 : wz.cell? ⟨w1.heap.size, 1, none⟩ = some (.string nm) := (blk HXz.out).1 1 _ rfl
      have x2 : wz.cell? ⟨w1.heap.size, 2, none⟩ = some (.slice a A.length c) := (blk HXz.out).1 2 _ rfl
      have x3 : wz.cell? ⟨w1.heap.size, 3, none⟩ = some (.slice b E.length d) := (blk HXz.out).1 3 _ rfl
      have mz := (blk HXz.out).2.2
      go_upto_region 17 with fail
      go_cut [86] (fun q wv => q = .bool V ∧ Hid (Below wz.heap.size wz wv))
      case first =>
        by_cases hk : k < 0
        · have hkd : decide (k < 0) = true := decide_eq_true hk
          have hl := HOUT.out (.inl hk)
          have HVV : Hid (V = true) := Lib.hid (by rw [← HV.out, hl]; rfl)
          go_wp2_with fail
          go_meet
          exact ⟨by rw [HVV.out], Lib.hid (Below.refl _ _)⟩
        · have hkd : decide (k < 0) = false := decide_eq_false hk
          clear hk
          go_wp2_with fail
          refine (LO.out _ HRA.out HRE.out).mono ?_
          rintro e w5 ⟨rfl, b5⟩
          have z5 := b5.size
          have X5 := Lib.hid ((b5.block _ mz).trans HXz.out)
          have HB5 := Lib.hid b5
          cases lb
          · have HVV : Hid (V = true) := Lib.hid (by rw [← HV.out]; rfl)
            go_wp2_with fail
            go_meet
            exact ⟨by rw [HVV.out], HB5⟩
          · have y0 : w5.cell? ⟨w1.heap.size, 0, none⟩ = some (.int .i64 k) := (blk X5.out).1 0 _ rfl
            have y1 : w5.cell? ⟨w1.heap.size, 1, none⟩ = some (.string nm) := (blk X5.out).1 1 _ rfl
            have y2 : w5.cell? ⟨w1.heap.size, 2, none⟩ = some (.slice a A.length c) := (blk X5.out).1 2 _ rfl
            have y3 : w5.cell? ⟨w1.heap.size, 3, none⟩ = some (.slice b E.length d) := (blk X5.out).1 3 _ rfl
            have HRA5 := Lib.hid (HRA.out.below b5)
            have HRE5 := Lib.hid (HRE.out.below b5)
            clear x0 x1 x2 x3 b5
            go_wp2_with fail
            refine (FL.out _ HRA5.out HRE5.out).mono ?_
            rintro e w6 ⟨rfl, b6⟩
            have HB6 : Hid (Below wz.heap.size wz w6) := Lib.hid (HB5.out.trans (b6.mono (by omega)))
            clear b6
            go_wp2_with fail
            go_meet
            exact ⟨by rw [← HV.out]; simp, HB6⟩
      case rest =>
      obtain ⟨rfl, HBv⟩ := hcut
      rename World => wv
      have zv := HBv.out.size
      have zz := HBz.out.size
      have Xv := Lib.hid ((HBv.out.block _ mz).trans HXz.out)
      have HB9 : Hid (Below w.heap.size w wv) := Lib.hid (HB1.out.trans ((HBz.out.mono (by omega)).trans (HBv.out.mono (by omega))))
      have Pv := Lib.hid ((HBv.out.block _ (by omega)).trans ((HBz.out.block _ (by omega : w.heap.size < w1.heap.size)).trans P1.out))
      have HOA9 := Lib.hid (owns_below HOA.out HBv.out)
      have HOE9 := Lib.hid (owns3_below HOE.out HBv.out)
      clear x0 x1 x2 x3
      have x0 : wv.cell? ⟨w1.heap.size, 0, none⟩ = some (.int .i64 k) := (blk Xv.out).1 0 _ rfl
      have x1 : wv.cell? ⟨w1.heap.size, 1, none⟩ = some (.string nm) := (blk Xv.out).1 1 _ rfl
      have x2 : wv.cell? ⟨w1.heap.size, 2, none⟩ = some (.slice a A.length c) := (blk Xv.out).1 2 _ rfl
      have x3 : wv.cell? ⟨w1.heap.size, 3, none⟩ = some (.slice b E.length d) := (blk Xv.out).1 3 _ rfl
      have d0 : wv.cell? ⟨w.heap.size, 0, none⟩ = some (.int .i64 0) := (blk Pv.out).1 0 _ rfl
      have d1 : wv.cell? ⟨w.heap.size, 1, none⟩ = some (.string ⟨#[]⟩) := (blk Pv.out).1 1 _ rfl
      have d2 : wv.cell? ⟨w.heap.size, 2, none⟩ = some (.slice none 0 0) := (blk Pv.out).1 2 _ rfl
      have d3 : wv.cell? ⟨w.heap.size, 3, none⟩ = some (.slice none 0 0) := (blk Pv.out).1 3 _ rfl
      have g10 := (blk Pv.out).2.1 0
      have g11 := (blk Pv.out).2.1 1
      have g12 := (blk Pv.out).2.1 2
      have g13 := (blk Pv.out).2.1 3
      have m1 := (blk Pv.out).2.2
      have m2 := (blk Xv.out).2.2
      cases V
      · have hb : lb = true ∧ lt = s := by
          have h := HV.out
          cases lb
          · cases h
          · refine ⟨rfl, ?_⟩
            apply Classical.byContradiction
            intro hn
            rw [str_ne _ _ hn] at h
            cases h
        have HX : Hid (plZ s = (⟨k, nm, A, E⟩, true)) := Lib.hid (HPY'.out hb)
        clear hb
        go_wp2
        refine bodyPost_ret (v := .tuple #[.agg #[.int .i64 k, .string nm, .slice a A.length c, .slice b E.length d], .bool true]) (by simp [results, Tryz.results34, go_sem, d0, d1, d2, d3, m1, m2]) rfl ⟨.slice a A.length c, .slice b E.length d, by rw [HX.out], ?_, ?_, ?_⟩
        · rw [HX.out]; exact owns_lo (owns_set (owns_set (owns_set (owns_set HOA9.out (by omega)) (by omega)) (by omega)) (by omega)) (by omega)
        · rw [HX.out]; exact owns_lo (owns_set (owns_set (owns_set (owns_set HOE9.out (by omega)) (by omega)) (by omega)) (by omega)) (by omega)
        · exact (((HB9.out.setCell (by simp) _).setCell (by simp) _).setCell (by simp) _).setCell (by simp) _
      · have HX : Hid (plZ s = (zeroL, false)) := Lib.hid (HPN'.out (fun h => by
          have h2 := HV.out
          rw [h.1, h.2] at h2
          simp at h2))
        go_wp2
        refine bodyPost_ret (v := .tuple #[.agg #[.int .i64 0, .string ⟨#[]⟩, .slice none 0 0, .slice none 0 0], .bool false]) (by simp [results, Tryz.results34, go_sem, d0, d1, d2, d3, m1]) rfl ⟨.slice none 0 0, .slice none 0 0, by rw [HX.out]; rfl, by rw [HX.out]; exact World.ownsRow_nil _ _ _ _, by rw [HX.out]; exact World.ownsRow_nil _ _ _ _, ?_⟩
        exact (((HB9.out.setCell (by simp) _).setCell (by simp) _).setCell (by simp) _).setCell (by simp) _
end Go.Proofs.YthmllcpldgbbcaaGreatDoor
