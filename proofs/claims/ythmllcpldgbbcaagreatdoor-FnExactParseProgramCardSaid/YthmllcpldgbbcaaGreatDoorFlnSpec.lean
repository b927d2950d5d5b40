/- The model's FormatLine. -/
import Derived.Test.YthmllcpldgbbcaaGreatDoorLokSpec
import Derived.Test.YthmllcpldgbbcaaGreatDoorFexSpec
import Derived.Test.YthmllcpldgbbcaaGreatDoorPlainB
import Derived.Deep.RegionHeld3
import Derived.Deep.RegionWith
import Derived.Deep.DeepCutAuto
namespace Go.Proofs.YthmllcpldgbbcaaGreatDoor
open Go.RowKit Go.Lib

/-- The words were returned, in a row of their own. -/
def WordsRes (T : TypeId) (w : World) (e : Ending) (w' : World) : Prop :=
  ∃ g, e = .returned (.slice (some ⟨g, 0, none⟩) 8 8) ∧ w.heap.size ≤ g ∧ w'.heap[g]? = some (.cells wordsV T (0, 0)) ∧ Below w.heap.size w w'
theorem s_words (w : World) : Calls Tryz.prog 59 #[] w (WordsRes 9 w) := by
  go_enter Tryz.func59, Tryz.ntmps59
  go_wp2
  go_ret
  exact ⟨w.heap.size, rfl, Nat.le_refl _, heap_alloc_new w _, (Below.refl _ _).alloc (Nat.le_refl _) _⟩
set_option maxRecDepth 100000 in
set_option maxHeartbeats 4000000 in
theorem s_fline_yes (p : PLine) (a b : Option Addr) (c d : Nat) (w : World) (hA : ReadS w a p.args) (hT : ReadT w b p.expr) (hl : lineB p = true) (l5 : NamesT p.expr) :
    Calls Tryz.prog 62 #[.agg #[.int .i64 p.kind, .string p.name, .slice a p.args.length c, .slice b p.expr.length d]] w fun e w' => e = .returned (.string (lineT p)) ∧ Below w.heap.size w w' := by
  have HV := Lib.hid (lineT_yes p hl)
  have l1 := line_args p hl
  have l2 := line_arg8 p hl
  have l3 := line_name8 p hl
  have l4 := (ef_small _ _ ((lineB_iff p).1 hl).2.2.2).1
  have LX := Lib.hid (line_expr p hl)
  have PN := Lib.hid (fun k => part_len p k hl)
  have BB := base_len p hl
  have S := Lib.hid (fun W h1 h2 => hl ▸ s_lineok p a b c d W h1 h2 (by omega) (fun s hs => by have := l2 s hs; unfold maxLen; omega) (by unfold maxLen; omega) (by omega) l5)
  obtain ⟨hk0, hk7⟩ := line_kind p hl
  have LB := Lib.hid (lnB_base p)
  have HN5 := Lib.hid l5
  have H8 := Lib.hid l2
  obtain ⟨k, nm, gs, ex⟩ := p
  dsimp only at HV hA hT l1 l3 l4 LX PN BB S hk0 hk7 HN5 H8 LB ⊢
  have HR := Lib.hid hA
  have HT := Lib.hid hT
  clear hA hT hl l5 l2
  obtain ⟨n, rfl⟩ := Int.eq_ofNat_of_zero_le hk0
  have hn8 : n < 8 := by omega
  have k1 : (n : Int) < 8 := by omega
  have HB0 := Lib.hid ((Below.refl w.heap.size w).alloc (Nat.le_refl _) (.cells #[.int .i64 (n : Int), .string nm, .slice a gs.length c, .slice b ex.length d] 32))
  have T0 := Lib.hid (heap_alloc_new w (.cells #[.int .i64 (n : Int), .string nm, .slice a gs.length c, .slice b ex.length d] 32))
  go_enter Tryz.func62, Tryz.ntmps62
  go_wp2_with fail
  refine (S.out _ (HR.out.below HB0.out) (HT.out.below HB0.out)).mono ?_
  rintro e w1 ⟨rfl, b1⟩
  have tz : (w.alloc (.cells #[.int .i64 (n : Int), .string nm, .slice a gs.length c, .slice b ex.length d] 32)).heap.size = w.heap.size + 1 := by simp
  have z1 := b1.size
  rw [tz] at z1 b1
  have P1 := Lib.hid ((b1.block _ (by omega)).trans T0.out)
  have HB1 : Hid (Below w.heap.size w w1) := Lib.hid (HB0.out.trans (b1.mono (by omega)))
  have e0 : w1.cell? ⟨w.heap.size, 0, none⟩ = some (.int .i64 (n : Int)) := (blk P1.out).1 0 _ rfl
  have ll : w.heap.size < w1.heap.size := by omega
  clear tz b1 T0 HB0
  go_upto_region 3 with fail
  go_cut [3] (fun s wx => s = .string (wordZ (n : Int)) ∧ Hid (wx.heap[w.heap.size]? = some (.cells #[.int .i64 (n : Int), .string nm, .slice a gs.length c, .slice b ex.length d] 32 (0, 0))) ∧ Hid (Below w.heap.size w wx))
  case first =>
    go_wp2_with fail
    go_region_with (first
      | (go_at_call 59; refine (s_words _).mono ?_; rintro e wW ⟨g, rfl, hg, hgw, bW⟩; have hcell : wW.cell? ⟨g, n, none⟩ = some (.string (wordZ (n : Int))) := (blk hgw).1 n _ (wordsV_at n hn8); have e0' : wW.cell? ⟨w.heap.size, 0, none⟩ = some (.int .i64 (n : Int)) := (bW.cell (p := ⟨w.heap.size, 0, none⟩) ll).trans e0))
    all_goals
      have P2 := Lib.hid ((bW.block _ ll).trans P1.out)
      have HB2 : Hid (Below w.heap.size w wW) := Lib.hid (HB1.out.trans ((undrew bW).mono (show w.heap.size ≤ w1.heap.size by omega)))
      clear bW hgw hcell hg e0 e0'
      go_wp2_with fail
      go_meet
      exact ⟨rfl, P2, HB2⟩
  case rest =>
  rename World => wW
  obtain ⟨rfl, P2, HB2⟩ := hcut
  clear e0
  obtain ⟨wd, hwd⟩ : ∃ x, wordZ (n : Int) = x := ⟨_, rfl⟩
  rw [hwd]
  have HW := Lib.hid hwd
  clear hwd
  obtain ⟨e0, e1, e2, e3⟩ := cells4 P2.out
  obtain ⟨t0, ht0⟩ : ∃ t : ByteArray, t = ⟨(baseB ⟨(n : Int), nm, gs, ex⟩).toArray⟩ := ⟨_, rfl⟩
  have HT0 : Hid (t0.data.toList = baseB ⟨(n : Int), nm, gs, ex⟩) := Lib.hid (by rw [ht0])
  have hz0 : t0.size ≤ 460 := by rw [← list_len, HT0.out]; exact BB
  clear ht0
  obtain ⟨nb, hnb⟩ : ∃ x, (!nm.toList.isEmpty) = x := ⟨_, rfl⟩
  have HNB := Lib.hid hnb
  clear hnb
  go_upto_region 4 with fail
  go_cut [15] (fun s wx => s = .bool nb ∧ wx = wW)
  case first =>
    go_wp2_with fail
    go_meet
    exact ⟨by rw [HNB.out], rfl⟩
  case rest =>
  obtain ⟨rfl, rfl⟩ := hcut
  rename World => wx
  go_upto_if 15 with fail
  go_cut [3] (fun s wy => s = .string t0 ∧ wy = wx)
  case first =>
    cases nb
    · have hn0 : nm.size = 0 := by
        rcases Nat.eq_zero_or_pos nm.size with h | h
        · exact h
        · have h1 := empty_no nm (by omega); have h2 := HNB.out; rw [h1] at h2; cases h2
      have HX : Hid (t0 = wd) := Lib.hid (bl_eq (by rw [HT0.out]; unfold baseB; dsimp only; rw [if_pos hn0, HW.out, List.append_nil]))
      clear hn0
      go_wp2_with fail
      go_meet
      exact ⟨by rw [HX.out], rfl⟩
    · have hn0 : ¬ nm.size = 0 := fun h => by have h2 := HNB.out; rw [empty_of nm h, show (⟨#[]⟩ : ByteArray).toList = [] from by rw [ByteArray.toList_eq]] at h2; exact absurd h2 (by decide)
      have HX : Hid (t0 = wd ++ ⟨#[32]⟩ ++ nm) := Lib.hid (bl_eq (by
        rw [HT0.out, app_list, app_list, ← HW.out]; unfold baseB; dsimp only; rw [if_neg hn0]; simp [spc]))
      have hw6 : wd.size ≤ 6 := by rw [← HW.out]; exact (wordZ_len _).2
      have e32 : (⟨#[32]⟩ : ByteArray).size = 1 := rfl
      have p1 : ∀ W : World, (Op.stringOp .add wd ⟨#[32]⟩).run Tryz.prog W = .ok (.string (wd ++ ⟨#[32]⟩)) W := fun W => run_string_add_sum (w := W) wd ⟨#[32]⟩ (by omega)
      have p2 : ∀ W : World, (Op.stringOp .add (wd ++ ⟨#[32]⟩) nm).run Tryz.prog W = .ok (.string (wd ++ ⟨#[32]⟩ ++ nm)) W := fun W => run_string_add_sum (w := W) (wd ++ ⟨#[32]⟩) nm (by rw [ByteArray.size_append]; omega)
      clear e32 hn0
      go_wp2_with fail
      go_meet
      exact ⟨by rw [HX.out], rfl⟩
  case rest =>
  obtain ⟨rfl, rfl⟩ := hcut
  rename World => wv
  have HRv := Lib.hid (HR.out.below HB2.out)
  have HTv := Lib.hid (HT.out.below HB2.out)
  have hzv : w.heap.size ≤ wv.heap.size := HB2.out.size
  go_wp2_with fail
  go_loop [3, 4] (fun s i => ∃ (m : Nat) (t : ByteArray), m ≤ gs.length ∧ i = .int .i64 (m : Int) ∧ s = .string t ∧ Hid (t.data.toList = baseB ⟨(n : Int), nm, gs, ex⟩ ++ (gs.take m).flatMap spc)) (fun _ i => gs.length - (RowKit.intOf i).toNat)
  case atStart => exact ⟨0, t0, Nat.zero_le _, rfl, rfl, Lib.hid (by rw [HT0.out]; simp)⟩
  case round =>
    obtain ⟨m, t, hm, rfl, rfl, HTT⟩ := hrel
    have htz : t.size ≤ 460 := by rw [← list_len, HTT.out]; exact PN.out m
    by_cases hlt : m < gs.length
    · obtain ⟨g, rfl, c0⟩ := HRv.out m hlt
      have hy8 := H8.out _ (List.getElem_mem hlt)
      have NX := Lib.hid (part_next gs m hlt)
      obtain ⟨y, hy⟩ : ∃ y, gs[m] = y := ⟨_, rfl⟩
      rw [hy] at c0 hy8 NX
      have m0 : (0 : Int) ≤ (m : Int) := by omega
      have m1 : (m : Int) < (gs.length : Int) := by omega
      have e32 : (⟨#[32]⟩ : ByteArray).size = 1 := rfl
      have p1 : ∀ W : World, (Op.stringOp .add t ⟨#[32]⟩).run Tryz.prog W = .ok (.string (t ++ ⟨#[32]⟩)) W := fun W => run_string_add_sum (w := W) t ⟨#[32]⟩ (by omega)
      have p2 : ∀ W : World, (Op.stringOp .add (t ++ ⟨#[32]⟩) y).run Tryz.prog W = .ok (.string (t ++ ⟨#[32]⟩ ++ y)) W := fun W => run_string_add_sum (w := W) (t ++ ⟨#[32]⟩) y (by rw [ByteArray.size_append]; omega)
      have HX : Hid ((t ++ ⟨#[32]⟩ ++ y).data.toList = baseB ⟨(n : Int), nm, gs, ex⟩ ++ (gs.take (m + 1)).flatMap spc) := Lib.hid (by rw [app_list, app_list, HTT.out, NX.out]; simp)
      clear hy e32
      go_wp2
      go_round
      case rel => exact ⟨m + 1, _, by omega, by go_num, rfl, HX⟩
      case measure => simp [RowKit.intOf]; omega
    · have hall : gs.take m = gs := List.take_of_length_le (by omega)
      have HTF : Hid (t.data.toList = baseB ⟨(n : Int), nm, gs, ex⟩ ++ gs.flatMap spc) := Lib.hid (by rw [HTT.out, hall])
      clear hall
      by_cases hx0 : ex.length = 0
      · have HXX : Hid (t = lineT ⟨(n : Int), nm, gs, ex⟩) := Lib.hid (by
          rw [HV.out]
          refine bl_eq ?_
          rw [HTF.out, LB.out]
          unfold exprP
          dsimp only
          rw [if_pos hx0, List.append_nil])
        obtain rfl : ex = [] := List.length_eq_zero_iff.1 hx0
        clear hx0
        go_wp2
        go_ret
        exact ⟨ret_s HXX.out, HB2.out⟩
      · have hexb : exprB ex = true := by
          rcases LX.out with h | h
          · exact absurd (by rw [h]; rfl) hx0
          · exact h
        have hfz := fexZ_yes ex hexb
        have hj := jn_size ex l4
        obtain ⟨fx, hfx⟩ : ∃ x, fexZ ex = x := ⟨_, rfl⟩
        have HF := Lib.hid (fun W h => hfx ▸ s_fexpr b d ex W (by omega) h HN5.out)
        rw [hfx] at hfz
        have HXX : Hid (t ++ ⟨#[32]⟩ ++ fx = lineT ⟨(n : Int), nm, gs, ex⟩) := Lib.hid (by
          rw [HV.out]
          refine bl_eq ?_
          rw [app_list, app_list, HTF.out, LB.out, hfz]
          unfold exprP
          dsimp only
          rw [if_neg hx0]
          simp)
        have hfs : fx.size ≤ 400 := by rw [hfz]; exact hj
        have e32 : (⟨#[32]⟩ : ByteArray).size = 1 := rfl
        have p1 : ∀ W : World, (Op.stringOp .add t ⟨#[32]⟩).run Tryz.prog W = .ok (.string (t ++ ⟨#[32]⟩)) W := fun W => run_string_add_sum (w := W) t ⟨#[32]⟩ (by omega)
        have p2 : ∀ W : World, (Op.stringOp .add (t ++ ⟨#[32]⟩) fx).run Tryz.prog W = .ok (.string (t ++ ⟨#[32]⟩ ++ fx)) W := fun W => run_string_add_sum (w := W) (t ++ ⟨#[32]⟩) fx (by rw [ByteArray.size_append]; omega)
        have hgt : decide ((0 : Int) < (ex.length : Int)) = true := decide_eq_true (by omega)
        clear hfz hfx e32 hexb
        go_wp2_with fail
        refine (HF.out _ HTv.out).mono ?_
        rintro e w5 ⟨rfl, b5⟩
        have HB5 : Hid (Below w.heap.size w w5) := Lib.hid (HB2.out.trans (b5.mono hzv))
        clear b5
        go_wp2
        go_ret
        exact ⟨ret_s HXX.out, HB5.out⟩

set_option maxRecDepth 100000 in
set_option maxHeartbeats 1000000 in
theorem s_fline_no (p : PLine) (a b : Option Addr) (c d : Nat) (w : World) (hA : ReadS w a p.args) (hT : ReadT w b p.expr) (hl : lineB p = false) (l1 : p.args.length ≤ 2000000) (l2 : ∀ s ∈ p.args, s.size ≤ maxLen) (l3 : p.name.size ≤ maxLen) (l4 : p.expr.length ≤ 1048576) (l5 : NamesT p.expr) :
    Calls Tryz.prog 62 #[.agg #[.int .i64 p.kind, .string p.name, .slice a p.args.length c, .slice b p.expr.length d]] w fun e w' => e = .returned (.string (lineT p)) ∧ Below w.heap.size w w' := by
  have HV := Lib.hid (lineT_no p hl)
  have S := Lib.hid (fun W h1 h2 => hl ▸ s_lineok p a b c d W h1 h2 l1 l2 l3 l4 l5)
  obtain ⟨k, nm, gs, ex⟩ := p
  dsimp only at HV S hA hT ⊢
  have HB0 := Lib.hid ((Below.refl w.heap.size w).alloc (Nat.le_refl _) (.cells #[.int .i64 k, .string nm, .slice a gs.length c, .slice b ex.length d] 32))
  have HR := Lib.hid hA
  have HT := Lib.hid hT
  clear hA hT hl l1 l2 l3 l4 l5
  go_enter Tryz.func62, Tryz.ntmps62
  go_wp2_with fail
  refine (S.out _ (HR.out.below HB0.out) (HT.out.below HB0.out)).mono ?_
  rintro e w1 ⟨rfl, b1⟩
  have HB1 : Hid (Below w.heap.size w w1) := Lib.hid (HB0.out.trans (b1.mono (by simp)))
  clear b1
  go_wp2
  go_ret
  exact ⟨ret_s HV.out.symm, HB1.out⟩
theorem s_fline (p : PLine) (a b : Option Addr) (c d : Nat) (w : World) (hA : ReadS w a p.args) (hT : ReadT w b p.expr) (l1 : p.args.length ≤ 2000000) (l2 : ∀ s ∈ p.args, s.size ≤ maxLen) (l3 : p.name.size ≤ maxLen) (l4 : p.expr.length ≤ 1048576) (l5 : NamesT p.expr) :
    Calls Tryz.prog 62 #[.agg #[.int .i64 p.kind, .string p.name, .slice a p.args.length c, .slice b p.expr.length d]] w fun e w' => e = .returned (.string (lineT p)) ∧ Below w.heap.size w w' := by
  cases hb : lineB p with
  | false => exact s_fline_no p a b c d w hA hT hb l1 l2 l3 l4 l5
  | true => exact s_fline_yes p a b c d w hA hT hb l5
end Go.Proofs.YthmllcpldgbbcaaGreatDoor
