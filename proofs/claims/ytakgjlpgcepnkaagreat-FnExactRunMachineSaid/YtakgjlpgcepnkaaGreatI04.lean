/- NameOk, the model's and the program's (as in NtSpec, NtImpl, for a seat without tokens); The model's machine that performs an instruction: where it lies; a word is read, written, pushed, popped; The model's Wrap and Apply; The model's l11Perform: an instruction is performed. -/
import Derived.Test.YtakgjlpgcepnkaaGreatRows
import Derived.Test.YtakgjlpgcepnkaaGreatI00
import Derived.Test.YtakgjlpgcepnkaaGreatI01
import Derived.Test.YtakgjlpgcepnkaaGreatI02
import Derived.Outline
import Derived.Lib.Hide
import Derived.Laws.OwnMore
import Derived.WalkSmall
import Derived.Deep.QuietTactic
import Derived.BigQuiet
import Derived.Deep.RegionHeld3
import Derived.Deep.Cut
/-! NameOk, the model's and the program's (as in NtSpec, NtImpl, for a seat without tokens) -/
namespace Go.Proofs.YtakgjlpgcepnkaaGreat
open Go.RowKit Go.Lib

theorem s_in7n (x lo hi : Int) (w : World) : Calls Tryz.prog 35 #[.int .i64 x, .int .i64 lo, .int .i64 hi] w fun e w' => e = .returned (.bool (decide (lo ≤ x) && decide (x ≤ hi))) ∧ w = w' := by
  by_cases h1 : lo ≤ x <;> by_cases h2 : x ≤ hi
  all_goals
    go_enter Tryz.func35, Tryz.ntmps35
    go_wp2
    go_ret
    exact ⟨ret_b (by simp [h1, h2]), rfl⟩

theorem s_name7n (s : ByteArray) (w : World) (hm : s.size ≤ maxLen) : Calls Tryz.prog 58 #[.string s] w fun e w' => e = .returned (.bool (nameB s)) ∧ w = w' := by
  unfold maxLen at hm
  go_enter Tryz.func58, Tryz.ntmps58
  go_wp2_with fail
  go_loop [3] (fun i => ∃ k : Nat, k ≤ s.size ∧ i = .int .i64 (k : Int) ∧ (s.data.toList.take k).all lowB = true) (fun i => s.size - (intOf i).toNat)
  case atStart => exact ⟨0, Nat.zero_le _, rfl, rfl⟩
  case round =>
    obtain ⟨k, hk, rfl, ha⟩ := hrel
    have HA := Lib.hid ha
    clear ha
    by_cases hlt : k < s.size
    · have hp : s[k].toNat < 256 := s[k].toNat_lt
      by_cases hbad : s[k].toNat < 97 ∨ 122 < s[k].toNat
      · have hr := Lib.hid (nameB_bad s k hlt hbad)
        go_wp2_with fail
        all_goals go_ret
        all_goals exact ⟨ret_b hr.out.symm, rfl⟩
      · have h1 : 97 ≤ s[k].toNat := by omega
        have h2 : s[k].toNat ≤ 122 := by omega
        have HN := Lib.hid (low_next s k hlt HA.out h1 h2)
        clear hbad
        go_wp2
        go_round
        case rel => exact ⟨k + 1, by omega, by go_num, HN.out⟩
        case measure => simp [intOf]; omega
    · have hkk : k = s.size := by omega
      have hr := Lib.hid (nameB_all s (by have := HA.out; rw [hkk] at this; exact this))
      clear hkk
      go_wp2_with (first | (go_at_call 35; refine (s_in7n _ _ _ _).mono ?_; rintro e w' ⟨rfl, rfl⟩))
      go_ret
      exact ⟨ret_b (by rw [hr.out]; congr 1 <;> (rw [decide_eq_decide]; omega)), rfl⟩
theorem i_name7n (s : ByteArray) (w : World) (hm : s.size ≤ maxLen) : Calls Tryz.prog 69 #[.string s] w fun e w' => e = .returned (.bool (nameB s)) ∧ w = w' := by
  unfold maxLen at hm
  by_cases hs0 : s.size < 1
  · have hr := Lib.hid (nameB_short s (by omega))
    go_enter Tryz.func69, Tryz.ntmps69
    go_wp2
    go_ret
    exact ⟨ret_b hr.out.symm, rfl⟩
  by_cases hs1 : 8 < s.size
  · have hr := Lib.hid (nameB_long s hs1)
    go_enter Tryz.func69, Tryz.ntmps69
    go_wp2
    go_ret
    exact ⟨ret_b hr.out.symm, rfl⟩
  go_enter Tryz.func69, Tryz.ntmps69
  go_wp2_with fail
  go_loop [14] (fun i => ∃ k : Nat, k ≤ s.size ∧ i = .int .i64 (k : Int) ∧ (s.data.toList.take k).all lowB = true) (fun i => s.size - (intOf i).toNat)
  case atStart => exact ⟨0, Nat.zero_le _, rfl, rfl⟩
  case round =>
    obtain ⟨k, hk, rfl, ha⟩ := hrel
    have HA := Lib.hid ha
    clear ha
    by_cases hlt : k < s.size
    · have hp : s[k].toNat < 256 := s[k].toNat_lt
      by_cases hbad : s[k].toNat < 97 ∨ 122 < s[k].toNat
      · have hr := Lib.hid (nameB_bad s k hlt hbad)
        go_wp2_with fail
        all_goals go_ret
        all_goals exact ⟨ret_b hr.out.symm, rfl⟩
      · have h1 : 97 ≤ s[k].toNat := by omega
        have h2 : s[k].toNat ≤ 122 := by omega
        have HN := Lib.hid (low_next s k hlt HA.out h1 h2)
        clear hbad
        go_wp2
        go_round
        case rel => exact ⟨k + 1, by omega, by go_num, HN.out⟩
        case measure => simp [intOf]; omega
    · have hkk : k = s.size := by omega
      have hr := Lib.hid (nameB_good s (by omega) (by omega) (by have := HA.out; rw [hkk] at this; exact this))
      clear hkk
      go_wp2
      go_ret
      exact ⟨ret_b hr.out.symm, rfl⟩
end Go.Proofs.YtakgjlpgcepnkaaGreat

/-! The model's machine that performs an instruction: where it lies; a word is read, written, pushed, popped -/
namespace Go.Proofs.YtakgjlpgcepnkaaGreat
open Go.RowKit Go.Lib

def csRow (m : McL) (sv ov : Value) (b : Bool) : Array Value := #[.int .i64 m.pc, .int .i64 m.sp, .int .i64 m.fp, sv, ov, .int .i64 m.stt, .int .i64 m.val, .bool b]
structure MsAt (B cb : Nat) (w : World) (sv ov : Value) (s : McS) : Prop where
  cr : w.heap[cb]? = some (.cells (csRow s.1 sv ov s.2) 73 (0, 0))
  st : w.ownsRow B 3 1 sv s.1.st.length (intV s.1.st)
  ln : s.1.st.length = 1200
  out : w.ownsRow B 3 1 ov s.1.out.length (intV s.1.out)
  ap : Ap sv ov
def MsR (B cb : Nat) (sv ov v : Value) (s' : McS) (w : World) (e : Ending) (w' : World) : Prop := e = .returned v ∧ Hid (MsAt B cb w' sv ov s') ∧ Hid (Step cb [sv, ov] [sv, ov] w w')
theorem own_formsS {B T s n : Nat} {w : World} {v : Value} {xs : List Value} (h : w.ownsRow B T s v n xs) (hn : 0 < n) : ∃ g c, v = .slice (some ⟨g, 0, none⟩) n c := by
  rcases h.2 with ⟨_, h0⟩ | ⟨g, cap, cur, hv, _⟩
  · omega
  · exact ⟨g, cap, hv⟩
theorem intV_setS (l : List Int) (k : Nat) (v : Int) : intV (l.set k v) = (intV l).set k (.int .i64 v) := by unfold intV; rw [List.map_set]
theorem rowsS {sv ov : Value} {w : World} : ∀ v ∈ [sv, ov], ∀ g, v.ownBlock = some g → (∃ u ∈ [sv, ov], u.ownBlock = some g) ∨ w.heap.size ≤ g := fun v hv g hg => .inl ⟨v, hv, hg⟩
section
variable {B cb : Nat} {w w' : World} {sv ov : Value} {s : McS}
theorem MsAt.lt (h : MsAt B cb w sv ov s) : cb < w.heap.size := (blk h.cr).2.2
theorem MsAt.off (h : MsAt B cb w sv ov s) : sv.ownBlock ≠ some cb ∧ ov.ownBlock ≠ some cb := ⟨ne_types h.st h.cr (by decide), ne_types h.out h.cr (by decide)⟩
theorem MsAt.below (h : MsAt B cb w sv ov s) (hb : Below w.heap.size w w') : MsAt B cb w' sv ov s := ⟨(hb.block cb h.lt).trans h.cr, owns_below h.st hb, h.ln, owns_below h.out hb, h.ap⟩
theorem MsAt.cells (h : MsAt B cb w sv ov s) : w.cell? ⟨cb, 0, none⟩ = some (.int .i64 s.1.pc) ∧ w.cell? ⟨cb, 1, none⟩ = some (.int .i64 s.1.sp) ∧ w.cell? ⟨cb, 2, none⟩ = some (.int .i64 s.1.fp) ∧ w.cell? ⟨cb, 3, none⟩ = some sv ∧ w.cell? ⟨cb, 4, none⟩ = some ov ∧ w.cell? ⟨cb, 5, none⟩ = some (.int .i64 s.1.stt) ∧ w.cell? ⟨cb, 6, none⟩ = some (.int .i64 s.1.val) ∧ w.cell? ⟨cb, 7, none⟩ = some (.bool s.2) ∧ ∀ j, w.frozen? ⟨cb, j, none⟩ = false :=
  ⟨(blk h.cr).1 0 _ rfl, (blk h.cr).1 1 _ rfl, (blk h.cr).1 2 _ rfl, (blk h.cr).1 3 _ rfl, (blk h.cr).1 4 _ rfl, (blk h.cr).1 5 _ rfl, (blk h.cr).1 6 _ rfl, (blk h.cr).1 7 _ rfl, (blk h.cr).2.1⟩
theorem MsAt.setM (h : MsAt B cb w sv ov s) (j : Nat) (u : Value) {s' : McS} (he : (csRow s.1 sv ov s.2).setIfInBounds j u = csRow s'.1 sv ov s'.2) (hs : s'.1.st = s.1.st) (ho : s'.1.out = s.1.out) : MsAt B cb (w.setCell ⟨cb, j, none⟩ u) sv ov s' ∧ Step cb [sv, ov] [sv, ov] w (w.setCell ⟨cb, j, none⟩ u) := by
  obtain ⟨o1, o2⟩ := h.off
  refine ⟨⟨by rw [← he]; exact heap_setCell_at h.cr _, ?_, by rw [hs]; exact h.ln, ?_, h.ap⟩, Step.of_set rowsS⟩
  · rw [hs]; exact owns_blks h.st (fun g hg => set_other (fun e => o1 (by rw [hg, e])))
  · rw [ho]; exact owns_blks h.out (fun g hg => set_other (fun e => o2 (by rw [hg, e])))
theorem MsAt.setPc (h : MsAt B cb w sv ov s) (v : Int) : MsAt B cb (w.setCell ⟨cb, 0, none⟩ (.int .i64 v)) sv ov ({ s.1 with pc := v }, s.2) ∧ Step cb [sv, ov] [sv, ov] w (w.setCell ⟨cb, 0, none⟩ (.int .i64 v)) := h.setM 0 _ rfl rfl rfl
theorem MsAt.setSp (h : MsAt B cb w sv ov s) (v : Int) : MsAt B cb (w.setCell ⟨cb, 1, none⟩ (.int .i64 v)) sv ov ({ s.1 with sp := v }, s.2) ∧ Step cb [sv, ov] [sv, ov] w (w.setCell ⟨cb, 1, none⟩ (.int .i64 v)) := h.setM 1 _ rfl rfl rfl
theorem MsAt.setFp (h : MsAt B cb w sv ov s) (v : Int) : MsAt B cb (w.setCell ⟨cb, 2, none⟩ (.int .i64 v)) sv ov ({ s.1 with fp := v }, s.2) ∧ Step cb [sv, ov] [sv, ov] w (w.setCell ⟨cb, 2, none⟩ (.int .i64 v)) := h.setM 2 _ rfl rfl rfl
theorem MsAt.setSt (h : MsAt B cb w sv ov s) (v : Int) : MsAt B cb (w.setCell ⟨cb, 5, none⟩ (.int .i64 v)) sv ov ({ s.1 with stt := v }, s.2) ∧ Step cb [sv, ov] [sv, ov] w (w.setCell ⟨cb, 5, none⟩ (.int .i64 v)) := h.setM 5 _ rfl rfl rfl
theorem MsAt.setVl (h : MsAt B cb w sv ov s) (v : Int) : MsAt B cb (w.setCell ⟨cb, 6, none⟩ (.int .i64 v)) sv ov ({ s.1 with val := v }, s.2) ∧ Step cb [sv, ov] [sv, ov] w (w.setCell ⟨cb, 6, none⟩ (.int .i64 v)) := h.setM 6 _ rfl rfl rfl
theorem MsAt.setB (h : MsAt B cb w sv ov s) (b : Bool) : MsAt B cb (w.setCell ⟨cb, 7, none⟩ (.bool b)) sv ov (s.1, b) ∧ Step cb [sv, ov] [sv, ov] w (w.setCell ⟨cb, 7, none⟩ (.bool b)) := h.setM 7 _ rfl rfl rfl
theorem MsAt.setS {g n c : Nat} (h : MsAt B cb w (.slice (some ⟨g, 0, none⟩) n c) ov s) (a : Nat) (v : Int) :
    MsAt B cb (w.setCell ⟨g, a, none⟩ (.int .i64 v)) (.slice (some ⟨g, 0, none⟩) n c) ov ({ s.1 with st := s.1.st.set a v }, s.2) ∧ Step cb [.slice (some ⟨g, 0, none⟩) n c, ov] [.slice (some ⟨g, 0, none⟩) n c, ov] w (w.setCell ⟨g, a, none⟩ (.int .i64 v)) := by
  have hn : n = s.1.st.length := by
    rcases h.st.2 with ⟨e, _⟩ | ⟨_, _, _, e, _⟩
    · cases e
    · injection e
  subst hn
  obtain ⟨o1, _⟩ := h.off
  have hg1 : cb ≠ g := fun e => o1 (by rw [e]; rfl)
  refine ⟨⟨(set_other hg1).trans h.cr, ?_, by simpa using h.ln, owns_blks h.out (fun k hk => set_other (fun e => h.ap g rfl (by rw [hk, e]))), h.ap⟩, rfl, rfl, rfl, by simp [World.setCell], fun k _ _ hm => set_other (fun e => hm (.slice (some ⟨g, 0, none⟩) _ c) (List.mem_cons_self ..) (by rw [e]; rfl)), rowsS⟩
  have hs := (h.st.stored a (.int .i64 v)).1
  have e1 : ((s.1.st.set a v).length) = s.1.st.length := by simp
  dsimp only
  rw [e1, intV_setS]
  exact hs
theorem MsAt.word {g n c : Nat} (h : MsAt B cb w (.slice (some ⟨g, 0, none⟩) n c) ov s) (k : Nat) (hk : k < 1200) : w.cell? ⟨g, k, none⟩ = some (.int .i64 (s.1.st.getD k 0)) ∧ w.frozen? ⟨g, k, none⟩ = false ∧ n = 1200 := by
  have hn : n = s.1.st.length := by
    rcases h.st.2 with ⟨e, _⟩ | ⟨_, _, _, e, _⟩
    · cases e
    · injection e
  have hl := h.ln
  subst hn
  refine ⟨?_, h.st.frozenAt k, hl⟩
  rw [h.st.cellAt k (by omega)]
  have hkl : k < s.1.st.length := by omega
  simp [intV, List.getD, hkl]
end
set_option maxRecDepth 100000 in
theorem s_near (a n : Int) (hn : -70000 ≤ n ∧ n ≤ 70000) (w : World) : Calls Tryz.prog 62 #[.int .i64 a, .int .i64 n] w fun e w' => e = .returned (.int .i64 (nearZ a n)) ∧ w = w' := by
  have HI := Lib.hid (s_in7n a (-100000) 100000 w)
  by_cases h : -100000 ≤ a ∧ a ≤ 100000
  · have HQ : Hid (nearZ a n = a + n) := Lib.hid (by unfold nearZ; rw [if_pos h])
    have hw : IntKind.i64.wrap (a + n) = a + n := IntWalk.i64_in _ (by omega)
    rw [decide_eq_true h.1, decide_eq_true h.2] at HI
    clear h
    go_enter Tryz.func62, Tryz.ntmps62
    go_wp2_with fail
    refine HI.out.mono ?_
    rintro e w1 ⟨rfl, rfl⟩
    go_wp2
    go_ret
    exact ⟨by rw [HQ.out]; rfl, rfl⟩
  · have HQ : Hid (nearZ a n = -1) := Lib.hid (by unfold nearZ; rw [if_neg h])
    have hd : (decide (-100000 ≤ a) && decide (a ≤ 100000)) = false := by simp; omega
    rw [hd] at HI
    clear h hd
    go_enter Tryz.func62, Tryz.ntmps62
    go_wp2_with fail
    refine HI.out.mono ?_
    rintro e w1 ⟨rfl, rfl⟩
    go_wp2
    go_ret
    exact ⟨by rw [HQ.out]; rfl, rfl⟩
section
variable {B cb : Nat} {w : World} {sv ov : Value} {s : McS}
set_option maxRecDepth 100000 in
set_option maxHeartbeats 1000000 in
theorem s_push (h : MsAt B cb w sv ov s) (v : Int) : Calls Tryz.prog 61 #[.pointer (some ⟨cb, 0, none⟩), .int .i64 v] w (MsR B cb sv ov (.tuple #[]) (pushS s v) w) := by
  obtain ⟨g, c, rfl⟩ := own_formsS h.st (by rw [h.ln]; omega)
  have hln := h.ln
  rw [hln] at h ⊢
  obtain ⟨sp, hsp⟩ : ∃ x, s.1.sp = x := ⟨_, rfl⟩
  have H := Lib.hid h
  obtain ⟨_, e1, _, e3, _, _, _, e7, gm⟩ := h.cells
  have hlt := h.lt
  rw [hsp] at e1
  by_cases h0 : sp < 1
  · have HQ : Hid (pushS s v = (s.1, true)) := Lib.hid (by unfold pushS; rw [if_pos (by omega)])
    have HB := Lib.hid (h.setB true)
    have d0 : decide (sp < 1) = true := decide_eq_true h0
    clear h hsp hln h0
    go_enter Tryz.func61, Tryz.ntmps61
    go_wp2_with fail
    go_end0
    rw [HQ.out]
    exact ⟨rfl, Lib.hid HB.out.1, Lib.hid HB.out.2⟩
  have d0 : decide (sp < 1) = false := decide_eq_false h0
  by_cases h1 : 1200 < sp
  · have HQ : Hid (pushS s v = (s.1, true)) := Lib.hid (by unfold pushS; rw [if_pos (by omega)])
    have HB := Lib.hid (h.setB true)
    have d1 : decide (1200 < sp) = true := decide_eq_true h1
    clear h hsp hln h0 h1
    go_enter Tryz.func61, Tryz.ntmps61
    go_wp2_with fail
    go_end0
    rw [HQ.out]
    exact ⟨rfl, Lib.hid HB.out.1, Lib.hid HB.out.2⟩
  have d1 : decide (1200 < sp) = false := decide_eq_false h1
  obtain ⟨k, hk⟩ : ∃ k : Nat, sp - 1 = (k : Int) := ⟨(sp - 1).toNat, (Int.toNat_of_nonneg (by omega)).symm⟩
  have hw : IntKind.i64.wrap (sp - 1) = (k : Int) := (IntWalk.i64_in _ (by omega)).trans hk
  have HQ : Hid (pushS s v = ({ s.1 with sp := (k : Int), st := s.1.st.set k v }, s.2)) := Lib.hid (by unfold pushS; rw [if_neg (by omega), hsp, hk, Int.toNat_natCast])
  have hk2 : k < 1200 := by omega
  have H1 := Lib.hid (h.setSp (k : Int))
  have H2 := Lib.hid (H1.out.1.setS k v)
  obtain ⟨ek, gk, _⟩ := H1.out.1.word k hk2
  have K0 : Hid ((w.setCell ⟨cb, 1, none⟩ (.int .i64 (k : Int))).cell? ⟨cb, 1, none⟩ = some (.int .i64 (k : Int)) ∧ (w.setCell ⟨cb, 1, none⟩ (.int .i64 (k : Int))).cell? ⟨cb, 3, none⟩ = some (.slice (some ⟨g, 0, none⟩) 1200 c)) := Lib.hid ⟨H1.out.1.cells.2.1, H1.out.1.cells.2.2.2.1⟩
  have y0 : (0 : Int) ≤ (k : Int) := by omega
  have y1 : (k : Int) < 1200 := by omega
  clear h hsp hln h0 h1 hk
  go_enter Tryz.func61, Tryz.ntmps61
  go_upto_region 3 with fail
  refine E_start (S := (fun w' => w'.cell? ⟨cb, 1, none⟩ = some (.int .i64 (k : Int)) ∧ w'.cell? ⟨cb, 3, none⟩ = some (.slice (some ⟨g, 0, none⟩) 1200 c))) 12 (by kernel_rfl) (K0.out) (fun hHeld => ?_)
  refine E_take (i := 0) (oi := _) (v := ?_) rfl (by kernel_rfl) (fun _ _ _ h => h) ?_ (by assumption) ?_
  rotate_left 1
  · (refine Or.inl ⟨by rfl, ?_⟩; intro w hSw; (try dsimp only at hSw); (try simp only [List.getElem_toArray, List.getElem_cons_zero, List.getElem_cons_succ]); go_simp; (first | done | with_reducible rfl))
  try simp only [Act.put, List.setIfInBounds_toArray, List.set_cons_zero, List.set_cons_succ, List.getElem_toArray, List.getElem_cons_zero, List.getElem_cons_succ]
  refine E_take (i := 1) (oi := _) (v := ?_) rfl (by kernel_rfl) (fun _ _ _ h => h) ?_ (by assumption) ?_
  rotate_left 1
  · (refine Or.inl ⟨by rfl, ?_⟩; intro w hSw; (try dsimp only at hSw); (try simp only [List.getElem_toArray, List.getElem_cons_zero, List.getElem_cons_succ]); go_simp; (first | done | with_reducible rfl))
  try simp only [Act.put, List.setIfInBounds_toArray, List.set_cons_zero, List.set_cons_succ, List.getElem_toArray, List.getElem_cons_zero, List.getElem_cons_succ]
  refine E_take (i := 2) (oi := _) (v := ?_) rfl (by kernel_rfl) (fun _ _ _ h => h) ?_ (by assumption) ?_
  rotate_left 1
  · (refine Or.inl ⟨by rfl, ?_⟩; intro w hSw; (try dsimp only at hSw); (try simp only [List.getElem_toArray, List.getElem_cons_zero, List.getElem_cons_succ]); go_simp; (first | done | with_reducible rfl))
  try simp only [Act.put, List.setIfInBounds_toArray, List.set_cons_zero, List.set_cons_succ, List.getElem_toArray, List.getElem_cons_zero, List.getElem_cons_succ]
  refine E_take (i := 3) (oi := _) (v := ?_) rfl (by kernel_rfl) (fun _ _ _ h => h) ?_ (by assumption) ?_
  rotate_left 1
  · (refine Or.inl ⟨by rfl, ?_⟩; intro w hSw; (try dsimp only at hSw); (try simp only [List.getElem_toArray, List.getElem_cons_zero, List.getElem_cons_succ]); go_simp; (first | done | with_reducible rfl))
  try simp only [Act.put, List.setIfInBounds_toArray, List.set_cons_zero, List.set_cons_succ, List.getElem_toArray, List.getElem_cons_zero, List.getElem_cons_succ]
  refine E_take (i := 4) (oi := _) (v := ?_) rfl (by kernel_rfl) (fun _ _ _ h => h) ?_ (by assumption) ?_
  rotate_left 1
  · (refine Or.inl ⟨by rfl, ?_⟩; intro w hSw; (try dsimp only at hSw); (try simp only [List.getElem_toArray, List.getElem_cons_zero, List.getElem_cons_succ]); go_simp; (first | done | with_reducible rfl))
  try simp only [Act.put, List.setIfInBounds_toArray, List.set_cons_zero, List.set_cons_succ, List.getElem_toArray, List.getElem_cons_zero, List.getElem_cons_succ]
  refine E_take (i := 5) (oi := _) (v := ?_) rfl (by kernel_rfl) (fun _ _ _ h => h) ?_ (by assumption) ?_
  rotate_left 1
  · (refine Or.inl ⟨by rfl, ?_⟩; intro w hSw; (try dsimp only at hSw); (try simp only [List.getElem_toArray, List.getElem_cons_zero, List.getElem_cons_succ]); go_simp; (first | done | with_reducible rfl))
  try simp only [Act.put, List.setIfInBounds_toArray, List.set_cons_zero, List.set_cons_succ, List.getElem_toArray, List.getElem_cons_zero, List.getElem_cons_succ]
  refine E_take (i := 6) (oi := _) (v := ?_) rfl (by kernel_rfl) (fun _ _ _ h => h) ?_ (by assumption) ?_
  rotate_left 1
  · (refine Or.inl ⟨by rfl, ?_⟩; intro w hSw; (try dsimp only at hSw); (try simp only [List.getElem_toArray, List.getElem_cons_zero, List.getElem_cons_succ]); go_simp; (first | done | with_reducible rfl))
  try simp only [Act.put, List.setIfInBounds_toArray, List.set_cons_zero, List.set_cons_succ, List.getElem_toArray, List.getElem_cons_zero, List.getElem_cons_succ]
  refine E_take (i := 7) (oi := _) (v := ?_) rfl (by kernel_rfl) (fun _ _ _ h => h) ?_ (by assumption) ?_
  rotate_left 1
  · (refine Or.inl ⟨by rfl, ?_⟩; intro w hSw; (try dsimp only at hSw); (try simp only [List.getElem_toArray, List.getElem_cons_zero, List.getElem_cons_succ]); go_simp; (first | done | with_reducible rfl))
  try simp only [Act.put, List.setIfInBounds_toArray, List.set_cons_zero, List.set_cons_succ, List.getElem_toArray, List.getElem_cons_zero, List.getElem_cons_succ]
  refine E_take (i := 8) (oi := _) (v := ?_) rfl (by kernel_rfl) (fun _ _ _ h => h) ?_ (by assumption) ?_
  rotate_left 1
  · (refine Or.inl ⟨by rfl, ?_⟩; intro w hSw; (try dsimp only at hSw); (try simp only [List.getElem_toArray, List.getElem_cons_zero, List.getElem_cons_succ]); go_simp; (first | done | with_reducible rfl))
  try simp only [Act.put, List.setIfInBounds_toArray, List.set_cons_zero, List.set_cons_succ, List.getElem_toArray, List.getElem_cons_zero, List.getElem_cons_succ]
  refine E_take (i := 9) (oi := _) (v := ?_) rfl (by kernel_rfl) (fun _ _ _ h => h) ?_ (by assumption) ?_
  rotate_left 1
  · (refine Or.inl ⟨by rfl, ?_⟩; intro w hSw; (try dsimp only at hSw); (try simp only [List.getElem_toArray, List.getElem_cons_zero, List.getElem_cons_succ]); go_simp; (first | done | with_reducible rfl))
  try simp only [Act.put, List.setIfInBounds_toArray, List.set_cons_zero, List.set_cons_succ, List.getElem_toArray, List.getElem_cons_zero, List.getElem_cons_succ]
  refine E_take (i := 10) (oi := _) (v := ?_) rfl (by kernel_rfl) (fun _ _ _ h => h) ?_ (by assumption) ?_
  rotate_left 1
  · (refine Or.inl ⟨by rfl, ?_⟩; intro w hSw; (try dsimp only at hSw); (try simp only [List.getElem_toArray, List.getElem_cons_zero, List.getElem_cons_succ]); go_simp; (first | done | with_reducible rfl))
  try simp only [Act.put, List.setIfInBounds_toArray, List.set_cons_zero, List.set_cons_succ, List.getElem_toArray, List.getElem_cons_zero, List.getElem_cons_succ]
  refine E_take (i := 11) (oi := _) (v := ?_) rfl (by kernel_rfl) (fun _ _ _ h => h) ?_ (by assumption) ?_
  rotate_left 1
  · (refine Or.inl ⟨by rfl, ?_⟩; intro w hSw; (try dsimp only at hSw); (try simp only [List.getElem_toArray, List.getElem_cons_zero, List.getElem_cons_succ]); go_simp; (first | done | with_reducible rfl))
  try simp only [Act.put, List.setIfInBounds_toArray, List.set_cons_zero, List.set_cons_succ, List.getElem_toArray, List.getElem_cons_zero, List.getElem_cons_succ]
  refine E_last (o := _) (by kernel_rfl) rfl (by kernel_rfl) (fun K hK => ?_)
  try simp only [List.getElem_toArray, List.getElem_cons_zero, List.getElem_cons_succ]
  go_simp
  refine hK.out _ _ ?_
  clear hK K
  go_wp2
  go_end0
  rw [HQ.out]
  exact ⟨rfl, Lib.hid (H2.out.1.below (Below.refl _ _).drew), Lib.hid ((H1.out.2.trans H2.out.2).trans (Step.of_below (Below.refl _ _).drew))⟩
set_option maxRecDepth 100000 in
set_option maxHeartbeats 1000000 in
theorem s_word (h : MsAt B cb w sv ov s) (a : Int) : Calls Tryz.prog 42 #[.pointer (some ⟨cb, 0, none⟩), .int .i64 a] w (MsR B cb sv ov (.int .i64 (wordS s a).1) (wordS s a).2 w) := by
  obtain ⟨g, c, rfl⟩ := own_formsS h.st (by rw [h.ln]; omega)
  have hln := h.ln
  rw [hln] at h ⊢
  obtain ⟨_, _, _, e3, _, _, _, e7, gm⟩ := h.cells
  have hlt := h.lt
  have HI := Lib.hid (s_in7n a 0 1199 w)
  by_cases h0 : 0 ≤ a ∧ a ≤ 1199
  · have HQ : Hid (wordS s a = (s.1.st.getD a.toNat 0, s)) := Lib.hid (by unfold wordS; rw [if_pos h0])
    rw [decide_eq_true h0.1, decide_eq_true h0.2] at HI
    obtain ⟨k, rfl⟩ : ∃ k : Nat, a = (k : Int) := ⟨a.toNat, (Int.toNat_of_nonneg h0.1).symm⟩
    rw [Int.toNat_natCast] at HQ
    have ek := (h.word k (by omega)).1
    have H := Lib.hid h
    have y0 : (0 : Int) ≤ (k : Int) := by omega
    have y1 : (k : Int) < 1200 := by omega
    clear h hln h0
    go_enter Tryz.func42, Tryz.ntmps42
    go_wp2_with fail
    refine HI.out.mono ?_
    rintro e w1 ⟨rfl, rfl⟩
    go_wp2
    go_ret
    rw [HQ.out]
    exact ⟨rfl, H, Lib.hid (Step.refl _ _ _)⟩
  · have HQ : Hid (wordS s a = (0, (s.1, true))) := Lib.hid (by unfold wordS; rw [if_neg h0])
    have hd : (decide (0 ≤ a) && decide (a ≤ 1199)) = false := by simp; omega
    rw [hd] at HI
    have HB := Lib.hid (h.setB true)
    clear h hln h0 hd
    go_enter Tryz.func42, Tryz.ntmps42
    go_wp2_with fail
    refine HI.out.mono ?_
    rintro e w1 ⟨rfl, rfl⟩
    go_wp2
    go_ret
    rw [HQ.out]
    exact ⟨rfl, Lib.hid HB.out.1, Lib.hid HB.out.2⟩
set_option maxRecDepth 100000 in
set_option maxHeartbeats 1000000 in
theorem s_put (h : MsAt B cb w sv ov s) (a v : Int) : Calls Tryz.prog 63 #[.pointer (some ⟨cb, 0, none⟩), .int .i64 a, .int .i64 v] w (MsR B cb sv ov (.tuple #[]) (putS s a v) w) := by
  obtain ⟨g, c, rfl⟩ := own_formsS h.st (by rw [h.ln]; omega)
  have hln := h.ln
  rw [hln] at h ⊢
  obtain ⟨_, _, _, e3, _, _, _, e7, gm⟩ := h.cells
  have hlt := h.lt
  have HI := Lib.hid (s_in7n a 0 1199 w)
  by_cases h0 : 0 ≤ a ∧ a ≤ 1199
  · have HQ : Hid (putS s a v = ({ s.1 with st := s.1.st.set a.toNat v }, s.2)) := Lib.hid (by unfold putS; rw [if_pos h0])
    rw [decide_eq_true h0.1, decide_eq_true h0.2] at HI
    obtain ⟨k, rfl⟩ : ∃ k : Nat, a = (k : Int) := ⟨a.toNat, (Int.toNat_of_nonneg h0.1).symm⟩
    rw [Int.toNat_natCast] at HQ
    obtain ⟨ek, gk, _⟩ := h.word k (by omega)
    have H2 := Lib.hid (h.setS k v)
    have y0 : (0 : Int) ≤ (k : Int) := by omega
    have y1 : (k : Int) < 1200 := by omega
    clear h hln h0
    go_enter Tryz.func63, Tryz.ntmps63
    go_wp2_with fail
    refine HI.out.mono ?_
    rintro e w1 ⟨rfl, rfl⟩
    go_wp2
    go_end0
    rw [HQ.out]
    exact ⟨rfl, Lib.hid H2.out.1, Lib.hid H2.out.2⟩
  · have HQ : Hid (putS s a v = (s.1, true)) := Lib.hid (by unfold putS; rw [if_neg h0])
    have hd : (decide (0 ≤ a) && decide (a ≤ 1199)) = false := by simp; omega
    rw [hd] at HI
    have HB := Lib.hid (h.setB true)
    clear h hln h0 hd
    go_enter Tryz.func63, Tryz.ntmps63
    go_wp2_with fail
    refine HI.out.mono ?_
    rintro e w1 ⟨rfl, rfl⟩
    go_wp2
    go_end0
    rw [HQ.out]
    exact ⟨rfl, Lib.hid HB.out.1, Lib.hid HB.out.2⟩
theorem word_sp {s : McS} {a : Int} (h : (wordS s a).2.2 = false) : (wordS s a).2 = s ∧ 0 ≤ a ∧ a ≤ 1199 := by
  unfold wordS at h ⊢
  by_cases h0 : 0 ≤ a ∧ a ≤ 1199
  · rw [if_pos h0]; exact ⟨rfl, h0⟩
  · rw [if_neg h0] at h; cases h
set_option maxRecDepth 100000 in
set_option maxHeartbeats 1000000 in
theorem s_pop (h : MsAt B cb w sv ov s) : Calls Tryz.prog 64 #[.pointer (some ⟨cb, 0, none⟩)] w (MsR B cb sv ov (.int .i64 (popS s).1) (popS s).2 w) := by
  obtain ⟨sp, hsp⟩ : ∃ x, s.1.sp = x := ⟨_, rfl⟩
  have R := Lib.hid (s_word h sp)
  obtain ⟨_, e1, _, _, _, _, _, _, _⟩ := h.cells
  rw [hsp] at e1
  unfold popS
  rw [hsp]
  have HSP := Lib.hid hsp
  clear h hsp
  cases hb : (wordS s sp).2.2 with
  | true =>
    rw [if_pos rfl]
    have HB := Lib.hid hb
    clear hb
    go_enter Tryz.func64, Tryz.ntmps64
    go_wp2_with fail
    refine R.out.mono ?_
    rintro e w1 ⟨rfl, HC, HS⟩
    have e7 : w1.cell? ⟨cb, 7, none⟩ = some (.bool true) := by rw [← HB.out]; exact HC.out.cells.2.2.2.2.2.2.2.1
    go_wp2
    go_ret
    exact ⟨rfl, HC, HS⟩
  | false =>
    rw [if_neg (by decide)]
    have HB := Lib.hid hb
    obtain ⟨hw, h0, h1⟩ := word_sp hb
    have HW := Lib.hid hw
    have hwp : IntKind.i64.wrap (sp + 1) = sp + 1 := IntWalk.i64_in _ (by omega)
    clear hb hw
    go_enter Tryz.func64, Tryz.ntmps64
    go_wp2_with fail
    refine R.out.mono ?_
    rintro e w1 ⟨rfl, HC, HS⟩
    have e7 : w1.cell? ⟨cb, 7, none⟩ = some (.bool false) := by rw [← HB.out]; exact HC.out.cells.2.2.2.2.2.2.2.1
    have e1' : w1.cell? ⟨cb, 1, none⟩ = some (.int .i64 sp) := by have h := HC.out.cells.2.1; rw [HW.out, HSP.out] at h; exact h
    have gm := HC.out.cells.2.2.2.2.2.2.2.2
    have hlt := HC.out.lt
    have H2 := Lib.hid (HC.out.setSp (sp + 1))
    go_wp2
    go_ret
    refine ⟨rfl, Lib.hid ?_, Lib.hid (HS.out.trans H2.out.2)⟩
    have h := H2.out.1
    rw [HB.out, HW.out] at h
    exact h
set_option maxRecDepth 100000 in
set_option maxHeartbeats 1000000 in
theorem s_drop (h : MsAt B cb w sv ov s) (n : Nat) (hn : n ≤ 1000000) : Calls Tryz.prog 66 #[.pointer (some ⟨cb, 0, none⟩), .int .i64 (n : Int)] w (MsR B cb sv ov (.tuple #[]) (dropS n s) w) := by
  have HC := Lib.hid h
  clear h
  go_enter Tryz.func66, Tryz.ntmps66
  go_wp2_with fail
  go_loopw [4] (fun k wr => ∃ (j : Nat) (s' : McS), k = .int .i64 (j : Int) ∧ j ≤ n ∧ Hid (dropS (n - j) s' = dropS n s) ∧ Hid (MsAt B cb wr sv ov s') ∧ Hid (Step cb [sv, ov] [sv, ov] w wr)) (fun k _ => n - (RowKit.intOf k).toNat)
  case atStart => exact ⟨0, s, rfl, Nat.zero_le _, Lib.hid rfl, HC, Lib.hid (Step.refl _ _ _)⟩
  case round =>
    obtain ⟨j, s', rfl, hj, HD, HM, HS⟩ := hrel
    by_cases hlt : j < n
    · have P := Lib.hid (s_pop HM.out)
      have HD1 : Hid (dropS (n - (j + 1)) ((popS s').2) = dropS n s) := Lib.hid (by rw [← HD.out, show n - j = (n - (j + 1)) + 1 from by omega]; rfl)
      go_wp2_with fail
      refine P.out.mono ?_
      rintro e w1 ⟨rfl, HM1, HS1⟩
      go_wp2
      go_roundw
      case rel => exact ⟨j + 1, (popS s').2, by go_num, by omega, HD1, HM1, Lib.hid (HS.out.trans HS1.out)⟩
      case measure => simp [RowKit.intOf]; omega
    · have hjj : n - j = 0 := by omega
      have HF : Hid (s' = dropS n s) := Lib.hid (by rw [← HD.out, hjj]; rfl)
      clear hjj
      go_wp2
      go_end0
      exact ⟨rfl, Lib.hid (HF.out ▸ HM.out), HS⟩
set_option maxRecDepth 100000 in
set_option maxHeartbeats 1000000 in
theorem s_zeros (h : MsAt B cb w sv ov s) (n : Nat) (hn : n ≤ 1000000) : Calls Tryz.prog 65 #[.pointer (some ⟨cb, 0, none⟩), .int .i64 (n : Int)] w (MsR B cb sv ov (.tuple #[]) (zerosS n s) w) := by
  have HC := Lib.hid h
  clear h
  go_enter Tryz.func65, Tryz.ntmps65
  go_wp2_with fail
  go_loopw [4] (fun k wr => ∃ (j : Nat) (s' : McS), k = .int .i64 (j : Int) ∧ j ≤ n ∧ Hid (zerosS (n - j) s' = zerosS n s) ∧ Hid (MsAt B cb wr sv ov s') ∧ Hid (Step cb [sv, ov] [sv, ov] w wr)) (fun k _ => n - (RowKit.intOf k).toNat)
  case atStart => exact ⟨0, s, rfl, Nat.zero_le _, Lib.hid rfl, HC, Lib.hid (Step.refl _ _ _)⟩
  case round =>
    obtain ⟨j, s', rfl, hj, HD, HM, HS⟩ := hrel
    by_cases hlt : j < n
    · have P := Lib.hid (s_push HM.out 0)
      have HD1 : Hid (zerosS (n - (j + 1)) (pushS s' 0) = zerosS n s) := Lib.hid (by rw [← HD.out, show n - j = (n - (j + 1)) + 1 from by omega]; rfl)
      go_wp2_with fail
      refine P.out.mono ?_
      rintro e w1 ⟨rfl, HM1, HS1⟩
      go_wp2
      go_roundw
      case rel => exact ⟨j + 1, pushS s' 0, by go_num, by omega, HD1, HM1, Lib.hid (HS.out.trans HS1.out)⟩
      case measure => simp [RowKit.intOf]; omega
    · have hjj : n - j = 0 := by omega
      have HF : Hid (s' = zerosS n s) := Lib.hid (by rw [← HD.out, hjj]; rfl)
      clear hjj
      go_wp2
      go_end0
      exact ⟨rfl, Lib.hid (HF.out ▸ HM.out), HS⟩
end
end Go.Proofs.YtakgjlpgcepnkaaGreat

/-! The model's Wrap and Apply -/
namespace Go.Proofs.YtakgjlpgcepnkaaGreat
open Go.RowKit Go.Lib

theorem ret_i {k : IntKind} {a b : Int} (h : a = b) : Ending.returned (.int k a) = .returned (.int k b) := by rw [h]

theorem s_wrap (x : Int) (w : World) : Calls Tryz.prog 94 #[.int .i64 x] w fun e w' => e = .returned (.int .i64 (W32 x)) ∧ w = w' := by
  have hb := i64_and32 x
  obtain ⟨hl, hh⟩ := mod32 x
  by_cases h : 2147483647 < x % 4294967296
  · have hr := Lib.hid (W32_big x h)
    go_enter Tryz.func94, Tryz.ntmps94
    go_wp2
    go_ret
    exact ⟨ret_i hr.out, rfl⟩
  · have hr := Lib.hid (W32_small x h)
    go_enter Tryz.func94, Tryz.ntmps94
    go_wp2
    go_ret
    exact ⟨ret_i hr.out, rfl⟩
set_option maxHeartbeats 400000 in
theorem s_apply (k a b : Int) (w : World) : Calls Tryz.prog 67 #[.int .i64 k, .int .i64 a, .int .i64 b] w fun e w' => e = .returned (.int .i64 (appZ k a b)) ∧ w = w' := by
  have ha0 := W32_lo a
  have ha1 := W32_hi a
  have hb0 := W32_lo b
  have hb1 := W32_hi b
  have hm := Lib.hid (mul_bd a b)
  by_cases h2 : k = 2
  · subst h2
    have hr := Lib.hid (appZ_add a b)
    go_enter Tryz.func67, Tryz.ntmps67
    go_wp2_with (first | (go_at_call 94; refine (s_wrap _ _).mono ?_; rintro e w' ⟨rfl, rfl⟩))
    go_ret
    exact ⟨ret_i hr.out.symm, rfl⟩
  by_cases h3 : k = 3
  · subst h3
    have hr := Lib.hid (appZ_sub a b)
    go_enter Tryz.func67, Tryz.ntmps67
    go_wp2_with (first | (go_at_call 94; refine (s_wrap _ _).mono ?_; rintro e w' ⟨rfl, rfl⟩))
    go_ret
    exact ⟨ret_i hr.out.symm, rfl⟩
  by_cases h4 : k = 4
  · subst h4
    have hr := Lib.hid (appZ_mul a b)
    have hm0 := hm.out.1
    have hm1 := hm.out.2
    go_enter Tryz.func67, Tryz.ntmps67
    go_wp2_with (first | (go_at_call 94; refine (s_wrap _ _).mono ?_; rintro e w' ⟨rfl, rfl⟩))
    go_ret
    exact ⟨ret_i hr.out.symm, rfl⟩
  by_cases h5 : k = 5
  · subst h5
    by_cases h : W32 a < W32 b
    · have hr := Lib.hid (appZ_lt1 a b h)
      go_enter Tryz.func67, Tryz.ntmps67
      go_wp2_with (first | (go_at_call 94; refine (s_wrap _ _).mono ?_; rintro e w' ⟨rfl, rfl⟩))
      go_ret
      exact ⟨ret_i hr.out.symm, rfl⟩
    · have hr := Lib.hid (appZ_lt0 a b h)
      go_enter Tryz.func67, Tryz.ntmps67
      go_wp2_with (first | (go_at_call 94; refine (s_wrap _ _).mono ?_; rintro e w' ⟨rfl, rfl⟩))
      go_ret
      exact ⟨ret_i hr.out.symm, rfl⟩
  by_cases h6 : k = 6
  · subst h6
    by_cases h : W32 a = W32 b
    · have hr := Lib.hid (appZ_eq1 a b h)
      have h' : (W32 a == W32 b) = true := by simpa using h
      clear h
      go_enter Tryz.func67, Tryz.ntmps67
      go_wp2_with (first | (go_at_call 94; refine (s_wrap _ _).mono ?_; rintro e w' ⟨rfl, rfl⟩))
      go_ret
      exact ⟨ret_i hr.out.symm, rfl⟩
    · have hr := Lib.hid (appZ_eq0 a b h)
      have h' : (W32 a == W32 b) = false := by simpa using h
      clear h
      go_enter Tryz.func67, Tryz.ntmps67
      go_wp2_with (first | (go_at_call 94; refine (s_wrap _ _).mono ?_; rintro e w' ⟨rfl, rfl⟩))
      go_ret
      exact ⟨ret_i hr.out.symm, rfl⟩
  · have hr := Lib.hid (appZ_other k a b h2 h3 h4 h5 h6)
    have e2 : (k == 2) = false := by simpa using h2
    have e3 : (k == 3) = false := by simpa using h3
    have e4 : (k == 4) = false := by simpa using h4
    have e5 : (k == 5) = false := by simpa using h5
    have e6 : (k == 6) = false := by simpa using h6
    clear h2 h3 h4 h5 h6
    go_enter Tryz.func67, Tryz.ntmps67
    go_wp2_with (first | (go_at_call 94; refine (s_wrap _ _).mono ?_; rintro e w' ⟨rfl, rfl⟩))
    go_ret
    exact ⟨ret_i hr.out.symm, rfl⟩
end Go.Proofs.YtakgjlpgcepnkaaGreat

/-! The model's l11Perform: an instruction is performed -/
namespace Go.Proofs.YtakgjlpgcepnkaaGreat
open Go.RowKit Go.Lib

/-- What an instruction leaves; the output's row may be another one. -/
def MsP (B cb : Nat) (sv ov : Value) (s' : McS) (w : World) (e : Ending) (w' : World) : Prop := e = .returned (.tuple #[]) ∧ ∃ ov', Hid (MsAt B cb w' sv ov' s') ∧ Hid (Step cb [sv, ov] [sv, ov'] w w')
theorem popS_m (s : McS) : (popS s).2.1.pc = s.1.pc ∧ (popS s).2.1.fp = s.1.fp ∧ (popS s).2.1.out = s.1.out := by
  unfold popS wordS
  by_cases h : 0 ≤ s.1.sp ∧ s.1.sp ≤ 1199
  · rw [if_pos h]; dsimp only; split <;> exact ⟨rfl, rfl, rfl⟩
  · rw [if_neg h]; dsimp only; rw [if_pos rfl]; exact ⟨rfl, rfl, rfl⟩
theorem wordS_m (s : McS) (a : Int) : (wordS s a).2.1 = s.1 := by unfold wordS; split <;> rfl
section
variable {B cb : Nat} {w : World} {sv ov : Value} {s : McS}
/-- The boxes of the space and the instruction are there; what may have been turned since. -/
structure Bs (B cb : Nat) (sv ov : Value) (w : World) (a0 a1 a2 : Option Addr) (c0 c1 c2 n : Nat) (c a : Int) (s : McS) (W : World) : Prop where
  ms : MsAt B cb W sv ov s
  al : Step cb [sv, ov] [sv, ov] w W
  s2 : W.cell? ⟨w.heap.size, 2, none⟩ = some (.slice a2 n c2)
  b0 : W.cell? ⟨w.heap.size + 1, 0, none⟩ = some (.int .i64 c)
  b1 : W.cell? ⟨w.heap.size + 1, 1, none⟩ = some (.int .i64 a)
  r0 : W.heap[w.heap.size]? = some (.cells #[.slice a0 2 c0, .slice a1 2 c1, .slice a2 n c2] 34 (0, 0))
  r1 : W.heap[w.heap.size + 1]? = some (.cells #[.int .i64 c, .int .i64 a] 75 (0, 0))
theorem Bs.of {a0 a1 a2 : Option Addr} {c0 c1 c2 n : Nat} {c a : Int} {W : World} {s1 : McS} (ms : MsAt B cb W sv ov s1) (al : Step cb [sv, ov] [sv, ov] w W)
    (r0 : W.heap[w.heap.size]? = some (.cells #[.slice a0 2 c0, .slice a1 2 c1, .slice a2 n c2] 34 (0, 0))) (r1 : W.heap[w.heap.size + 1]? = some (.cells #[.int .i64 c, .int .i64 a] 75 (0, 0))) : Bs B cb sv ov w a0 a1 a2 c0 c1 c2 n c a s1 W :=
  ⟨ms, al, (blk r0).1 2 _ rfl, (blk r1).1 0 _ rfl, (blk r1).1 1 _ rfl, r0, r1⟩
theorem Bs.next {a0 a1 a2 : Option Addr} {c0 c1 c2 n : Nat} {c a : Int} {W W' : World} {s1 s' : McS} (hcb : cb < w.heap.size) (hb : Bs B cb sv ov w a0 a1 a2 c0 c1 c2 n c a s1 W) (hm : MsAt B cb W' sv ov s') (hS : Step cb [sv, ov] [sv, ov] W W') : Bs B cb sv ov w a0 a1 a2 c0 c1 c2 n c a s' W' := by
  have kp : ∀ {b T : Nat} {cs : Array Value}, w.heap.size ≤ b → T ≠ 3 → W.heap[b]? = some (.cells cs T (0, 0)) → W'.heap[b]? = some (.cells cs T (0, 0)) := fun hbb hT hc => hS.keep hc (by omega) (fun u hu => by
    simp only [List.mem_cons, List.not_mem_nil, or_false] at hu
    rcases hu with rfl | rfl
    · exact ne_types hb.ms.st hc (fun e => hT e.symm)
    · exact ne_types hb.ms.out hc (fun e => hT e.symm))
  exact Bs.of hm (hb.al.trans hS) (kp (Nat.le_refl _) (by decide) hb.r0) (kp (by omega) (by decide) hb.r1)
theorem Bs.drew {a0 a1 a2 : Option Addr} {c0 c1 c2 n : Nat} {c a : Int} {W : World} {s1 : McS} (hcb : cb < w.heap.size) (hb : Bs B cb sv ov w a0 a1 a2 c0 c1 c2 n c a s1 W) : Bs B cb sv ov w a0 a1 a2 c0 c1 c2 n c a s1 W.drew := hb.next hcb (hb.ms.below (Below.refl _ _).drew) (Step.of_below (Below.refl _ _).drew)
theorem MsP.of {s' : McS} {e : Ending} {a0 a1 a2 : Option Addr} {c0 c1 c2 n : Nat} {c a : Int} {W : World} (he : e = .returned (.tuple #[])) (hb : Bs B cb sv ov w a0 a1 a2 c0 c1 c2 n c a s' W) : MsP B cb sv ov s' w e W := ⟨he, ov, Lib.hid hb.ms, Lib.hid hb.al⟩
theorem MsP.eq {s' s'' : McS} {e : Ending} {W : World} (h : MsP B cb sv ov s'' w e W) (he : s' = s'') : MsP B cb sv ov s' w e W := he ▸ h
theorem intV_snocS (l : List Int) (v : Int) : intV (l ++ [v]) = intV l ++ #[Value.int .i64 v].toList := by unfold intV; rw [List.map_append]; rfl
theorem own_shS {B T s n : Nat} {w : World} {v : Value} {xs : List Value} (h : w.ownsRow B T s v n xs) : ∃ a c, v = .slice a n c := by
  rcases h.2 with ⟨rfl, rfl⟩ | ⟨g, cap, cur, rfl, _⟩
  · exact ⟨_, _, rfl⟩
  · exact ⟨_, _, rfl⟩
theorem alloc_cellS {w : World} {o : Obj} {p : Addr} (h : p.block < w.heap.size) : (w.alloc o).cell? p = w.cell? p := World.cell?_of_block (Below.heap_alloc _ _ _ h)
theorem fin_outS {v : Int} {s1 : McS} {w1 w3 : World} {g3 c3 on oc : Nat} {oa : Option Addr} (B1 : MsAt B cb w1 sv (.slice oa on oc) s1) (hn : s1.1.out.length = on)
    (hg : (w1.alloc (.cells #[.int .i64 v] 3)).grownBy w3 (Value.slice oa on oc).ownBlock) (hi : w3.ownsRow B 3 1 (.slice (some ⟨g3, 0, none⟩) (on + 1) c3) (on + 1) (intV s1.1.out ++ #[Value.int .i64 v].toList))
    (hat : (Value.slice oa on oc).ownBlock = some g3 ∨ g3 = (w1.alloc (.cells #[.int .i64 v] 3)).heap.size) :
    w3.cell? ⟨cb, 4, none⟩ = some (.slice oa on oc) ∧
      Hid (MsAt B cb (w3.setCell ⟨cb, 4, none⟩ (.slice (some ⟨g3, 0, none⟩) (on + 1) c3)) sv (.slice (some ⟨g3, 0, none⟩) (on + 1) c3) ({ s1.1 with out := s1.1.out ++ [v] }, s1.2)) ∧
      Hid (Step cb [sv, .slice oa on oc] [sv, .slice (some ⟨g3, 0, none⟩) (on + 1) c3] w1 (w3.setCell ⟨cb, 4, none⟩ (.slice (some ⟨g3, 0, none⟩) (on + 1) c3))) ∧ w3.frozen? ⟨cb, 4, none⟩ = false ∧ cb < w3.heap.size := by
  have hz : (w1.alloc (.cells #[.int .i64 v] 3)).heap.size = w1.heap.size + 1 := by simp
  have hg2 : w1.grownBy w3 (Value.slice oa on oc).ownBlock := ⟨hg.os, hg.tape, hg.output, by have := hg.size; omega, fun q hq hne => (hg.block q (by omega) hne).trans (Below.heap_alloc _ _ _ hq)⟩
  obtain ⟨o1, o2⟩ := B1.off
  have hcr := (hg2.block cb B1.lt (fun e => o2 e.symm)).trans B1.cr
  have hst := far B1.st hg2 (fun k e e' => B1.ap k e e')
  have nm : (Value.slice (some ⟨g3, 0, none⟩) (on + 1) c3).ownBlock ≠ some cb := ne_types hi hcr (by decide)
  have other : ∀ {u : Value}, u.ownBlock ≠ some cb → ∀ g, u.ownBlock = some g → (w3.setCell ⟨cb, 4, none⟩ (.slice (some ⟨g3, 0, none⟩) (on + 1) c3)).heap[g]? = w3.heap[g]? := fun hu g hg => set_other (fun e => hu (by rw [hg, e]))
  have hsz := hg2.size
  refine ⟨(blk hcr).1 4 _ rfl, Lib.hid ⟨heap_setCell_at hcr _, owns_blks hst (other o1), B1.ln, ?_, fun k e e' => ?_⟩, Lib.hid ⟨hg2.os, hg2.tape, hg2.output, by simpa [World.setCell] using hsz, fun k hk hr hm => (set_other hr).trans (hg2.block k hk (fun e => hm (.slice oa on oc) (by simp) e.symm)), fun u hu k hk => ?_⟩, (blk hcr).2.1 4, (blk hcr).2.2⟩
  · have h := owns_blks hi (other nm)
    dsimp only
    rw [List.length_append, hn, intV_snocS]
    exact h
  · have e2 : g3 = k := Option.some.inj e'
    rcases hat with h | h
    · exact B1.ap k e (by rw [h, e2])
    · have := (B1.st.lt k e).2; omega
  · simp only [List.mem_cons, List.not_mem_nil, or_false] at hu
    rcases hu with rfl | rfl
    · exact .inl ⟨_, List.mem_cons_self .., hk⟩
    · have e2 : g3 = k := Option.some.inj hk
      rcases hat with h | h
      · exact .inl ⟨.slice oa on oc, by simp, by rw [h, e2]⟩
      · exact .inr (by omega)
end
theorem infoIntS : (Tryz.prog.info? 3).map (fun i => (i.zero, i.size, i.bytes)) = some (some (.int .i64 0), 1, 8) := by kernel_rfl
end Go.Proofs.YtakgjlpgcepnkaaGreat
