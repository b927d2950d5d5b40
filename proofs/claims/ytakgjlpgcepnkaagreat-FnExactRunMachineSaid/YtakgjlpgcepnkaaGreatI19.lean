/- The program's instructions that call and put out; The table of the program's instructions. -/
import Derived.Test.YtakgjlpgcepnkaaGreatI18
import Derived.Test.YtakgjlpgcepnkaaGreatI02
import Derived.Laws.EntriesVeiled
/-! The program's instructions that call and put out -/
namespace Go.Proofs.YtakgjlpgcepnkaaGreat
open Go.RowKit Go.Lib

/-- What an instruction leaves; the output's row may be another one. -/
def MiP (B cb mb : Nat) (ev sv ov : Value) (s s' : McS) (w : World) (e : Ending) (w' : World) : Prop := e = .returned (.tuple #[]) ∧ ∃ ov', Hid (MiAt B cb mb w' ev sv ov' s') ∧ Hid (Step mb (MM cb sv ov) (MM cb sv ov') w w') ∧ Hid (w'.ownsRow B 3 1 ov s.1.out.length (intV s.1.out))
theorem intV_snocM (l : List Int) (v : Int) : intV (l ++ [v]) = intV l ++ #[Value.int .i64 v].toList := by unfold intV; rw [List.map_append]; rfl
section
variable {B cb mb : Nat} {w : World} {ev sv ov : Value} {s : McS}
set_option maxRecDepth 100000 in
set_option maxHeartbeats 2000000 in
theorem i_callI (ea : Option Addr) (ec : Nat) (E : List Int) (h : MiAt B cb mb w (.slice ea E.length ec) sv ov s) (hE : ∀ W, Below B w W → ReadI W ea E) (hB1 : B ≤ cb) (hB2 : B ≤ mb) (c a : Int) (ha : 0 ≤ a ∧ a ≤ 70000) :
    Calls Tryz.prog 83 #[.pointer (some ⟨cb, 0, none⟩), .agg #[.int .i64 c, .int .i64 a]] w (MiR B cb mb (.slice ea E.length ec) sv ov (.tuple #[]) (if (E.length : Int) ≤ a then (s.1, true) else ({ (pushI s s.1.pc).1 with pc := E.getD a.toNat 0 }, (pushI s s.1.pc).2)) w) := by
  have H := Lib.hid h
  have B0 := Lib.hid (h.bx c a)
  have HM : Hid (∀ v ∈ MM cb sv ov, ∀ g, v.ownBlock = some g → B ≤ g) := Lib.hid (fun v hv g hg => by
    unfold MM at hv
    simp only [List.mem_cons, List.not_mem_nil, or_false] at hv
    rcases hv with rfl | rfl | rfl
    · have : cb = g := Option.some.inj hg
      omega
    · exact (h.mc.st.lt g hg).1
    · exact (h.mc.out.lt g hg).1)
  have RE : Hid (∀ W, Step mb (MM cb sv ov) (MM cb sv ov) w W → ReadI W ea E) := Lib.hid (fun W hS => hE W (hS.base (by have := H.out.mc.lt; omega) hB2 HM.out))
  clear hE
  have K0 : Hid ((w.alloc (.cells #[.int .i64 c, .int .i64 a] 75)).cell? ⟨cb, 0, none⟩ = some (.pointer (some ⟨mb, 0, none⟩)) ∧ (w.alloc (.cells #[.int .i64 c, .int .i64 a] 75)).cell? ⟨cb, 1, none⟩ = some (.slice ea E.length ec) ∧ (w.alloc (.cells #[.int .i64 c, .int .i64 a] 75)).cell? ⟨w.heap.size, 1, none⟩ = some (.int .i64 a)) := Lib.hid ⟨B0.out.mi.cells.1, B0.out.mi.cells.2.1, B0.out.b1⟩
  have BD := Lib.hid (B0.out.drew H.out)
  by_cases hc : (E.length : Int) ≤ a
  · rw [if_pos hc]
    have d0 : decide ((E.length : Int) ≤ a) = true := decide_eq_true hc
    have HF := Lib.hid (BD.out.mi.setF true)
    have e0 := BD.out.mi.cells.1
    obtain ⟨_, _, e2, g2⟩ := BD.out.mi.cells
    have hlt := (blk BD.out.mi.cr).2.2
    clear h hc
    go_enter Tryz.func83, Tryz.ntmps83
    go_upto_region 1 with fail
    refine E_start (S := (fun w' => w'.cell? ⟨cb, 0, none⟩ = some (.pointer (some ⟨mb, 0, none⟩)) ∧ w'.cell? ⟨cb, 1, none⟩ = some (.slice ea E.length ec) ∧ w'.cell? ⟨w.heap.size, 1, none⟩ = some (.int .i64 a))) 7 (by kernel_rfl) (K0.out) (fun hHeld => ?_)
    refine E_take (i := 0) (oi := _) (v := ?_) rfl (by kernel_rfl) (fun _ _ _ h => h) ?_ (by assumption) ?_
    rotate_left 1
    · (refine Or.inl ⟨by rfl, ?_⟩; intro w hSw; (try dsimp only at hSw); (try simp only [List.getElem_toArray, List.getElem_cons_zero, List.getElem_cons_succ]); go_simp; (first | done | with_reducible rfl))
    try simp only [Act.put, List.setIfInBounds_toArray, List.set_cons_zero, List.set_cons_succ, List.getElem_toArray, List.getElem_cons_zero, List.getElem_cons_succ]
    refine E_take (i := 1) (oi := _) (v := ?_) rfl (by kernel_rfl) (fun _ _ _ h => h) ?_ (by assumption) ?_
    rotate_left 1
    · (refine Or.inl ⟨by rfl, ?_⟩; intro w hSw; (try dsimp only at hSw); (try simp only [List.getElem_toArray, List.getElem_cons_zero, List.getElem_cons_succ]); go_simp; (first | done | with_reducible rfl))
    try simp only [Act.put, List.setIfInBounds_toArray, List.set_cons_zero, List.set_cons_succ, List.getElem_toArray, List.getElem_cons_zero, List.getElem_cons_succ]
    refine E_take (i := 2) (oi := _) (v := ?_) rfl (by kernel_rfl) (fun _ _ _ h => h) ?_ (by assumption) ?_
    rotate_left 1
    · (refine Or.inl ⟨by rfl, ?_⟩; intro w hSw; (try dsimp only at hSw); (try simp only [List.getElem_toArray, List.getElem_cons_zero, List.getElem_cons_succ]); go_simp; (first | done | with_reducible rfl))
    try simp only [Act.put, List.setIfInBounds_toArray, List.set_cons_zero, List.set_cons_succ, List.getElem_toArray, List.getElem_cons_zero, List.getElem_cons_succ]
    refine E_take (i := 3) (oi := _) (v := ?_) rfl (by kernel_rfl) (fun _ _ _ h => h) ?_ (by assumption) ?_
    rotate_left 1
    · (refine Or.inl ⟨by rfl, ?_⟩; intro w hSw; (try dsimp only at hSw); (try simp only [List.getElem_toArray, List.getElem_cons_zero, List.getElem_cons_succ]); go_simp; (first | done | with_reducible rfl))
    try simp only [Act.put, List.setIfInBounds_toArray, List.set_cons_zero, List.set_cons_succ, List.getElem_toArray, List.getElem_cons_zero, List.getElem_cons_succ]
    refine E_take (i := 4) (oi := _) (v := ?_) rfl (by kernel_rfl) (fun _ _ _ h => h) ?_ (by assumption) ?_
    rotate_left 1
    · (refine Or.inl ⟨by rfl, ?_⟩; intro w hSw; (try dsimp only at hSw); (try simp only [List.getElem_toArray, List.getElem_cons_zero, List.getElem_cons_succ]); go_simp; (first | done | with_reducible rfl))
    try simp only [Act.put, List.setIfInBounds_toArray, List.set_cons_zero, List.set_cons_succ, List.getElem_toArray, List.getElem_cons_zero, List.getElem_cons_succ]
    refine E_take (i := 5) (oi := _) (v := ?_) rfl (by kernel_rfl) (fun _ _ _ h => h) ?_ (by assumption) ?_
    rotate_left 1
    · (refine Or.inl ⟨by rfl, ?_⟩; intro w hSw; (try dsimp only at hSw); (try simp only [List.getElem_toArray, List.getElem_cons_zero, List.getElem_cons_succ]); go_simp; (first | done | with_reducible rfl))
    try simp only [Act.put, List.setIfInBounds_toArray, List.set_cons_zero, List.set_cons_succ, List.getElem_toArray, List.getElem_cons_zero, List.getElem_cons_succ]
    refine E_take (i := 6) (oi := _) (v := ?_) rfl (by kernel_rfl) (fun _ _ _ h => h) ?_ (by assumption) ?_
    rotate_left 1
    · (refine Or.inl ⟨by rfl, ?_⟩; intro w hSw; (try dsimp only at hSw); (try simp only [List.getElem_toArray, List.getElem_cons_zero, List.getElem_cons_succ]); go_simp; (first | done | with_reducible rfl))
    try simp only [Act.put, List.setIfInBounds_toArray, List.set_cons_zero, List.set_cons_succ, List.getElem_toArray, List.getElem_cons_zero, List.getElem_cons_succ]
    refine E_last (o := _) (by kernel_rfl) rfl (by kernel_rfl) (fun K hK => ?_)
    try simp only [List.getElem_toArray, List.getElem_cons_zero, List.getElem_cons_succ]
    go_simp
    refine hK.out _ _ ?_
    clear hK K
    go_wp2
    go_end0
    exact ⟨rfl, Lib.hid HF.out.1, Lib.hid (BD.out.al.trans HF.out.2)⟩
  · rw [if_neg hc]
    have d0 : decide ((E.length : Int) ≤ a) = false := decide_eq_false hc
    obtain ⟨n, rfl⟩ : ∃ n : Nat, a = (n : Int) := ⟨a.toNat, (Int.toNat_of_nonneg ha.1).symm⟩
    rw [Int.toNat_natCast]
    have hn : n < E.length := by omega
    obtain ⟨eg, hea, _, _⟩ := RE.out w (Step.refl _ _ _) n hn
    subst hea
    obtain ⟨ve, hve⟩ : ∃ x, E.getD n 0 = x := ⟨_, rfl⟩
    have CE : Hid (∀ W, Step mb (MM cb sv ov) (MM cb sv ov) w W → W.cell? ⟨eg, n, none⟩ = some (.int .i64 ve)) := Lib.hid (fun W hS => by
      obtain ⟨g, e, _, hcell⟩ := RE.out W hS n hn
      have e2 : (⟨eg, 0, none⟩ : Addr) = ⟨g, 0, none⟩ := Option.some.inj e
      injection e2 with e2
      rw [e2, hcell, ← hve]
      simp [List.getD, hn])
    obtain ⟨v0, hv⟩ : ∃ x, s.1.pc = x := ⟨_, rfl⟩
    have HV := Lib.hid hv
    rw [hv, hve]
    clear h hc hv hve
    go_enter Tryz.func83, Tryz.ntmps83
    go_upto_region 1 with fail
    refine E_start (S := (fun w' => w'.cell? ⟨cb, 0, none⟩ = some (.pointer (some ⟨mb, 0, none⟩)) ∧ w'.cell? ⟨cb, 1, none⟩ = some (.slice (some ⟨eg, 0, none⟩) E.length ec) ∧ w'.cell? ⟨w.heap.size, 1, none⟩ = some (.int .i64 (n : Int)))) 7 (by kernel_rfl) (K0.out) (fun hHeld => ?_)
    refine E_take (i := 0) (oi := _) (v := ?_) rfl (by kernel_rfl) (fun _ _ _ h => h) ?_ (by assumption) ?_
    rotate_left 1
    · (refine Or.inl ⟨by rfl, ?_⟩; intro w hSw; (try dsimp only at hSw); (try simp only [List.getElem_toArray, List.getElem_cons_zero, List.getElem_cons_succ]); go_simp; (first | done | with_reducible rfl))
    try simp only [Act.put, List.setIfInBounds_toArray, List.set_cons_zero, List.set_cons_succ, List.getElem_toArray, List.getElem_cons_zero, List.getElem_cons_succ]
    refine E_take (i := 1) (oi := _) (v := ?_) rfl (by kernel_rfl) (fun _ _ _ h => h) ?_ (by assumption) ?_
    rotate_left 1
    · (refine Or.inl ⟨by rfl, ?_⟩; intro w hSw; (try dsimp only at hSw); (try simp only [List.getElem_toArray, List.getElem_cons_zero, List.getElem_cons_succ]); go_simp; (first | done | with_reducible rfl))
    try simp only [Act.put, List.setIfInBounds_toArray, List.set_cons_zero, List.set_cons_succ, List.getElem_toArray, List.getElem_cons_zero, List.getElem_cons_succ]
    refine E_take (i := 2) (oi := _) (v := ?_) rfl (by kernel_rfl) (fun _ _ _ h => h) ?_ (by assumption) ?_
    rotate_left 1
    · (refine Or.inl ⟨by rfl, ?_⟩; intro w hSw; (try dsimp only at hSw); (try simp only [List.getElem_toArray, List.getElem_cons_zero, List.getElem_cons_succ]); go_simp; (first | done | with_reducible rfl))
    try simp only [Act.put, List.setIfInBounds_toArray, List.set_cons_zero, List.set_cons_succ, List.getElem_toArray, List.getElem_cons_zero, List.getElem_cons_succ]
    refine E_take (i := 3) (oi := _) (v := ?_) rfl (by kernel_rfl) (fun _ _ _ h => h) ?_ (by assumption) ?_
    rotate_left 1
    · (refine Or.inl ⟨by rfl, ?_⟩; intro w hSw; (try dsimp only at hSw); (try simp only [List.getElem_toArray, List.getElem_cons_zero, List.getElem_cons_succ]); go_simp; (first | done | with_reducible rfl))
    try simp only [Act.put, List.setIfInBounds_toArray, List.set_cons_zero, List.set_cons_succ, List.getElem_toArray, List.getElem_cons_zero, List.getElem_cons_succ]
    refine E_take (i := 4) (oi := _) (v := ?_) rfl (by kernel_rfl) (fun _ _ _ h => h) ?_ (by assumption) ?_
    rotate_left 1
    · (refine Or.inl ⟨by rfl, ?_⟩; intro w hSw; (try dsimp only at hSw); (try simp only [List.getElem_toArray, List.getElem_cons_zero, List.getElem_cons_succ]); go_simp; (first | done | with_reducible rfl))
    try simp only [Act.put, List.setIfInBounds_toArray, List.set_cons_zero, List.set_cons_succ, List.getElem_toArray, List.getElem_cons_zero, List.getElem_cons_succ]
    refine E_take (i := 5) (oi := _) (v := ?_) rfl (by kernel_rfl) (fun _ _ _ h => h) ?_ (by assumption) ?_
    rotate_left 1
    · (refine Or.inl ⟨by rfl, ?_⟩; intro w hSw; (try dsimp only at hSw); (try simp only [List.getElem_toArray, List.getElem_cons_zero, List.getElem_cons_succ]); go_simp; (first | done | with_reducible rfl))
    try simp only [Act.put, List.setIfInBounds_toArray, List.set_cons_zero, List.set_cons_succ, List.getElem_toArray, List.getElem_cons_zero, List.getElem_cons_succ]
    refine E_take (i := 6) (oi := _) (v := ?_) rfl (by kernel_rfl) (fun _ _ _ h => h) ?_ (by assumption) ?_
    rotate_left 1
    · (refine Or.inl ⟨by rfl, ?_⟩; intro w hSw; (try dsimp only at hSw); (try simp only [List.getElem_toArray, List.getElem_cons_zero, List.getElem_cons_succ]); go_simp; (first | done | with_reducible rfl))
    try simp only [Act.put, List.setIfInBounds_toArray, List.set_cons_zero, List.set_cons_succ, List.getElem_toArray, List.getElem_cons_zero, List.getElem_cons_succ]
    refine E_last (o := _) (by kernel_rfl) rfl (by kernel_rfl) (fun K hK => ?_)
    try simp only [List.getElem_toArray, List.getElem_cons_zero, List.getElem_cons_succ]
    go_simp
    refine hK.out _ _ ?_
    clear hK K
    have e0 := BD.out.mi.cells.1
    have m0 : (w.alloc (.cells #[.int .i64 c, .int .i64 (n : Int)] 75)).drew.cell? ⟨mb, 0, none⟩ = some (.int .i64 v0) := by rw [← HV.out]; exact BD.out.mi.mc.cells.1
    go_wp2_with fail
    refine (i_push BD.out.mi v0).mono ?_
    rintro e w2 ⟨rfl, HC2, HS2⟩
    have B2 := Lib.hid (BD.out.next H.out HC2.out HS2.out)
    clear HC2 HS2 e0 m0
    have K2 : Hid (w2.cell? ⟨cb, 0, none⟩ = some (.pointer (some ⟨mb, 0, none⟩)) ∧ w2.cell? ⟨cb, 1, none⟩ = some (.slice (some ⟨eg, 0, none⟩) E.length ec) ∧ w2.cell? ⟨w.heap.size, 1, none⟩ = some (.int .i64 (n : Int)) ∧ w2.cell? ⟨eg, n, none⟩ = some (.int .i64 ve)) := Lib.hid ⟨B2.out.mi.cells.1, B2.out.mi.cells.2.1, B2.out.b1, CE.out _ B2.out.al⟩
    obtain ⟨m0', _, _, _, _, _, _, gm⟩ := B2.out.mi.mc.cells
    have hlt := B2.out.mi.mc.lt
    have HP := Lib.hid (B2.out.mi.setPc ve)
    have y0 : (0 : Int) ≤ (n : Int) := by omega
    have y1 : (n : Int) < (E.length : Int) := by omega
    go_upto_region 4 with fail
    refine E_start (S := (fun w' => w'.cell? ⟨cb, 0, none⟩ = some (.pointer (some ⟨mb, 0, none⟩)) ∧ w'.cell? ⟨cb, 1, none⟩ = some (.slice (some ⟨eg, 0, none⟩) E.length ec) ∧ w'.cell? ⟨w.heap.size, 1, none⟩ = some (.int .i64 (n : Int)) ∧ w'.cell? ⟨eg, n, none⟩ = some (.int .i64 ve))) 14 (by kernel_rfl) (K2.out) (fun hHeld => ?_)
    refine E_take (i := 0) (oi := _) (v := ?_) rfl (by kernel_rfl) (fun _ _ _ h => h) ?_ (by assumption) ?_
    rotate_left 1
    · (refine Or.inl ⟨by rfl, ?_⟩; intro w hSw; (try dsimp only at hSw); (try simp only [List.getElem_toArray, List.getElem_cons_zero, List.getElem_cons_succ]); go_simp; (first | done | with_reducible rfl))
    try simp only [Act.put, List.setIfInBounds_toArray, List.set_cons_zero, List.set_cons_succ, List.getElem_toArray, List.getElem_cons_zero, List.getElem_cons_succ]
    refine E_take (i := 1) (oi := _) (v := ?_) rfl (by kernel_rfl) (fun _ _ _ h => h) ?_ (by assumption) ?_
    rotate_left 1
    · (refine Or.inl ⟨by rfl, ?_⟩; intro w hSw; (try dsimp only at hSw); (try simp only [List.getElem_toArray, List.getElem_cons_zero, List.getElem_cons_succ]); go_simp; (first | done | with_reducible rfl))
    try simp only [Act.put, List.setIfInBounds_toArray, List.set_cons_zero, List.set_cons_succ, List.getElem_toArray, List.getElem_cons_zero, List.getElem_cons_succ]
    refine E_take (i := 2) (oi := _) (v := ?_) rfl (by kernel_rfl) (fun _ _ _ h => h) ?_ (by assumption) ?_
    rotate_left 1
    · (refine Or.inl ⟨by rfl, ?_⟩; intro w hSw; (try dsimp only at hSw); (try simp only [List.getElem_toArray, List.getElem_cons_zero, List.getElem_cons_succ]); go_simp; (first | done | with_reducible rfl))
    try simp only [Act.put, List.setIfInBounds_toArray, List.set_cons_zero, List.set_cons_succ, List.getElem_toArray, List.getElem_cons_zero, List.getElem_cons_succ]
    refine E_take (i := 3) (oi := _) (v := ?_) rfl (by kernel_rfl) (fun _ _ _ h => h) ?_ (by assumption) ?_
    rotate_left 1
    · (refine Or.inl ⟨by rfl, ?_⟩; intro w hSw; (try dsimp only at hSw); (try simp only [List.getElem_toArray, List.getElem_cons_zero, List.getElem_cons_succ]); go_simp; (first | done | with_reducible rfl))
    try simp only [Act.put, List.setIfInBounds_toArray, List.set_cons_zero, List.set_cons_succ, List.getElem_toArray, List.getElem_cons_zero, List.getElem_cons_succ]
    refine E_take (i := 4) (oi := _) (v := ?_) rfl (by kernel_rfl) (fun _ _ _ h => h) ?_ (by assumption) ?_
    rotate_left 1
    · (refine Or.inl ⟨by rfl, ?_⟩; intro w hSw; (try dsimp only at hSw); (try simp only [List.getElem_toArray, List.getElem_cons_zero, List.getElem_cons_succ]); go_simp; (first | done | with_reducible rfl))
    try simp only [Act.put, List.setIfInBounds_toArray, List.set_cons_zero, List.set_cons_succ, List.getElem_toArray, List.getElem_cons_zero, List.getElem_cons_succ]
    refine E_take (i := 5) (oi := _) (v := ?_) rfl (by kernel_rfl) (fun _ _ _ h => h) ?_ (by assumption) ?_
    rotate_left 1
    · (refine Or.inl ⟨by rfl, ?_⟩; intro w hSw; (try dsimp only at hSw); (try simp only [List.getElem_toArray, List.getElem_cons_zero, List.getElem_cons_succ]); go_simp; (first | done | with_reducible rfl))
    try simp only [Act.put, List.setIfInBounds_toArray, List.set_cons_zero, List.set_cons_succ, List.getElem_toArray, List.getElem_cons_zero, List.getElem_cons_succ]
    refine E_take (i := 6) (oi := _) (v := ?_) rfl (by kernel_rfl) (fun _ _ _ h => h) ?_ (by assumption) ?_
    rotate_left 1
    · (refine Or.inl ⟨by rfl, ?_⟩; intro w hSw; (try dsimp only at hSw); (try simp only [List.getElem_toArray, List.getElem_cons_zero, List.getElem_cons_succ]); go_simp; (first | done | with_reducible rfl))
    try simp only [Act.put, List.setIfInBounds_toArray, List.set_cons_zero, List.set_cons_succ, List.getElem_toArray, List.getElem_cons_zero, List.getElem_cons_succ]
    refine E_take (i := 7) (oi := _) (v := ?_) rfl (by kernel_rfl) (fun _ _ _ h => h) ?_ (by assumption) ?_
    rotate_left 1
    · (refine Or.inl ⟨by rfl, ?_⟩; intro w hSw; (try dsimp only at hSw); (try simp only [List.getElem_toArray, List.getElem_cons_zero, List.getElem_cons_succ]); go_simp; (first | done | with_reducible rfl))
    try simp only [Act.put, List.setIfInBounds_toArray, List.set_cons_zero, List.set_cons_succ, List.getElem_toArray, List.getElem_cons_zero, List.getElem_cons_succ]
    refine E_take (i := 8) (oi := _) (v := ?_) rfl (by kernel_rfl) (fun _ _ _ h => h) ?_ (by assumption) ?_
    rotate_left 1
    · (refine Or.inl ⟨by rfl, ?_⟩; intro w hSw; (try dsimp only at hSw); (try simp only [List.getElem_toArray, List.getElem_cons_zero, List.getElem_cons_succ]); go_simp; (first | done | with_reducible rfl))
    try simp only [Act.put, List.setIfInBounds_toArray, List.set_cons_zero, List.set_cons_succ, List.getElem_toArray, List.getElem_cons_zero, List.getElem_cons_succ]
    refine E_take (i := 9) (oi := _) (v := ?_) rfl (by kernel_rfl) (fun _ _ _ h => h) ?_ (by assumption) ?_
    rotate_left 1
    · (refine Or.inl ⟨by rfl, ?_⟩; intro w hSw; (try dsimp only at hSw); (try simp only [List.getElem_toArray, List.getElem_cons_zero, List.getElem_cons_succ]); go_simp; (first | done | with_reducible rfl))
    try simp only [Act.put, List.setIfInBounds_toArray, List.set_cons_zero, List.set_cons_succ, List.getElem_toArray, List.getElem_cons_zero, List.getElem_cons_succ]
    refine E_take (i := 10) (oi := _) (v := ?_) rfl (by kernel_rfl) (fun _ _ _ h => h) ?_ (by assumption) ?_
    rotate_left 1
    · (refine Or.inl ⟨by rfl, ?_⟩; intro w hSw; (try dsimp only at hSw); (try simp only [List.getElem_toArray, List.getElem_cons_zero, List.getElem_cons_succ]); go_simp; (first | done | with_reducible rfl))
    try simp only [Act.put, List.setIfInBounds_toArray, List.set_cons_zero, List.set_cons_succ, List.getElem_toArray, List.getElem_cons_zero, List.getElem_cons_succ]
    refine E_take (i := 11) (oi := _) (v := ?_) rfl (by kernel_rfl) (fun _ _ _ h => h) ?_ (by assumption) ?_
    rotate_left 1
    · (refine Or.inl ⟨by rfl, ?_⟩; intro w hSw; (try dsimp only at hSw); (try simp only [List.getElem_toArray, List.getElem_cons_zero, List.getElem_cons_succ]); go_simp; (first | done | with_reducible rfl))
    try simp only [Act.put, List.setIfInBounds_toArray, List.set_cons_zero, List.set_cons_succ, List.getElem_toArray, List.getElem_cons_zero, List.getElem_cons_succ]
    refine E_take (i := 12) (oi := _) (v := ?_) rfl (by kernel_rfl) (fun _ _ _ h => h) ?_ (by assumption) ?_
    rotate_left 1
    · (refine Or.inl ⟨by rfl, ?_⟩; intro w hSw; (try dsimp only at hSw); (try simp only [List.getElem_toArray, List.getElem_cons_zero, List.getElem_cons_succ]); go_simp; (first | done | with_reducible rfl))
    try simp only [Act.put, List.setIfInBounds_toArray, List.set_cons_zero, List.set_cons_succ, List.getElem_toArray, List.getElem_cons_zero, List.getElem_cons_succ]
    refine E_take (i := 13) (oi := _) (v := ?_) rfl (by kernel_rfl) (fun _ _ _ h => h) ?_ (by assumption) ?_
    rotate_left 1
    · (refine Or.inl ⟨by rfl, ?_⟩; intro w hSw; (try dsimp only at hSw); (try simp only [List.getElem_toArray, List.getElem_cons_zero, List.getElem_cons_succ]); go_simp; (first | done | with_reducible rfl))
    try simp only [Act.put, List.setIfInBounds_toArray, List.set_cons_zero, List.set_cons_succ, List.getElem_toArray, List.getElem_cons_zero, List.getElem_cons_succ]
    refine E_last (o := _) (by kernel_rfl) rfl (by kernel_rfl) (fun K hK => ?_)
    try simp only [List.getElem_toArray, List.getElem_cons_zero, List.getElem_cons_succ]
    go_simp
    refine hK.out _ _ ?_
    clear hK K
    have B3 := Lib.hid (B2.out.next H.out HP.out.1 HP.out.2)
    have B4 := Lib.hid (B3.out.drew H.out)
    go_wp2
    go_end0
    exact ⟨rfl, Lib.hid B4.out.mi, Lib.hid B4.out.al⟩
theorem own_shM {B T n s : Nat} {w : World} {v : Value} {xs : List Value} (h : w.ownsRow B T s v n xs) : ∃ a c, v = .slice a n c := by
  rcases h.2 with ⟨rfl, rfl⟩ | ⟨g, cap, cur, rfl, _⟩
  · exact ⟨_, _, rfl⟩
  · exact ⟨_, _, rfl⟩
theorem alloc_cellM {w : World} {o : Obj} {p : Addr} (h : p.block < w.heap.size) : (w.alloc o).cell? p = w.cell? p := World.cell?_of_block (Below.heap_alloc _ _ _ h)
theorem fin_out {c a v : Int} {s1 : McS} {w1 w3 : World} {g3 c3 on oc : Nat} {oa : Option Addr} (H : MiAt B cb mb w ev sv (.slice oa on oc) s) (B1 : Bx B cb mb ev sv (.slice oa on oc) w c a s1 w1) (ho : s1.1.out = s.1.out) (hn : s.1.out.length = on)
    (hg : (w1.alloc (.cells #[.int .i64 v] 3)).grownBy w3 (Value.slice oa on oc).ownBlock) (hi : w3.ownsRow B 3 1 (.slice (some ⟨g3, 0, none⟩) (on + 1) c3) (on + 1) (intV s.1.out ++ #[Value.int .i64 v].toList))
    (hat : (Value.slice oa on oc).ownBlock = some g3 ∨ g3 = (w1.alloc (.cells #[.int .i64 v] 3)).heap.size) (hold : w3.ownsRow B 3 1 (.slice oa on oc) on (intV s.1.out)) :
    w3.cell? ⟨cb, 0, none⟩ = some (.pointer (some ⟨mb, 0, none⟩)) ∧ w3.cell? ⟨mb, 4, none⟩ = some (.slice oa on oc) ∧
      Hid (MiAt B cb mb (w3.setCell ⟨mb, 4, none⟩ (.slice (some ⟨g3, 0, none⟩) (on + 1) c3)) ev sv (.slice (some ⟨g3, 0, none⟩) (on + 1) c3) ({ s1.1 with out := s.1.out ++ [v] }, s1.2)) ∧
      Hid (Step mb (MM cb sv (.slice oa on oc)) (MM cb sv (.slice (some ⟨g3, 0, none⟩) (on + 1) c3)) w (w3.setCell ⟨mb, 4, none⟩ (.slice (some ⟨g3, 0, none⟩) (on + 1) c3))) ∧
      Hid ((w3.setCell ⟨mb, 4, none⟩ (.slice (some ⟨g3, 0, none⟩) (on + 1) c3)).ownsRow B 3 1 (.slice oa on oc) s.1.out.length (intV s.1.out)) ∧ w3.frozen? ⟨mb, 4, none⟩ = false ∧ mb < w3.heap.size := by
  have hz : (w1.alloc (.cells #[.int .i64 v] 3)).heap.size = w1.heap.size + 1 := by simp
  have hg2 : w1.grownBy w3 (Value.slice oa on oc).ownBlock := ⟨hg.os, hg.tape, hg.output, by have := hg.size; omega, fun q hq hne => (hg.block q (by omega) hne).trans (Below.heap_alloc _ _ _ hq)⟩
  obtain ⟨p1, p2, p3⟩ := B1.mi.off
  obtain ⟨o1, o2⟩ := B1.mi.mc.off
  have hcr := (hg2.block cb (blk B1.mi.cr).2.2 (fun e => p2 e.symm)).trans B1.mi.cr
  have hmr := (hg2.block mb B1.mi.mc.lt (fun e => o2 e.symm)).trans B1.mi.mc.mr
  have hst := far B1.mi.mc.st hg2 (fun k e e' => B1.mi.mc.ap k e e')
  have nm : (Value.slice (some ⟨g3, 0, none⟩) (on + 1) c3).ownBlock ≠ some mb := ne_types hi hmr (by decide)
  have other : ∀ {u : Value}, u.ownBlock ≠ some mb → ∀ g, u.ownBlock = some g → (w3.setCell ⟨mb, 4, none⟩ (.slice (some ⟨g3, 0, none⟩) (on + 1) c3)).heap[g]? = w3.heap[g]? := fun hu g hg => set_other (fun e => hu (by rw [hg, e]))
  have hsz := hg2.size
  refine ⟨(blk hcr).1 0 _ rfl, (blk hmr).1 4 _ rfl, Lib.hid ⟨(set_other p3).trans hcr, ⟨heap_setCell_at hmr _, owns_blks hst (other o1), B1.mi.mc.ln, ?_, fun k e e' => ?_⟩⟩, Lib.hid (B1.al.trans ⟨hg2.os, hg2.tape, hg2.output, by simpa [World.setCell] using hsz, fun k hk hr hm => (set_other hr).trans (hg2.block k hk (fun e => hm (.slice oa on oc) (by simp [MM]) e.symm)), fun u hu k hk => ?_⟩), Lib.hid ?_, (blk hmr).2.1 4, (blk hmr).2.2⟩
  · have h := owns_blks hi (other nm)
    dsimp only
    rw [List.length_append, hn, intV_snocM]
    exact h
  · have e2 : g3 = k := Option.some.inj e'
    rcases hat with h | h
    · exact B1.mi.mc.ap k e (by rw [h, e2])
    · have := (B1.mi.mc.st.lt k e).2; omega
  · unfold MM at hu ⊢
    simp only [List.mem_cons, List.not_mem_nil, or_false] at hu
    rcases hu with rfl | rfl | rfl
    · exact .inl ⟨_, List.mem_cons_self .., hk⟩
    · exact .inl ⟨_, List.mem_cons_of_mem _ (List.mem_cons_self ..), hk⟩
    · have e2 : g3 = k := Option.some.inj hk
      rcases hat with h | h
      · exact .inl ⟨.slice oa on oc, by simp, by rw [h, e2]⟩
      · exact .inr (by omega)
  · rw [hn]
    exact owns_blks hold (other o2)
theorem infoIntM : (Tryz.prog.info? 3).map (fun i => (i.zero, i.size, i.bytes)) = some (some (.int .i64 0), 1, 8) := by kernel_rfl
set_option maxRecDepth 100000 in
set_option maxHeartbeats 2000000 in
theorem i_out (h : MiAt B cb mb w ev sv ov s) (hB1 : B ≤ cb) (hO : s.1.out.length ≤ 4000000) (c a : Int) : Calls Tryz.prog 88 #[.pointer (some ⟨cb, 0, none⟩), .agg #[.int .i64 c, .int .i64 a]] w (MiP B cb mb ev sv ov s ({ (popI s).2.1 with out := (popI s).2.1.out ++ [(popI s).1] }, (popI s).2.2) w) := by
  have H := Lib.hid h
  have B0 := Lib.hid (h.bx c a)
  have BD := Lib.hid (B0.out.drew H.out)
  have K0 : Hid ((w.alloc (.cells #[.int .i64 c, .int .i64 a] 75)).cell? ⟨cb, 0, none⟩ = some (.pointer (some ⟨mb, 0, none⟩)) ∧ (w.alloc (.cells #[.int .i64 c, .int .i64 a] 75)).cell? ⟨mb, 4, none⟩ = some (ov)) := Lib.hid ⟨B0.out.mi.cells.1, B0.out.mi.mc.cells.2.2.2.2.1⟩
  obtain ⟨v, hv⟩ : ∃ x, (popI s).1 = x := ⟨_, rfl⟩
  have P := Lib.hid (i_pop BD.out.mi)
  rw [hv] at P ⊢
  obtain ⟨s1, hs1⟩ : ∃ x, (popI s).2 = x := ⟨_, rfl⟩
  have hout : s1.1.out = s.1.out := by rw [← hs1, pop_m]
  rw [hs1] at P ⊢
  have HO : Hid (s1.1.out = s.1.out) := Lib.hid hout
  rw [hout]
  obtain ⟨on, hon⟩ : ∃ x, s.1.out.length = x := ⟨_, rfl⟩
  have HON := Lib.hid hon
  rw [hon] at hO
  obtain ⟨i0, hi, hz0, hz1, hz2⟩ := info_parts infoIntM
  obtain ⟨oa, oc, hov⟩ := own_shM h.mc.out
  rw [hon] at hov
  subst hov
  have hm3 : on + 1 ≤ maxLen := by unfold maxLen; omega
  have hb3 : (on + 1) * 8 ≤ 140737488355328 := by omega
  clear h hv hs1 hout hon
  go_enter Tryz.func88, Tryz.ntmps88
  go_upto_region 1 with fail
  refine E_start (S := (fun w' => w'.cell? ⟨cb, 0, none⟩ = some (.pointer (some ⟨mb, 0, none⟩)) ∧ w'.cell? ⟨mb, 4, none⟩ = some (.slice oa on oc))) 17 (by kernel_rfl) (K0.out) (fun hHeld => ?_)
  refine E_take (i := 0) (oi := _) (v := ?_) rfl (by kernel_rfl) (fun _ _ _ h => h) ?_ (by assumption) ?_
  rotate_left 1
  · (refine Or.inl ⟨by rfl, ?_⟩; intro w hSw; (try dsimp only at hSw); (try simp only [List.getElem_toArray, List.getElem_cons_zero, List.getElem_cons_succ]); go_simp; (first | done | with_reducible rfl))
  try simp only [Act.put, List.setIfInBounds_toArray, List.set_cons_zero, List.set_cons_succ, List.getElem_toArray, List.getElem_cons_zero, List.getElem_cons_succ]
  refine E_take (i := 1) (oi := _) (v := ?_) rfl (by kernel_rfl) (fun _ _ _ h => h) ?_ (by assumption) ?_
  rotate_left 1
  · (refine Or.inl ⟨by rfl, ?_⟩; intro w hSw; (try dsimp only at hSw); (try simp only [List.getElem_toArray, List.getElem_cons_zero, List.getElem_cons_succ]); go_simp; (first | done | with_reducible rfl))
  try simp only [Act.put, List.setIfInBounds_toArray, List.set_cons_zero, List.set_cons_succ, List.getElem_toArray, List.getElem_cons_zero, List.getElem_cons_succ]
  refine E_take (i := 2) (oi := _) (v := ?_) rfl (by kernel_rfl) (fun _ _ _ h => h) ?_ (by assumption) ?_
  rotate_left 1
  · (refine Or.inl ⟨by rfl, ?_⟩; intro w hSw; (try dsimp only at hSw); (try simp only [List.getElem_toArray, List.getElem_cons_zero, List.getElem_cons_succ]); go_simp; (first | done | with_reducible rfl))
  try simp only [Act.put, List.setIfInBounds_toArray, List.set_cons_zero, List.set_cons_succ, List.getElem_toArray, List.getElem_cons_zero, List.getElem_cons_succ]
  refine E_take (i := 3) (oi := _) (v := ?_) rfl (by kernel_rfl) (fun _ _ _ h => h) ?_ (by assumption) ?_
  rotate_left 1
  · (refine Or.inl ⟨by rfl, ?_⟩; intro w hSw; (try dsimp only at hSw); (try simp only [List.getElem_toArray, List.getElem_cons_zero, List.getElem_cons_succ]); go_simp; (first | done | with_reducible rfl))
  try simp only [Act.put, List.setIfInBounds_toArray, List.set_cons_zero, List.set_cons_succ, List.getElem_toArray, List.getElem_cons_zero, List.getElem_cons_succ]
  refine E_take (i := 4) (oi := _) (v := ?_) rfl (by kernel_rfl) (fun _ _ _ h => h) ?_ (by assumption) ?_
  rotate_left 1
  · (refine Or.inl ⟨by rfl, ?_⟩; intro w hSw; (try dsimp only at hSw); (try simp only [List.getElem_toArray, List.getElem_cons_zero, List.getElem_cons_succ]); go_simp; (first | done | with_reducible rfl))
  try simp only [Act.put, List.setIfInBounds_toArray, List.set_cons_zero, List.set_cons_succ, List.getElem_toArray, List.getElem_cons_zero, List.getElem_cons_succ]
  refine E_take (i := 5) (oi := _) (v := ?_) rfl (by kernel_rfl) (fun _ _ _ h => h) ?_ (by assumption) ?_
  rotate_left 1
  · (refine Or.inl ⟨by rfl, ?_⟩; intro w hSw; (try dsimp only at hSw); (try simp only [List.getElem_toArray, List.getElem_cons_zero, List.getElem_cons_succ]); go_simp; (first | done | with_reducible rfl))
  try simp only [Act.put, List.setIfInBounds_toArray, List.set_cons_zero, List.set_cons_succ, List.getElem_toArray, List.getElem_cons_zero, List.getElem_cons_succ]
  refine E_take (i := 6) (oi := _) (v := ?_) rfl (by kernel_rfl) (fun _ _ _ h => h) ?_ (by assumption) ?_
  rotate_left 1
  · (refine Or.inl ⟨by rfl, ?_⟩; intro w hSw; (try dsimp only at hSw); (try simp only [List.getElem_toArray, List.getElem_cons_zero, List.getElem_cons_succ]); go_simp; (first | done | with_reducible rfl))
  try simp only [Act.put, List.setIfInBounds_toArray, List.set_cons_zero, List.set_cons_succ, List.getElem_toArray, List.getElem_cons_zero, List.getElem_cons_succ]
  refine E_take (i := 7) (oi := _) (v := ?_) rfl (by kernel_rfl) (fun _ _ _ h => h) ?_ (by assumption) ?_
  rotate_left 1
  · (refine Or.inl ⟨by rfl, ?_⟩; intro w hSw; (try dsimp only at hSw); (try simp only [List.getElem_toArray, List.getElem_cons_zero, List.getElem_cons_succ]); go_simp; (first | done | with_reducible rfl))
  try simp only [Act.put, List.setIfInBounds_toArray, List.set_cons_zero, List.set_cons_succ, List.getElem_toArray, List.getElem_cons_zero, List.getElem_cons_succ]
  refine E_take (i := 8) (oi := _) (v := ?_) rfl (by kernel_rfl) (fun _ _ _ h => h) ?_ (by assumption) ?_
  rotate_left 1
  · (refine Or.inl ⟨by rfl, ?_⟩; intro w hSw; (try dsimp only at hSw); (try simp only [List.getElem_toArray, List.getElem_cons_zero, List.getElem_cons_succ]); go_simp; (first | done | with_reducible rfl))
  try simp only [Act.put, List.setIfInBounds_toArray, List.set_cons_zero, List.set_cons_succ, List.getElem_toArray, List.getElem_cons_zero, List.getElem_cons_succ]
  refine E_take (i := 9) (oi := _) (v := ?_) rfl (by kernel_rfl) (fun _ _ _ h => h) ?_ (by assumption) ?_
  rotate_left 1
  · (refine Or.inl ⟨by rfl, ?_⟩; intro w hSw; (try dsimp only at hSw); (try simp only [List.getElem_toArray, List.getElem_cons_zero, List.getElem_cons_succ]); go_simp; (first | done | with_reducible rfl))
  try simp only [Act.put, List.setIfInBounds_toArray, List.set_cons_zero, List.set_cons_succ, List.getElem_toArray, List.getElem_cons_zero, List.getElem_cons_succ]
  refine E_take (i := 10) (oi := _) (v := ?_) rfl (by kernel_rfl) (fun _ _ _ h => h) ?_ (by assumption) ?_
  rotate_left 1
  · (refine Or.inl ⟨by rfl, ?_⟩; intro w hSw; (try dsimp only at hSw); (try simp only [List.getElem_toArray, List.getElem_cons_zero, List.getElem_cons_succ]); go_simp; (first | done | with_reducible rfl))
  try simp only [Act.put, List.setIfInBounds_toArray, List.set_cons_zero, List.set_cons_succ, List.getElem_toArray, List.getElem_cons_zero, List.getElem_cons_succ]
  refine E_take (i := 11) (oi := _) (v := ?_) rfl (by kernel_rfl) (fun _ _ _ h => h) ?_ (by assumption) ?_
  rotate_left 1
  · (refine Or.inl ⟨by rfl, ?_⟩; intro w hSw; (try dsimp only at hSw); (try simp only [List.getElem_toArray, List.getElem_cons_zero, List.getElem_cons_succ]); go_simp; (first | done | with_reducible rfl))
  try simp only [Act.put, List.setIfInBounds_toArray, List.set_cons_zero, List.set_cons_succ, List.getElem_toArray, List.getElem_cons_zero, List.getElem_cons_succ]
  refine E_ready (rs := [12]) (by kernel_rfl) (by decide) ?_
  refine AllE.cons (o := _) rfl (fun K hK => ?_) AllE.nil
  try simp only [List.getElem_toArray, List.getElem_cons_zero, List.getElem_cons_succ]
  go_simp
  refine (P.out).mono ?_
  rintro e w1 ⟨rfl, HC1, HS1⟩
  go_wp2_with fail
  have B1 := Lib.hid (BD.out.next H.out HC1.out HS1.out)
  have K1 : Hid (w1.cell? ⟨cb, 0, none⟩ = some (.pointer (some ⟨mb, 0, none⟩)) ∧ w1.cell? ⟨mb, 4, none⟩ = some (.slice oa on oc)) := Lib.hid ⟨B1.out.mi.cells.1, B1.out.mi.mc.cells.2.2.2.2.1⟩
  have HOW : Hid (w1.ownsRow B 3 1 (.slice oa on oc) on (intV s.1.out)) := Lib.hid (by have h := B1.out.mi.mc.out; rw [HO.out, HON.out] at h; exact h)
  have K2 : Hid ((w1.alloc (.cells #[.int .i64 v] 3)).cell? ⟨cb, 0, none⟩ = some (.pointer (some ⟨mb, 0, none⟩)) ∧ (w1.alloc (.cells #[.int .i64 v] 3)).cell? ⟨mb, 4, none⟩ = some (.slice oa on oc)) := Lib.hid ⟨(alloc_cellM (blk B1.out.mi.cr).2.2).trans K1.out.1, (alloc_cellM B1.out.mi.mc.lt).trans K1.out.2⟩
  have HNW : Hid (∀ j u, (#[Value.int .i64 v].toList)[j]? = some u → (w1.alloc (.cells #[.int .i64 v] 3)).cell? ((⟨w1.heap.size, 0, none⟩ : Addr).add j) = some u) := Lib.hid (World.news_of_block (cs := #[.int .i64 v]) (t := 3) (fr := (0, 0)) (heap_alloc_new w1 _))
  have HBB : Hid (B ≤ (w1.alloc (.cells #[.int .i64 v] 3)).heap.size) := Lib.hid (by have := (blk B1.out.mi.cr).2.2; simp; omega)
  clear HC1 HS1
  refine hK.out _ _ (K1.out) (fun hHeld => ?_)
  clear hK K
  try simp only [Act.put, List.setIfInBounds_toArray, List.set_cons_zero, List.set_cons_succ, List.getElem_toArray, List.getElem_cons_zero, List.getElem_cons_succ]
  refine E_ready (rs := [13]) (by kernel_rfl) (by decide) ?_
  refine AllE.cons (o := _) rfl (fun K hK => ?_) AllE.nil
  try simp only [List.getElem_toArray, List.getElem_cons_zero, List.getElem_cons_succ]
  go_simp
  refine hK.out _ _ (K2.out) (fun hHeld => ?_)
  clear hK K
  try simp only [Act.put, List.setIfInBounds_toArray, List.set_cons_zero, List.set_cons_succ, List.getElem_toArray, List.getElem_cons_zero, List.getElem_cons_succ]
  refine E_ready (rs := [14]) (by kernel_rfl) (by decide) ?_
  refine AllE.cons (o := _) rfl (fun K hK => ?_) AllE.nil
  refine step_append_keeps rfl (.tmp 14) (.tmp 17) 23 rfl B 3 i0 _ 1 8 Tryz.underlying23 hi hz0 hz1 hz2 rfl (by decide) (.slice oa on oc) on (intV s.1.out) rfl (HOW.out.alloc _) ⟨w1.heap.size, 0, none⟩ 1 1 #[Value.int .i64 v].toList rfl rfl HNW.out (fun u hu => by simp at hu; subst hu; rfl) (by decide) hm3 hb3 HBB.out _ rfl ?_
  intro g3 c3 w3 O3 G3 A3 L3 OLD
  have FW := Lib.hid (fin_out H.out B1.out HO.out HON.out (v := v) G3 O3 A3 OLD)
  have K3 : Hid (w3.cell? ⟨cb, 0, none⟩ = some (.pointer (some ⟨mb, 0, none⟩)) ∧ w3.cell? ⟨mb, 4, none⟩ = some (.slice oa on oc)) := Lib.hid ⟨FW.out.1, FW.out.2.1⟩
  have g4 := FW.out.2.2.2.2.2.1
  have hlt3 := FW.out.2.2.2.2.2.2
  have m4 := FW.out.2.1
  refine hK.out _ _ (K3.out) (fun hHeld => ?_)
  clear hK K
  try simp only [Act.put, List.setIfInBounds_toArray, List.set_cons_zero, List.set_cons_succ, List.getElem_toArray, List.getElem_cons_zero, List.getElem_cons_succ]
  refine E_take (i := 15) (oi := _) (v := ?_) rfl (by kernel_rfl) (fun _ _ _ h => h) ?_ (by assumption) ?_
  rotate_left 1
  · (refine Or.inl ⟨by rfl, ?_⟩; intro w hSw; (try dsimp only at hSw); (try simp only [List.getElem_toArray, List.getElem_cons_zero, List.getElem_cons_succ]); go_simp; (first | done | with_reducible rfl))
  try simp only [Act.put, List.setIfInBounds_toArray, List.set_cons_zero, List.set_cons_succ, List.getElem_toArray, List.getElem_cons_zero, List.getElem_cons_succ]
  refine E_take (i := 16) (oi := _) (v := ?_) rfl (by kernel_rfl) (fun _ _ _ h => h) ?_ (by assumption) ?_
  rotate_left 1
  · (refine Or.inl ⟨by rfl, ?_⟩; intro w hSw; (try dsimp only at hSw); (try simp only [List.getElem_toArray, List.getElem_cons_zero, List.getElem_cons_succ]); go_simp; (first | done | with_reducible rfl))
  try simp only [Act.put, List.setIfInBounds_toArray, List.set_cons_zero, List.set_cons_succ, List.getElem_toArray, List.getElem_cons_zero, List.getElem_cons_succ]
  refine E_last (o := _) (by kernel_rfl) rfl (by kernel_rfl) (fun K hK => ?_)
  try simp only [List.getElem_toArray, List.getElem_cons_zero, List.getElem_cons_succ]
  go_simp
  refine hK.out _ _ ?_
  clear hK K
  go_wp2
  go_end0
  exact ⟨rfl, _, FW.out.2.2.1, FW.out.2.2.2.1, FW.out.2.2.2.2.1⟩
end
end Go.Proofs.YtakgjlpgcepnkaaGreat

/-! The table of the program's instructions -/
namespace Go.Proofs.YtakgjlpgcepnkaaGreat
open Go.RowKit Go.Lib

/-- The number of the function that performs a code. -/
def insT : Nat → Nat
  | 0 => 75
  | 1 => 76
  | 2 => 77
  | 3 => 78
  | 4 => 79
  | 5 => 80
  | 6 => 80
  | 7 => 80
  | 8 => 80
  | 9 => 80
  | 10 => 81
  | 11 => 82
  | 12 => 83
  | 13 => 84
  | 14 => 85
  | 15 => 86
  | 16 => 87
  | _ => 88
def insRow : Array Value := #[.func (.func 75) #[] #[], .func (.func 76) #[] #[], .func (.func 77) #[] #[], .func (.func 78) #[] #[], .func (.func 79) #[] #[], .func (.func 80) #[] #[], .func (.func 80) #[] #[], .func (.func 80) #[] #[], .func (.func 80) #[] #[], .func (.func 80) #[] #[], .func (.func 81) #[] #[], .func (.func 82) #[] #[], .func (.func 83) #[] #[], .func (.func 84) #[] #[], .func (.func 85) #[] #[], .func (.func 86) #[] #[], .func (.func 87) #[] #[], .func (.func 88) #[] #[]]
theorem enter_of {P : Program} {f : FuncId} {fn : Func} {c : Code} (hf : P.funcs[f]? = some fn) (hname : (fn.name == "runtime.NumGoroutine") = false) (hb : fn.body = some c) (args : Array Value) (w : World) : (callFunc f args).run P w = .ok (.enter f args) w := by
  have h1 : fn.name ≠ "runtime.NumGoroutine" := by simpa using hname
  simp [callFunc, hf, h1, hb]
/-- A call of a function of the table enters it. -/
theorem ins_enter (c : Nat) (hc : c < 18) (args : Array Value) (w : World) : (callFunc (insT c) args).run Tryz.prog w = .ok (.enter (insT c) args) w := by
  have h : c = 0 ∨ c = 1 ∨ c = 2 ∨ c = 3 ∨ c = 4 ∨ c = 5 ∨ c = 6 ∨ c = 7 ∨ c = 8 ∨ c = 9 ∨ c = 10 ∨ c = 11 ∨ c = 12 ∨ c = 13 ∨ c = 14 ∨ c = 15 ∨ c = 16 ∨ c = 17 := by omega
  rcases h with rfl | rfl | rfl | rfl | rfl | rfl | rfl | rfl | rfl | rfl | rfl | rfl | rfl | rfl | rfl | rfl | rfl | rfl
  · exact enter_of Tryz.func75 (by kernel_rfl) rfl args w
  · exact enter_of Tryz.func76 (by kernel_rfl) rfl args w
  · exact enter_of Tryz.func77 (by kernel_rfl) rfl args w
  · exact enter_of Tryz.func78 (by kernel_rfl) rfl args w
  · exact enter_of Tryz.func79 (by kernel_rfl) rfl args w
  · exact enter_of Tryz.func80 (by kernel_rfl) rfl args w
  · exact enter_of Tryz.func80 (by kernel_rfl) rfl args w
  · exact enter_of Tryz.func80 (by kernel_rfl) rfl args w
  · exact enter_of Tryz.func80 (by kernel_rfl) rfl args w
  · exact enter_of Tryz.func80 (by kernel_rfl) rfl args w
  · exact enter_of Tryz.func81 (by kernel_rfl) rfl args w
  · exact enter_of Tryz.func82 (by kernel_rfl) rfl args w
  · exact enter_of Tryz.func83 (by kernel_rfl) rfl args w
  · exact enter_of Tryz.func84 (by kernel_rfl) rfl args w
  · exact enter_of Tryz.func85 (by kernel_rfl) rfl args w
  · exact enter_of Tryz.func86 (by kernel_rfl) rfl args w
  · exact enter_of Tryz.func87 (by kernel_rfl) rfl args w
  · exact enter_of Tryz.func88 (by kernel_rfl) rfl args w
theorem insRow_at (c : Nat) (hc : c < 18) : insRow[c]? = some (.func (.func (insT c)) #[] #[]) := by
  have h : c = 0 ∨ c = 1 ∨ c = 2 ∨ c = 3 ∨ c = 4 ∨ c = 5 ∨ c = 6 ∨ c = 7 ∨ c = 8 ∨ c = 9 ∨ c = 10 ∨ c = 11 ∨ c = 12 ∨ c = 13 ∨ c = 14 ∨ c = 15 ∨ c = 16 ∨ c = 17 := by omega
  rcases h with rfl | rfl | rfl | rfl | rfl | rfl | rfl | rfl | rfl | rfl | rfl | rfl | rfl | rfl | rfl | rfl | rfl | rfl <;> rfl
set_option maxRecDepth 100000 in
set_option maxHeartbeats 4000000 in
theorem i_instructionOf (c : Nat) (hc : c < 18) (w : World) : Calls Tryz.prog 52 #[.int .i64 (c : Int)] w fun e w' => e = .returned (.func (.func (insT c)) #[] #[]) ∧ Below w.heap.size w w' := by
  have y0 : (0 : Int) ≤ (c : Int) := by omega
  have y1 : (c : Int) < 18 := by omega
  have HC : Hid ((w.alloc (.cells insRow 115)).cell? ⟨w.heap.size, c, none⟩ = some (.func (.func (insT c)) #[] #[])) := Lib.hid ((blk (heap_alloc_new w _)).1 c _ (insRow_at c hc))
  obtain ⟨f, hf⟩ : ∃ x, insT c = x := ⟨_, rfl⟩
  rw [hf] at HC ⊢
  clear hf hc
  go_enter Tryz.func52, Tryz.ntmps52
  go_upto_region 2 with fail
  have ec := HC.out
  unfold insRow at ec
  go_wp2
  go_ret
  exact ⟨rfl, (Below.refl w.heap.size w).alloc (Nat.le_refl _) _⟩
end Go.Proofs.YtakgjlpgcepnkaaGreat
