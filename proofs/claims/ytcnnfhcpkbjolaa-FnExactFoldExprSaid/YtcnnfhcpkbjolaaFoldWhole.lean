/- The program's foldWhole. -/
import Derived.Test.YtcnnfhcpkbjolaaOpsImpl
import Derived.Test.YtcnnfhcpkbjolaaWrapImpl
import Derived.Test.YtcnnfhcpkbjolaaNtImpl
import Derived.Test.YtcnnfhcpkbjolaaFoldIx
import Derived.Test.YtcnnfhcpkbjolaaFoldMem
import Derived.Deep.QuietTactic
import Derived.Deep.DeepCutAuto
import Derived.Deep.RegionHeld3
import Derived.BigQuiet
namespace Go.Proofs.Ytcnnfhcpkbjolaa
open Go.RowKit Go.Lib

set_option maxRecDepth 100000 in
set_option maxHeartbeats 4000000 in
theorem i_whole (B : Nat) (v : Value) (o : List TokL) (w : World) (hB : B ≤ w.heap.size) (hown : w.ownsRow B 35 3 v o.length (toksV o)) (hl : o.length ≤ 100) :
    Calls Try.prog 18 #[v] w fun e w' => ∃ v', e = .returned v' ∧ w'.ownsRow B 35 3 v' (fw o).length (toksV (fw o)) ∧ Below w.heap.size w w' := by
  have HO := Lib.hid hown
  obtain ⟨a, c, rfl⟩ := owns3_shape hown
  clear hown
  by_cases h3 : o.length = 3
  · obtain ⟨t, x, y, rfl⟩ : ∃ t x y, o = [t, x, y] := by
      match o, h3 with
      | [t, x, y], _ => exact ⟨t, x, y, rfl⟩
    obtain ⟨go, co, ho, hgo, _, hcs⟩ := toks_src HO.out (by simp)
    injection ho with ho1 _ ho2
    subst ho1 ho2
    have m0 : w.cell? ⟨go, 0, none⟩ = some (.int .i64 t.kind) := by have := hcs 0 _ rfl; rwa [add_plain, Nat.zero_add] at this
    have m1 : w.cell? ⟨go, 3, none⟩ = some (.int .i64 x.kind) := by have := hcs 3 _ rfl; rwa [add_plain, Nat.zero_add] at this
    have m2 : w.cell? ⟨go, 4, none⟩ = some (.int .i64 x.num) := by have := hcs 4 _ rfl; rwa [add_plain, Nat.zero_add] at this
    have m3 : w.cell? ⟨go, 6, none⟩ = some (.int .i64 y.kind) := by have := hcs 6 _ rfl; rwa [add_plain, Nat.zero_add] at this
    have m4 : w.cell? ⟨go, 7, none⟩ = some (.int .i64 y.num) := by have := hcs 7 _ rfl; rwa [add_plain, Nat.zero_add] at this
    have hN : [t, x, y].length = 3 := rfl
    rw [hN] at HO ⊢
    clear hcs h3 hN hl
    by_cases hk : 2 ≤ t.kind ∧ t.kind ≤ 6
    · have SI : Hid (∀ W : World, Calls Try.prog 27 #[.int .i64 t.kind] W fun e w' => e = .returned (.bool true) ∧ W = w') := Lib.hid (fun W => by have := i_oper t.kind W; rw [decide_eq_true hk.1, decide_eq_true hk.2] at this; exact this)
      have HK := Lib.hid hk
      clear hk
      by_cases hx : x.kind = 0
      · by_cases hy : y.kind = 0
        · rw [hx] at m1
          rw [hy] at m3
          have HX := Lib.hid hx
          have HY := Lib.hid hy
          have SA := Lib.hid (fun W => i_apply t.kind x.num y.num W)
          obtain ⟨V, hV⟩ : ∃ V, appZ t.kind x.num y.num = V := ⟨_, rfl⟩
          rw [hV] at SA
          have HV := Lib.hid hV
          have ST := Lib.hid (fun W => i_tok 0 V ⟨#[]⟩ W (by decide))
          obtain ⟨ok, hok⟩ : ∃ ok, tokB ⟨0, V, ⟨#[]⟩⟩ = ok := ⟨_, rfl⟩
          rw [hok] at ST
          have HOK : Hid (ok = true ↔ 0 ≤ V ∧ V ≤ 999) := Lib.hid (by rw [← hok, tokB_0]; simp [noName]; intros; rfl)
          have HBA : Hid (Below w.heap.size w (w.alloc (.cells #[.int .i64 0, .int .i64 V, .string ⟨#[]⟩] 35))) := Lib.hid ((Below.refl _ _).alloc (Nat.le_refl _) _)
          have X0 := heap_alloc_new w (.cells #[.int .i64 0, .int .i64 V, .string ⟨#[]⟩] 35)
          clear hx hy hV hok X0
          go_enter Try.func18, Try.ntmps18
          go_wp2_with (first | (go_at_call 27; refine (SI.out _).mono ?_; rintro e w' ⟨rfl, rfl⟩))
          go_region_held3 (fun w' => w'.cell? ⟨go, 0, none⟩ = some (.int .i64 t.kind) ∧ w'.cell? ⟨go, 4, none⟩ = some (.int .i64 x.num) ∧ w'.cell? ⟨go, 7, none⟩ = some (.int .i64 y.num)) (first | exact ⟨m0, m2, m4⟩ | go_keep) (first
            | (go_at_call 28; ((with_reducible refine (SA.out _).mono ?_); rintro e w' ⟨rfl, rfl⟩)))
          all_goals
            go_wp2_with fail
            refine (ST.out _).mono ?_
            rintro e w4 ⟨rfl, b4⟩
            have hsz : (w.alloc (.cells #[.int .i64 0, .int .i64 V, .string ⟨#[]⟩] 35)).drew.heap.size = w.heap.size + 1 := by show (w.alloc (.cells #[.int .i64 0, .int .i64 V, .string ⟨#[]⟩] 35)).heap.size = _; simp
            rw [hsz] at b4
            have P4 : w4.heap[w.heap.size]? = some (.cells #[.int .i64 0, .int .i64 V, .string ⟨#[]⟩] 35 (0, 0)) := (b4.block _ (by omega)).trans (heap_alloc_new w _)
            have HB4 : Hid (Below w.heap.size w w4) := Lib.hid ((HBA.out.drew).trans (b4.mono (by omega)))
            have e0 : w4.cell? ⟨w.heap.size, 0, none⟩ = some (.int .i64 0) := (blk P4).1 0 _ rfl
            have e1 : w4.cell? ⟨w.heap.size, 1, none⟩ = some (.int .i64 V) := (blk P4).1 1 _ rfl
            have e2 : w4.cell? ⟨w.heap.size, 2, none⟩ = some (.string ⟨#[]⟩) := (blk P4).1 2 _ rfl
            have HO4 := Lib.hid (owns3_below HO.out ((HB4.out).mono (Nat.le_refl _)))
            have z4 := HB4.out.size
            clear b4 P4 hsz m0 m1 m2 m3 m4
            cases ok
            · have HNO := Lib.hid (fw_no t x y (fun h => absurd (HOK.out.2 (by rw [HV.out] at h; exact ⟨h.2.2.2.2.1, h.2.2.2.2.2⟩)) (by decide)))
              go_wp2
              go_ret
              rw [HNO.out]
              exact ⟨_, rfl, HO4.out, HB4.out⟩
            · have HNO : Hid (fw [t, x, y] = [foldT V]) := Lib.hid (by rw [fw_yes t x y ⟨HK.out.1, HK.out.2, HX.out, HY.out, by rw [HV.out]; exact (HOK.out.1 rfl).1, by rw [HV.out]; exact (HOK.out.1 rfl).2⟩, HV.out])
              have HT := Lib.hid (tok_row (B := B) (T := 35) w4 (foldT V) (by omega))
              have HB5 : Hid (Below w.heap.size w (w4.alloc (.cells #[.int .i64 0, .int .i64 V, .string ⟨#[]⟩] 35))) := Lib.hid (HB4.out.alloc z4 _)
              go_wp2
              go_ret
              rw [HNO.out]
              exact ⟨_, rfl, HT.out, HB5.out⟩
        · have HNO := Lib.hid (fw_no t x y (fun h => hy h.2.2.2.1))
          have hd : (y.kind != 0) = true := by simpa using hy
          rw [hx] at m1
          clear hy hx
          go_enter Try.func18, Try.ntmps18
          go_wp2_with (first | (go_at_call 27; refine (SI.out _).mono ?_; rintro e w' ⟨rfl, rfl⟩))
          go_ret
          rw [HNO.out]
          exact ⟨_, rfl, HO.out, Below.refl _ _⟩
      · have HNO := Lib.hid (fw_no t x y (fun h => hx h.2.2.1))
        have hd : (x.kind != 0) = true := by simpa using hx
        clear hx
        go_enter Try.func18, Try.ntmps18
        go_wp2_with (first | (go_at_call 27; refine (SI.out _).mono ?_; rintro e w' ⟨rfl, rfl⟩))
        go_ret
        rw [HNO.out]
        exact ⟨_, rfl, HO.out, Below.refl _ _⟩
    · have SI : Hid (∀ W : World, Calls Try.prog 27 #[.int .i64 t.kind] W fun e w' => e = .returned (.bool false) ∧ W = w') := Lib.hid (fun W => by have := i_oper t.kind W; rw [show (decide (2 ≤ t.kind) && decide (t.kind ≤ 6)) = false from by rw [Bool.and_eq_false_iff]; by_cases h : 2 ≤ t.kind; exact .inr (decide_eq_false (fun h' => hk ⟨h, h'⟩)); exact .inl (decide_eq_false h)] at this; exact this)
      have HNO := Lib.hid (fw_no t x y (fun h => hk ⟨h.1, h.2.1⟩))
      clear hk
      go_enter Try.func18, Try.ntmps18
      go_wp2_with (first | (go_at_call 27; refine (SI.out _).mono ?_; rintro e w' ⟨rfl, rfl⟩))
      go_ret
      rw [HNO.out]
      exact ⟨_, rfl, HO.out, Below.refl _ _⟩
  · have HNO := Lib.hid (fw_len o h3)
    obtain ⟨N, hN⟩ : ∃ N, o.length = N := ⟨_, rfl⟩
    rw [hN] at HO h3 hl ⊢
    have HN := Lib.hid hN
    have hd : ((N : Int) != 3) = true := by simp; omega
    clear h3 hN
    go_enter Try.func18, Try.ntmps18
    go_wp2_with fail
    go_ret
    rw [HNO.out]
    exact ⟨_, rfl, by rw [HN.out]; exact HO.out, Below.refl _ _⟩
end Go.Proofs.Ytcnnfhcpkbjolaa
