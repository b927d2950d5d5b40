/- How many items the program's compiler makes: a call is replaced only while there are few. Nothing of the program's walk; The program's Wrap and Apply; The program's foldWhole. -/
import Derived.Test.YtaplbefdijcceaaGreatDoorI22
import Derived.Test.YtaplbefdijcceaaGreatDoorRows
import Derived.Test.YtaplbefdijcceaaGreatDoorI02
import Derived.Test.YtaplbefdijcceaaGreatDoorI19
import Derived.Test.YtaplbefdijcceaaGreatDoorI18
import Derived.Test.YtaplbefdijcceaaGreatDoorI03
import Derived.Outline
import Derived.Lib.Hide
import Derived.Deep.QuietTactic
import Derived.Deep.DeepCutAuto
import Derived.Deep.RegionHeld3
import Derived.BigQuiet
namespace Go.Proofs.YtaplbefdijcceaaGreatDoor
open Go.RowKit Go.Lib
def capC : Nat → Nat
  | 0 => 0
  | d + 1 => max 221 (capC d) + 198
theorem len_enter {E : CmpE} (ho : OkI E.p) (sc : ScL) {g : Nat} (hg : g ∈ funs E.p) (k : Nat) (t : CiS) : (enterJ E sc (newSc E sc g k) k t).items.length ≤ t.items.length + 21 := by
  obtain ⟨hl, ha, hpre, h4, _⟩ := loc_args ho hg
  have h8 : (newSc E sc g k).locs.length ≤ 8 := loc_len ho hg
  have hn : (argsZ E.p ((newSc E sc g k).f : Int)).length ≤ 4 := by show (argsZ E.p (g : Int)).length ≤ 4; rw [ha]; exact h4
  unfold enterJ
  dsimp only
  obtain ⟨m, hm⟩ : ∃ m, (argsZ E.p ((newSc E sc g k).f : Int)).length = m := ⟨_, rfl⟩
  rw [hm] at hn ⊢
  have e1 := (onw_stores E (newSc E sc g k) k sc.chain m { t with used := max t.used ((newSc E sc g k).first + (newSc E sc g k).locs.length) }).2.2
  have e2 := (onw_zeros E (newSc E sc g k) k sc.chain ((newSc E sc g k).locs.length - m) m (storesJ E (newSc E sc g k) k sc.chain m { t with used := max t.used ((newSc E sc g k).first + (newSc E sc g k).locs.length) })).2.2
  have e3 : ∀ y : CiS, (spaceJ E k sc.chain y).items.length ≤ y.items.length + 1 := fun y => by
    unfold spaceJ
    split
    · exact Nat.le_of_eq (emitJ_len ..)
    · omega
  have e4 := e3 (zerosJ E (newSc E sc g k) k sc.chain ((newSc E sc g k).locs.length - m) m (storesJ E (newSc E sc g k) k sc.chain m { t with used := max t.used ((newSc E sc g k).first + (newSc E sc g k).locs.length) }))
  rw [e2, e1] at e4
  have e5 : ({ t with used := max t.used ((newSc E sc g k).first + (newSc E sc g k).locs.length) } : CiS).items.length = t.items.length := rfl
  rw [e5] at e4
  omega
def ScD (E : CmpE) (scs : List ScL) (d : Nat) : Prop := (curS scs).f ∈ funs E.p ∧ 1 ≤ scs.length ∧ scs.length + d = E.inl + 1 ∧ (curS scs).locs = locZ E.p ((curS scs).f : Int)
def LE (E : CmpE) (n : Nat) : Prop := ∀ scs k i t z d q, cmiF E n (.expr scs k i) t = some z → ScD E scs d → Kn E scs k → scanN ((exprAt E.p k).drop i) 1 = some q → z.1 = i + q ∧ z.2.items.length ≤ max t.items.length (capC d) + q
def LA (E : CmpE) (n : Nat) : Prop := ∀ scs k i m t z d q, cmiF E n (.args scs k i m) t = some z → ScD E scs d → Kn E scs k → scanN ((exprAt E.p k).drop i) m = some q → z.1 = i + q ∧ z.2.items.length ≤ max t.items.length (capC d) + q
def LL (E : CmpE) (n : Nat) : Prop := ∀ scs k dd t z d, cmiF E n (.lines scs k dd) t = some z → ScD E scs d → (curS scs).f < k → z.2.items.length ≤ max t.items.length (capC d) + 22 * ((beZ E.p ((curS scs).f : Int)).toNat + 1 - k)
theorem la_step {E : CmpE} {n : Nat} (he : LE E n) (ha : LA E n) : LA E (n + 1) := by
  intro scs k i m t z d q h hs hk hq
  cases m with
  | zero =>
    rw [cmiF] at h
    obtain rfl := Option.some.inj h
    have hq0 : q = 0 := by cases hd : (exprAt E.p k).drop i <;> rw [hd, scanN] at hq <;> exact (Option.some.inj hq).symm
    subst hq0
    exact ⟨rfl, by show t.items.length ≤ _; omega⟩
  | succ m =>
    rw [cmiF] at h
    obtain ⟨y, h1, h2⟩ := cbind h
    obtain ⟨q1, q2, s1, s2, rfl⟩ := scan_next _ _ _ _ hq
    obtain ⟨a1, a2⟩ := he _ _ _ _ _ _ _ h1 hs hk s1
    rw [a1] at h2
    obtain ⟨b1, b2⟩ := ha _ _ _ _ _ _ _ _ h2 hs hk s2
    exact ⟨by omega, by omega⟩
theorem le_step {E : CmpE} (ho : OkI E.p) {n : Nat} (ha : LA E n) (hl : LL E n) : LE E (n + 1) := by
  intro scs k i t z d q h hs hk hq
  obtain ⟨hi, htb, q', rfl, hq'⟩ := scan_one _ _ _ hq
  have htk := tokAt_get E.p k i hi
  rw [cmiF] at h
  obtain ⟨y, h1, h2⟩ := cbind h
  dsimp only at h2
  rw [htk] at h1 h2
  obtain ⟨a1, a2⟩ := ha _ _ _ _ _ _ _ _ h1 hs hk hq'
  have fin : ∀ code arg, y.1 = i + (q' + 1) ∧ (emitJ E y.2 code arg k (curS scs).chain).items.length ≤ max t.items.length (capC d) + (q' + 1) := fun code arg => ⟨by omega, by rw [emitJ_len]; omega⟩
  by_cases c0 : ((exprAt E.p k)[i]).kind = 0
  · rw [if_pos c0] at h2; obtain rfl := Option.some.inj h2; exact fin _ _
  rw [if_neg c0] at h2
  by_cases c1 : ((exprAt E.p k)[i]).kind = 1
  · rw [if_pos c1] at h2; obtain rfl := Option.some.inj h2; exact fin _ _
  rw [if_neg c1] at h2
  by_cases c7 : ((exprAt E.p k)[i]).kind = 7
  · rw [if_pos c7] at h2
    obtain ⟨g, hg⟩ : ∃ g, (findZ E.p ((exprAt E.p k)[i]).name).toNat = g := ⟨_, rfl⟩
    rw [hg] at h2
    by_cases hr : replJ E scs y.2.items.length g = true
    · rw [if_pos hr] at h2
      obtain ⟨r1, r2, r3, r4⟩ := replJ_lt hr
      cases hx : cmiF E n (.lines (newSc E (curS scs) g k :: scs) (g + 1) (enterJ E (curS scs) (newSc E (curS scs) g k) k y.2).depth) { enterJ E (curS scs) (newSc E (curS scs) g k) k y.2 with jumps := [], firsts := [], pend := false } with
      | none => rw [hx] at h2; cases h2
      | some p =>
        rw [hx] at h2
        obtain rfl := Option.some.inj h2
        obtain ⟨s1, s2, s3, s4⟩ := hs
        obtain ⟨d', rfl⟩ : ∃ d', d = d' + 1 := ⟨d - 1, by omega⟩
        have hgf : g ∈ funs E.p := by
          have hkn := (hk _ (List.getElem_mem hi)).2 c7
          exact findZ_fun E.p ((exprAt E.p k)[i]).name g (by omega)
        · have hb := hl _ _ _ _ _ d' hx ⟨hgf, by simp, by rw [List.length_cons]; omega, rfl⟩ (Nat.lt_succ_self g)
          have hen := len_enter ho (curS scs) hgf k y.2
          have hb : p.2.items.length ≤ max (enterJ E (curS scs) (newSc E (curS scs) g k) k y.2).items.length (capC d') + 22 * ((beZ E.p (g : Int)).toNat + 1 - (g + 1)) := hb
          obtain ⟨_, _, hfe, _, _⟩ := fun_parts ho hgf
          have hc : capC (d' + 1) = max 221 (capC d') + 198 := rfl
          refine ⟨by show y.1 = _; omega, ?_⟩
          show p.2.items.length ≤ _
          rw [hc] at a2 ⊢
          omega
    · rw [if_neg hr] at h2; obtain rfl := Option.some.inj h2; exact fin _ _
  · rw [if_neg c7] at h2; obtain rfl := Option.some.inj h2; exact fin _ _
theorem ll_line {E : CmpE} (ho : OkI E.p) {n : Nat} (he : LE E n) {scs : List ScL} {k d : Nat} {t R : CiS} (hs : ScD E scs d) (hfk : (curS scs).f < k) (hke : (k : Int) ≤ beZ E.p ((curS scs).f : Int)) (h : LineTo E n scs (curS scs) k t R) : R.items.length ≤ max t.items.length (capC d) + 22 := by
  obtain ⟨s1, s2, s3, s4⟩ := hs
  obtain ⟨hfl, hf0, hfe, hel, _⟩ := fun_parts ho s1
  have h0 : 0 ≤ beZ E.p ((curS scs).f : Int) := by omega
  have hk : k < E.p.length := by omega
  have hlk := lkZ_at E.p k hk
  have jl : ∀ (y : CiS) (c : Int) (l : Nat) (ch : List Nat), (jumpJ E y c l k ch).items.length = y.items.length + 1 := fun y c l ch => by unfold jumpJ emitJ; simp
  have ll : ∀ y : CiS, (leaveJ E y (curS scs) k).items.length = y.items.length + 1 := fun y => by
    unfold leaveJ
    split
    · exact jl _ _ _ _
    · split <;> exact emitJ_len ..
  have nl : (numJ E t 0 k (curS scs).chain).items.length = t.items.length + 1 := by unfold numJ incJ emitJ; simp
  unfold LineTo at h
  by_cases h4 : lkZ E.p (k : Int) = 4
  · rw [if_pos h4] at h
    rw [h, jl]; omega
  rw [if_neg h4] at h
  by_cases h7 : lkZ E.p (k : Int) = 7
  · rw [if_pos h7] at h
    split at h
    · rw [h]
      split
      · rw [ll, nl]; omega
      · rw [nl]; omega
    · split at h
      · rw [h, jl]; omega
      · rw [h]; omega
  rw [if_neg h7] at h
  obtain ⟨y, hy, h⟩ := h
  have hlt : (k : Int) < beZ E.p ((curS scs).f : Int) := by
    rcases Int.lt_or_le (k : Int) (beZ E.p ((curS scs).f : Int)) with h' | h'
    · exact h'
    · have := beZ_7 E.p ((curS scs).f : Int) h0
      rw [show beZ E.p ((curS scs).f : Int) = (k : Int) from by omega] at this
      omega
  have hlb := ho.1.2 _ (List.getElem_mem hk)
  have hkd := kinds_in ho s1 hfk hlt hk
  have hex : exprB E.p[k].expr = true := by
    have := ((lineB_iff _).1 hlb).2.2.2
    have hk2 : exprK E.p[k].kind = true := by
      unfold exprK
      rw [hlk] at h4 h7
      rw [decide_eq_false (show ¬ E.p[k].kind = 0 by omega), decide_eq_false h4, decide_eq_false h7]
      rfl
    rw [hk2] at this
    exact this
  have hea := exprAt_get E.p k hk
  have hl20 := (expr_len _ hex).2
  obtain ⟨_, y2⟩ := he _ _ _ _ _ d _ hy ⟨s1, s2, s3, s4⟩ (fun u hu => by rw [s4]; rw [hea] at hu; exact line_in ho s1 hfk hlt hk u hu) (by rw [hea, List.drop_zero]; exact expr_scan _ hex)
  have y2 : y.2.items.length ≤ max t.items.length (capC d) + E.p[k].expr.length := y2
  by_cases c1 : lkZ E.p (k : Int) = 1
  · rw [if_pos c1] at h
    rw [h]
    have : (storeJ E y.2 (curS scs) (varIx (curS scs).locs (nameAt E.p k)) k (curS scs).chain).items.length = y.2.items.length + 1 := by unfold storeJ incJ emitJ; simp
    omega
  rw [if_neg c1] at h
  by_cases c2 : lkZ E.p (k : Int) = 2
  · rw [if_pos c2] at h
    rw [h, emitJ_len]; omega
  rw [if_neg c2] at h
  by_cases c6 : lkZ E.p (k : Int) = 6
  · rw [if_pos c6] at h
    rw [h, ll]; omega
  rw [if_neg c6] at h
  rw [h, jl]; omega
theorem ll_step {E : CmpE} (ho : OkI E.p) {n : Nat} (he : LE E n) (hl : LL E n) : LL E (n + 1) := by
  intro scs k dd t z d h hs hfk
  obtain ⟨hfl, hf0, hfe, hel, _⟩ := fun_parts ho hs.1
  by_cases hke : (k : Int) ≤ beZ E.p ((curS scs).f : Int)
  · obtain ⟨R, h1, h2⟩ := line_inv rfl h hke
    have hR := ll_line ho he hs hfk hke h1
    have hR : R.items.length ≤ max t.items.length (capC d) + 22 := hR
    have h3 := hl _ _ _ _ _ d h2 hs (by omega)
    omega
  · have := lines_end rfl h (by omega)
    rw [this]
    show (applyJ _ _ _ _).length ≤ _
    rw [apply_length]
    omega
theorem len_all {E : CmpE} (ho : OkI E.p) : ∀ n, LE E n ∧ LA E n ∧ LL E n := by
  intro n
  induction n with
  | zero => exact ⟨fun scs k i t z d q h => (by simp [cmiF] at h), fun scs k i m t z d q h => (by simp [cmiF] at h), fun scs k dd t z d h => (by simp [cmiF] at h)⟩
  | succ n ih => exact ⟨le_step ho ih.2.1 ih.2.2, la_step ih.1 ih.2.1, ll_step ho ih.1 ih.2.2⟩
theorem top_len {E : CmpE} (ho : OkI E.p) (hi : E.inl ≤ 3) {g : Nat} (hg : g ∈ funs E.p) {n : Nat} {z : Nat × CiS} (h : cmiF E n (.lines [topSc E.p g] (g + 1) E.words) (topJ E g) = some z) : z.2.items.length ≤ 3000 := by
  have h1 := (len_all ho n).2.2 [topSc E.p g] (g + 1) E.words (topJ E g) z E.inl h ⟨hg, by simp, by simp; omega, rfl⟩ (Nat.lt_succ_self g)
  have e : (topJ E g).items.length = 1 := by rw [(topJ_items E g).1]; exact (topJ_items E g).2
  have hb := beZ_lt E.p (g : Int)
  have h60 := ho.1.1
  have h1 : z.2.items.length ≤ max (topJ E g).items.length (capC E.inl) + 22 * ((beZ E.p (g : Int)).toNat + 1 - (g + 1)) := h1
  have hc : capC E.inl ≤ 815 := by
    have h3 : E.inl = 0 ∨ E.inl = 1 ∨ E.inl = 2 ∨ E.inl = 3 := by omega
    rcases h3 with h3 | h3 | h3 | h3 <;> rw [h3] <;> decide
  omega
end Go.Proofs.YtaplbefdijcceaaGreatDoor

namespace Go.Proofs.YtaplbefdijcceaaGreatDoor
open Go.RowKit Go.Lib
theorem ret_i' {k : IntKind} {a b : Int} (h : a = b) : Ending.returned (.int k a) = .returned (.int k b) := by rw [h]
theorem i_wrap (x : Int) (w : World) : Calls Tryz.prog 190 #[.int .i64 x] w fun e w' => e = .returned (.int .i64 (W32 x)) ∧ w = w' := by
  have h0 := W32_lo x
  have h1 := W32_hi x
  have hr := hid (W32_wrap x)
  go_enter Tryz.func190, Tryz.ntmps190
  go_wp2
  go_ret
  exact ⟨ret_i' (by rw [hr.out]; unfold wrap64; omega), rfl⟩
theorem i_one (b : Bool) (w : World) : Calls Tryz.prog 191 #[.bool b] w fun e w' => e = .returned (.int .i64 (if b = true then 1 else 0)) ∧ w = w' := by
  cases b
  all_goals
    go_enter Tryz.func191, Tryz.ntmps191
    go_wp2
    go_ret
    exact ⟨rfl, rfl⟩
set_option maxHeartbeats 400000 in
theorem i_apply (k a b : Int) (w : World) : Calls Tryz.prog 177 #[.int .i64 k, .int .i64 a, .int .i64 b] w fun e w' => e = .returned (.int .i64 (appZ k a b)) ∧ w = w' := by
  have ha0 := W32_lo a
  have ha1 := W32_hi a
  have hb0 := W32_lo b
  have hb1 := W32_hi b
  have hm := hid (mul_bd a b)
  by_cases h2 : k = 2
  · subst h2
    have hr := hid (appZ_add a b)
    go_enter Tryz.func177, Tryz.ntmps177
    go_wp2_with (first | (go_at_call 190; refine (i_wrap _ _).mono ?_; rintro e w' ⟨rfl, rfl⟩))
    go_ret
    exact ⟨ret_i' hr.out.symm, rfl⟩
  by_cases h3 : k = 3
  · subst h3
    have hr := hid (appZ_sub a b)
    go_enter Tryz.func177, Tryz.ntmps177
    go_wp2_with (first | (go_at_call 190; refine (i_wrap _ _).mono ?_; rintro e w' ⟨rfl, rfl⟩))
    go_ret
    exact ⟨ret_i' hr.out.symm, rfl⟩
  by_cases h4 : k = 4
  · subst h4
    have hr := hid (appZ_mul a b)
    have hm0 := hm.out.1
    have hm1 := hm.out.2
    go_enter Tryz.func177, Tryz.ntmps177
    go_wp2_with (first | (go_at_call 190; refine (i_wrap _ _).mono ?_; rintro e w' ⟨rfl, rfl⟩))
    go_ret
    exact ⟨ret_i' hr.out.symm, rfl⟩
  by_cases h5 : k = 5
  · subst h5
    have hr : Hid (appZ 5 a b = if decide (W32 a < W32 b) = true then 1 else 0) := hid (by show (if W32 a < W32 b then _ else _) = _; simp)
    go_enter Tryz.func177, Tryz.ntmps177
    go_wp2_with (first | (go_at_call 190; refine (i_wrap _ _).mono ?_; rintro e w' ⟨rfl, rfl⟩) | (go_at_call 191; refine (i_one _ _).mono ?_; rintro e w' ⟨rfl, rfl⟩))
    all_goals go_ret
    all_goals exact ⟨ret_i' (by rw [hr.out]; simp [*]), rfl⟩
  by_cases h6 : k = 6
  · subst h6
    have hr : Hid (appZ 6 a b = if (W32 a == W32 b) = true then 1 else 0) := hid (by show (if W32 a = W32 b then _ else _) = _; simp)
    go_enter Tryz.func177, Tryz.ntmps177
    go_wp2_with (first | (go_at_call 190; refine (i_wrap _ _).mono ?_; rintro e w' ⟨rfl, rfl⟩) | (go_at_call 191; refine (i_one _ _).mono ?_; rintro e w' ⟨rfl, rfl⟩))
    all_goals go_ret
    all_goals exact ⟨ret_i' (by rw [hr.out]; simp [*]), rfl⟩
  · have hr := hid (appZ_other k a b h2 h3 h4 h5 h6)
    have e2 : (k == 2) = false := by simpa using h2
    have e3 : (k == 3) = false := by simpa using h3
    have e4 : (k == 4) = false := by simpa using h4
    have e5 : (k == 5) = false := by simpa using h5
    have e6 : (k == 6) = false := by simpa using h6
    clear h2 h3 h4 h5 h6
    go_enter Tryz.func177, Tryz.ntmps177
    go_wp2_with (first | (go_at_call 190; refine (i_wrap _ _).mono ?_; rintro e w' ⟨rfl, rfl⟩))
    go_ret
    exact ⟨ret_i' hr.out.symm, rfl⟩
end Go.Proofs.YtaplbefdijcceaaGreatDoor

namespace Go.Proofs.YtaplbefdijcceaaGreatDoor
open Go.RowKit Go.Lib
set_option maxRecDepth 100000 in
set_option maxHeartbeats 4000000 in
theorem i_whole (B : Nat) (v : Value) (o : List TokL) (w : World) (hB : B ≤ w.heap.size) (hown : w.ownsRow B 49 3 v o.length (toksV o)) (hl : o.length ≤ 100) :
    Calls Tryz.prog 145 #[v] w fun e w' => ∃ v', e = .returned v' ∧ w'.ownsRow B 49 3 v' (fw o).length (toksV (fw o)) ∧ Below w.heap.size w w' := by
  have HO := hid hown
  obtain ⟨a, c, rfl⟩ := owns3_shape hown
  clear hown
  by_cases h3 : o.length = 3
  · obtain ⟨t, x, y, rfl⟩ : ∃ t x y, o = [t, x, y] := by
      match o, h3 with
      | [t, x, y], _ => exact ⟨t, x, y, rfl⟩
    obtain ⟨go, co, ho, hgo, _, hcs⟩ := toks_src HO.out (by simp)
    injection ho with ho1 _ ho2
    subst ho1 ho2
    have m0 : w.cell? ⟨go, 0, none⟩ = some (.int .i64 t.kind) := by have := hcs 0 _ rfl; rwa [add_plain, Nat.zero_add] at this
    have m1 : w.cell? ⟨go, 3, none⟩ = some (.int .i64 x.kind) := by have := hcs 3 _ rfl; rwa [add_plain, Nat.zero_add] at this
    have m2 : w.cell? ⟨go, 4, none⟩ = some (.int .i64 x.num) := by have := hcs 4 _ rfl; rwa [add_plain, Nat.zero_add] at this
    have m3 : w.cell? ⟨go, 6, none⟩ = some (.int .i64 y.kind) := by have := hcs 6 _ rfl; rwa [add_plain, Nat.zero_add] at this
    have m4 : w.cell? ⟨go, 7, none⟩ = some (.int .i64 y.num) := by have := hcs 7 _ rfl; rwa [add_plain, Nat.zero_add] at this
    have hN : [t, x, y].length = 3 := rfl
    rw [hN] at HO ⊢
    clear hcs h3 hN hl
    by_cases hk : 2 ≤ t.kind ∧ t.kind ≤ 6
    · have SI : Hid (∀ W : World, Calls Tryz.prog 176 #[.int .i64 t.kind] W fun e w' => e = .returned (.bool true) ∧ W = w') := hid (fun W => by have := i_oper t.kind W; rw [decide_eq_true hk.1, decide_eq_true hk.2] at this; exact this)
      have HK := hid hk
      clear hk
      by_cases hx : x.kind = 0
      · by_cases hy : y.kind = 0
        · rw [hx] at m1
          rw [hy] at m3
          have HX := hid hx
          have HY := hid hy
          have SA := hid (fun W => i_apply t.kind x.num y.num W)
          obtain ⟨V, hV⟩ : ∃ V, appZ t.kind x.num y.num = V := ⟨_, rfl⟩
          rw [hV] at SA
          have HV := hid hV
          have ST := hid (fun W => i_tok 0 V ⟨#[]⟩ W (by decide))
          obtain ⟨ok, hok⟩ : ∃ ok, tokB ⟨0, V, ⟨#[]⟩⟩ = ok := ⟨_, rfl⟩
          rw [hok] at ST
          have HOK : Hid (ok = true ↔ 0 ≤ V ∧ V ≤ 999) := hid (by rw [← hok, tokB_0]; simp [noName]; intros; rfl)
          have HBA : Hid (Below w.heap.size w (w.alloc (.cells #[.int .i64 0, .int .i64 V, .string ⟨#[]⟩] 49))) := hid ((Below.refl _ _).alloc (Nat.le_refl _) _)
          have X0 := heap_alloc_new w (.cells #[.int .i64 0, .int .i64 V, .string ⟨#[]⟩] 49)
          clear hx hy hV hok X0
          go_enter Tryz.func145, Tryz.ntmps145
          go_wp2_with (first | (go_at_call 176; refine (SI.out _).mono ?_; rintro e w' ⟨rfl, rfl⟩))
          go_region_held3 (fun w' => w'.cell? ⟨go, 0, none⟩ = some (.int .i64 t.kind) ∧ w'.cell? ⟨go, 4, none⟩ = some (.int .i64 x.num) ∧ w'.cell? ⟨go, 7, none⟩ = some (.int .i64 y.num)) (first | exact ⟨m0, m2, m4⟩ | go_keep) (first
            | (go_at_call 177; ((with_reducible refine (SA.out _).mono ?_); rintro e w' ⟨rfl, rfl⟩)))
          all_goals
            go_wp2_with fail
            refine (ST.out _).mono ?_
            rintro e w4 ⟨rfl, b4⟩
            have hsz : (w.alloc (.cells #[.int .i64 0, .int .i64 V, .string ⟨#[]⟩] 49)).drew.heap.size = w.heap.size + 1 := by show (w.alloc (.cells #[.int .i64 0, .int .i64 V, .string ⟨#[]⟩] 49)).heap.size = _; simp
            rw [hsz] at b4
            have P4 : w4.heap[w.heap.size]? = some (.cells #[.int .i64 0, .int .i64 V, .string ⟨#[]⟩] 49 (0, 0)) := (b4.block _ (by omega)).trans (heap_alloc_new w _)
            have HB4 : Hid (Below w.heap.size w w4) := hid ((HBA.out.drew).trans (b4.mono (by omega)))
            have e0 : w4.cell? ⟨w.heap.size, 0, none⟩ = some (.int .i64 0) := (blk P4).1 0 _ rfl
            have e1 : w4.cell? ⟨w.heap.size, 1, none⟩ = some (.int .i64 V) := (blk P4).1 1 _ rfl
            have e2 : w4.cell? ⟨w.heap.size, 2, none⟩ = some (.string ⟨#[]⟩) := (blk P4).1 2 _ rfl
            have HO4 := hid (owns3_below HO.out ((HB4.out).mono (Nat.le_refl _)))
            have z4 := HB4.out.size
            clear b4 P4 hsz m0 m1 m2 m3 m4
            cases ok
            · have HNO := hid (fw_no t x y (fun h => absurd (HOK.out.2 (by rw [HV.out] at h; exact ⟨h.2.2.2.2.1, h.2.2.2.2.2⟩)) (by decide)))
              go_wp2
              go_ret
              rw [HNO.out]
              exact ⟨_, rfl, HO4.out, HB4.out⟩
            · have HNO : Hid (fw [t, x, y] = [foldT V]) := hid (by rw [fw_yes t x y ⟨HK.out.1, HK.out.2, HX.out, HY.out, by rw [HV.out]; exact (HOK.out.1 rfl).1, by rw [HV.out]; exact (HOK.out.1 rfl).2⟩, HV.out])
              have HT := hid (tok_row (B := B) (T := 49) w4 (foldT V) (by omega))
              have HB5 : Hid (Below w.heap.size w (w4.alloc (.cells #[.int .i64 0, .int .i64 V, .string ⟨#[]⟩] 49))) := hid (HB4.out.alloc z4 _)
              go_wp2
              go_ret
              rw [HNO.out]
              exact ⟨_, rfl, HT.out, HB5.out⟩
        · have HNO := hid (fw_no t x y (fun h => hy h.2.2.2.1))
          have hd : (y.kind != 0) = true := by simpa using hy
          rw [hx] at m1
          clear hy hx
          go_enter Tryz.func145, Tryz.ntmps145
          go_wp2_with (first | (go_at_call 176; refine (SI.out _).mono ?_; rintro e w' ⟨rfl, rfl⟩))
          go_ret
          rw [HNO.out]
          exact ⟨_, rfl, HO.out, Below.refl _ _⟩
      · have HNO := hid (fw_no t x y (fun h => hx h.2.2.1))
        have hd : (x.kind != 0) = true := by simpa using hx
        clear hx
        go_enter Tryz.func145, Tryz.ntmps145
        go_wp2_with (first | (go_at_call 176; refine (SI.out _).mono ?_; rintro e w' ⟨rfl, rfl⟩))
        go_ret
        rw [HNO.out]
        exact ⟨_, rfl, HO.out, Below.refl _ _⟩
    · have SI : Hid (∀ W : World, Calls Tryz.prog 176 #[.int .i64 t.kind] W fun e w' => e = .returned (.bool false) ∧ W = w') := hid (fun W => by have := i_oper t.kind W; rw [show (decide (2 ≤ t.kind) && decide (t.kind ≤ 6)) = false from by rw [Bool.and_eq_false_iff]; by_cases h : 2 ≤ t.kind; exact .inr (decide_eq_false (fun h' => hk ⟨h, h'⟩)); exact .inl (decide_eq_false h)] at this; exact this)
      have HNO := hid (fw_no t x y (fun h => hk ⟨h.1, h.2.1⟩))
      clear hk
      go_enter Tryz.func145, Tryz.ntmps145
      go_wp2_with (first | (go_at_call 176; refine (SI.out _).mono ?_; rintro e w' ⟨rfl, rfl⟩))
      go_ret
      rw [HNO.out]
      exact ⟨_, rfl, HO.out, Below.refl _ _⟩
  · have HNO := hid (fw_len o h3)
    obtain ⟨N, hN⟩ : ∃ N, o.length = N := ⟨_, rfl⟩
    rw [hN] at HO h3 hl ⊢
    have HN := hid hN
    have hd : ((N : Int) != 3) = true := by simp; omega
    clear h3 hN
    go_enter Tryz.func145, Tryz.ntmps145
    go_wp2_with fail
    go_ret
    rw [HNO.out]
    exact ⟨_, rfl, by rw [HN.out]; exact HO.out, Below.refl _ _⟩
end Go.Proofs.YtaplbefdijcceaaGreatDoor
