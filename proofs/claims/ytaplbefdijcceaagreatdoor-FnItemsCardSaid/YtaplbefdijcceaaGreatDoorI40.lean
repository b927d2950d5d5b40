/- What the model's generator returns: the lines of a function's body. -/
import Derived.Test.YtaplbefdijcceaaGreatDoorI39
namespace Go.Proofs.YtaplbefdijcceaaGreatDoor
open Go.RowKit Go.Lib
theorem infoL : (Tryz.prog.info? 42).map (fun i => (i.zero, i.size, i.bytes)) = some (some (.agg #[.int .i64 0, .string ⟨#[]⟩, .slice none 0 0, .slice none 0 0]), 4, 72) := by kernel_rfl
theorem neL : 42 ≠ 9 ∧ 42 ≠ 49 ∧ 126 ≠ 9 ∧ 126 ≠ 49 := by decide
set_option maxRecDepth 100000 in
set_option maxHeartbeats 8000000 in
theorem g_body (c : Nat) (a : Option Addr) (len cap : Nat) (z : List Int) (lv ln : List ByteArray) (la : List Int) (va na aa : Option Addr) (vc nc ac : Nat) (hok : GenOk lv ln la) (hv0 : 0 < lv.length) (g : Nat) (d : Nat) :
    d ≤ 2 → ∀ (N : Nat) (x y : Int) (w : World), N ≤ 10 → x = (N : Int) → y = (d : Int) → CurAt 126 w c a len cap z → GenAt 168 c w g va na aa lv ln la vc nc ac →
    Calls Tryz.prog 127 #[.pointer (some ⟨g, 0, none⟩), .int .i64 x, .int .i64 y] w (DrawL 126 42 9 49 (N * bdL d) c a len cap z w) := by
  induction d using Nat.strongRecOn with
  | ind d ih =>
  intro hd N x y w hN hx hy hcur hgen
  have IH := hid ih
  have HX := hid hx
  have HY := hid hy
  have HC := hid hcur
  have HG := hid hgen
  have OK := hid hok
  have hcw := hcur.lt
  have hgc := hgen.1
  have y0 : 0 ≤ y := by omega
  have y2 : y ≤ 2 := by omega
  have hbd : bdL d ≤ 21 := by
    have : d = 0 ∨ d = 1 ∨ d = 2 := by omega
    rcases this with rfl | rfl | rfl <;> decide
  clear ih hx hy hcur hgen hok
  obtain ⟨i0, hi, hz0, hz1, hz2⟩ := info_parts infoL
  have S0 := hid (St.zero (TL := 42) (TS := 9) (TK := 49) HC.out)
  go_enter Tryz.func127, Tryz.ntmps127
  go_wp2_with fail
  go_loopw [1, 7, 8, 9] (fun xn v _ _ wr => ∃ (j : Nat) (X : List LnL), xn = .int .i64 (j : Int) ∧ j ≤ N ∧ X.length + j * bdL d ≤ N * bdL d ∧ St 126 42 9 49 w c a len cap z X v wr)
    (fun xn _ _ _ _ => (RowKit.intOf xn).toNat)
  case atStart => exact ⟨N, [], by rw [HX.out], Nat.le_refl _, by simp, S0.out⟩
  case round =>
    obtain ⟨j, X, rfl, hj, hXb, hst⟩ := hrel
    have HS := hid hst
    have HXB := hid hXb
    have hXl : X.length ≤ 210 := by
      have h1 : N * bdL d ≤ 10 * 21 := Nat.mul_le_mul hN hbd
      omega
    have hge := HG.out.grown hst.2.2.2.2.2
    have HGE := hid hge
    obtain ⟨e0, e1, e2, e3⟩ := hge.cells
    clear hst hXb hge
    have hb1 : 1 ≤ bdL d := by have : d = 0 ∨ d = 1 ∨ d = 2 := by omega
                               rcases this with rfl | rfl | rfl <;> decide
    by_cases hj0 : 0 < j
    · obtain ⟨j', rfl⟩ : ∃ j', j = j' + 1 := ⟨j - 1, by omega⟩
      go_wp2_with fail
      refine (d_below c a len cap z 9 _ HS.out.2.2.2.2.1 (by omega) (by omega)).mono ?_
      rintro e w1 ⟨k, k0, k1, rfl, H1, G1⟩
      have HS1 := hid (HS.out.far hcw neL.2.2.1 neL.2.2.2 G1 H1)
      have HGE1 := hid (HGE.out.grown G1)
      clear H1 G1 e0 e1 e2 e3
      by_cases k4 : k < 4
      · skip
        have n0 : some g ≠ some c := fun e => hgc (by injection e)
        have e0 := (HG.out.grown HS1.out.2.2.2.2.2).cells.1
        have e1 := (HG.out.grown HS1.out.2.2.2.2.2).cells.2.1
        obtain ⟨gn, on, hva, hgn⟩ : ∃ gn on, va = some ⟨gn, on, none⟩ ∧ gn ≠ c := by
          obtain ⟨gn, on, h1, _, h2, _⟩ := (HG.out.grown HS1.out.2.2.2.2.2).2.2.1 0 hv0
          exact ⟨gn, on, h1, h2⟩
        have HT : Hid (∀ f (h : f < lv.length), w1.cell? ⟨gn, on + f, none⟩ = some (.string lv[f]) ∧ nameB lv[f] = true) := hid (fun f h => by
          obtain ⟨gn', on', h1, _, h2, h3⟩ := (HG.out.grown HS1.out.2.2.2.2.2).2.2.1 f h
          rw [hva] at h1
          injection h1 with h1
          injection h1 with h1 h1'
          subst h1 h1'
          exact ⟨h3, OK.out.1 _ (List.getElem_mem h)⟩)
        subst hva
        have gd : w1.grownBy w1.drew none := ⟨rfl, rfl, rfl, Nat.le_refl _, fun _ _ _ => rfl⟩
        have D := hid (d_below c a len cap z (lv.length : Int) w1.drew (HS1.out.2.2.2.2.1.kept gd (fun g e => by cases e)) (by omega) (by have := OK.out.2.2.2.2.1; omega))
        have gd' : w1.grownBy w1.drew (some c) := ⟨rfl, rfl, rfl, Nat.le_refl _, fun _ _ _ => rfl⟩
        have GD := hid gd'
        clear gd gd'
        have k0' : (0 : Int) ≤ (lv.length : Int) := by omega
        have e0d : w1.drew.cell? ⟨g, 0, none⟩ = some (.pointer (some ⟨c, 0, none⟩)) := e0
        have e1d : w1.drew.cell? ⟨g, 1, none⟩ = some (.slice (some ⟨gn, on, none⟩) lv.length vc) := e1
        have htd : ∀ f (h : f < lv.length), w1.drew.cell? ⟨gn, on + f, none⟩ = some (.string lv[f]) := fun f h => (HT.out f h).1
        have HTD := hid htd
        clear htd
        go_wp2_with fail
        go_region_held3 (fun w' => w'.cell? ⟨g, 0, none⟩ = some (.pointer (some ⟨c, 0, none⟩)) ∧ w'.cell? ⟨g, 1, none⟩ = some (.slice (some ⟨gn, on, none⟩) lv.length vc) ∧ ∀ f (h : f < lv.length), w'.cell? ⟨gn, on + f, none⟩ = some (.string lv[f]))
          (first | exact ⟨e0d, e1d, HTD.out⟩ | exact ⟨G3.cell e0d n0, G3.cell e1d n0, fun f h => G3.cell (HTD.out f h) (fun e => hgn (by injection e))⟩ | go_keep | (go_split_ands; refine ⟨G3.cell ?_ n0, G3.cell ?_ n0, fun f h => G3.cell (show w1.drew.cell? ⟨gn, on + f, none⟩ = some (.string lv[f]) from (HT.out f h).1) (fun e => hgn (by injection e))⟩ <;> assumption))
          (first | (go_at_call 86; refine D.out.mono ?_; rintro e w3 ⟨y3, y30, y31, rfl, H3, G3⟩; obtain ⟨f3, rfl⟩ := Int.eq_ofNat_of_zero_le y30; have hf3 : f3 < lv.length := (by omega); have d3 := G3.cell (show w1.drew.cell? ⟨gn, on + f3, none⟩ = some (.string lv[f3]) from (HT.out f3 hf3).1) (fun e => hgn (by injection e)); have q30 : (0 : Int) ≤ (f3 : Int) := (by omega); have q31 : (f3 : Int) < (lv.length : Int) := (by omega)))
        all_goals
          have HNM := hid (HT.out f3 hf3).2
          have HS3 := hid (HS1.out.far hcw neL.2.2.1 neL.2.2.2 (GD.out.trans G3) H3)
          obtain ⟨nm, hnm⟩ : ∃ nm, lv[f3] = nm := ⟨_, rfl⟩
          rw [hnm] at d3 HNM ⊢
          clear hnm H3 G3 d3 e0 e1 e0d e1d
          go_wp2_with fail
          refine (g_expr c a len cap z lv ln la _ na aa vc nc ac OK.out g 6 (by omega) _ (by rfl) _ HS3.out.2.2.2.2.1 (HG.out.grown HS3.out.2.2.2.2.2)).mono ?_
          rintro e w5 ⟨v5, l5, rfl, O5, P5, B5, V5, H5, G5⟩
          obtain ⟨g5, c5, rfl, _, _, _⟩ := own_form O5 (part_pos _ P5)
          have HS5 := hid (HS3.out.far hcw neL.2.2.1 neL.2.2.2 G5 H5)
          have HO5 := hid (owns_base O5)
          have HX5 : Hid (exprB l5 = true) := hid (expr_of _ P5 (by unfold bdX at B5; omega))
          clear O5 P5 B5 V5 H5 G5
          have HI6 : Hid (AllIn 9 49 (w5.alloc (.cells #[.int .i64 1, .string nm, .slice none 0 0, .slice (some ⟨g5, 0, none⟩) l5.length c5] 42)) [(⟨1, nm, [], l5, .slice none 0 0, .slice (some ⟨g5, 0, none⟩) l5.length c5⟩ : LnL)]) := hid ((AllIn.one (x := ⟨1, nm, [], l5, .slice none 0 0, .slice (some ⟨g5, 0, none⟩) l5.length c5⟩) ⟨World.ownsRow_nil _ _ _ _, HO5.out⟩).other (grown_alloc' _ _ none) (fun g e => by cases e))
          have HK6 : Hid (LnOk ⟨1, nm, [], l5, .slice none 0 0, .slice (some ⟨g5, 0, none⟩) l5.length c5⟩) := hid (.inr (.inl ⟨rfl, HNM.out, rfl, HX5.out⟩))
          have hown6 := (HS5.out.alloc (.cells #[.int .i64 1, .string nm, .slice none 0 0, .slice (some ⟨g5, 0, none⟩) l5.length c5] 42)).1
          have zz6 : w.heap.size ≤ w5.heap.size := HS5.out.2.2.2.2.2.size
          have h636 : (X).length + 1 ≤ maxLen := by (try simp only [List.length_append, List.length_cons, List.length_nil]); unfold maxLen; omega
          have hby6 : ((X).length + 1) * 72 ≤ 140737488355328 := by (try simp only [List.length_append, List.length_cons, List.length_nil]); omega
          go_wp2_with (at_builtin; refine wpList_append_own _ rfl _ _ 24 rfl w.heap.size 42 i0 _ 4 72 Tryz.underlying24 hi hz0 hz1 hz2 rfl (by decide) _ _ _ rfl hown6 ⟨w5.heap.size, 0, none⟩ 1 1 (lnV ⟨1, nm, [], l5, .slice none 0 0, .slice (some ⟨g5, 0, none⟩) l5.length c5⟩) rfl rfl ?c16 ?c26 h636 hby6 ?c56 ?_)
          case c16 => first | exact ln_new _ _ _ _ _ _ _ _ | exact fun j u h => h
          case c26 => exact lnV_one _ rfl rfl
          case c56 => first | omega | (simp; omega)
          intro v6 w6 hwn6 hg6 hf6
          have HS6 := hid ((HS5.out.alloc (.cells #[.int .i64 1, .string nm, .slice none 0 0, .slice (some ⟨g5, 0, none⟩) l5.length c5] 42)).app hcw neL.1 neL.2.1 HI6.out (fun x hx => by rw [List.mem_singleton] at hx; rw [hx]; exact HK6.out) hg6 (by rw [lnsV_one]; exact hwn6) (by first | exact hf6 | exact fun e => HS5.out.2.1 (hf6.1 e).1))
          have hq6 : (X ++ [(⟨1, nm, [], l5, .slice none 0 0, .slice (some ⟨g5, 0, none⟩) l5.length c5⟩ : LnL)]).length ≤ (X).length + 1 := by rw [List.length_append]; exact Nat.le_refl _
          obtain ⟨Q6, hQ6⟩ : ∃ Q, X ++ [(⟨1, nm, [], l5, .slice none 0 0, .slice (some ⟨g5, 0, none⟩) l5.length c5⟩ : LnL)] = Q := ⟨_, rfl⟩
          rw [hQ6] at HS6 hq6
          clear hwn6 hg6 hf6 hown6 h636 hby6 hQ6
          go_wp2
          go_roundw
          case rel => exact ⟨j', Q6, by go_num, by omega, by have := HXB.out; (try rw [HBS.out]); rw [Nat.succ_mul] at this; (try simp only [List.length_append, List.length_cons, List.length_nil]); omega, HS6.out⟩
          case measure => simp [RowKit.intOf]
      by_cases k6 : k < 6
      · skip
        go_wp2_with fail
        refine (g_expr c a len cap z lv ln la _ na aa vc nc ac OK.out g 5 (by omega) _ (by rfl) _ HS1.out.2.2.2.2.1 (HG.out.grown HS1.out.2.2.2.2.2)).mono ?_
        rintro e w5 ⟨v5, l5, rfl, O5, P5, B5, V5, H5, G5⟩
        obtain ⟨g5, c5, rfl, _, _, _⟩ := own_form O5 (part_pos _ P5)
        have HS5 := hid (HS1.out.far hcw neL.2.2.1 neL.2.2.2 G5 H5)
        have HO5 := hid (owns_base O5)
        have HX5 : Hid (exprB l5 = true) := hid (expr_of _ P5 (by unfold bdX at B5; omega))
        clear O5 P5 B5 V5 H5 G5
        have HI6 : Hid (AllIn 9 49 (w5.alloc (.cells #[.int .i64 2, .string ⟨#[]⟩, .slice none 0 0, .slice (some ⟨g5, 0, none⟩) l5.length c5] 42)) [(⟨2, ⟨#[]⟩, [], l5, .slice none 0 0, .slice (some ⟨g5, 0, none⟩) l5.length c5⟩ : LnL)]) := hid ((AllIn.one (x := ⟨2, ⟨#[]⟩, [], l5, .slice none 0 0, .slice (some ⟨g5, 0, none⟩) l5.length c5⟩) ⟨World.ownsRow_nil _ _ _ _, HO5.out⟩).other (grown_alloc' _ _ none) (fun g e => by cases e))
        have HK6 : Hid (LnOk ⟨2, ⟨#[]⟩, [], l5, .slice none 0 0, .slice (some ⟨g5, 0, none⟩) l5.length c5⟩) := hid (.inr (.inr (.inl ⟨.inl rfl, rfl, rfl, HX5.out⟩)))
        have hown6 := (HS5.out.alloc (.cells #[.int .i64 2, .string ⟨#[]⟩, .slice none 0 0, .slice (some ⟨g5, 0, none⟩) l5.length c5] 42)).1
        have zz6 : w.heap.size ≤ w5.heap.size := HS5.out.2.2.2.2.2.size
        have h636 : (X).length + 1 ≤ maxLen := by (try simp only [List.length_append, List.length_cons, List.length_nil]); unfold maxLen; omega
        have hby6 : ((X).length + 1) * 72 ≤ 140737488355328 := by (try simp only [List.length_append, List.length_cons, List.length_nil]); omega
        go_wp2_with (at_builtin; refine wpList_append_own _ rfl _ _ 24 rfl w.heap.size 42 i0 _ 4 72 Tryz.underlying24 hi hz0 hz1 hz2 rfl (by decide) _ _ _ rfl hown6 ⟨w5.heap.size, 0, none⟩ 1 1 (lnV ⟨2, ⟨#[]⟩, [], l5, .slice none 0 0, .slice (some ⟨g5, 0, none⟩) l5.length c5⟩) rfl rfl ?c16 ?c26 h636 hby6 ?c56 ?_)
        case c16 => first | exact ln_new _ _ _ _ _ _ _ _ | exact fun j u h => h
        case c26 => exact lnV_one _ rfl rfl
        case c56 => first | omega | (simp; omega)
        intro v6 w6 hwn6 hg6 hf6
        have HS6 := hid ((HS5.out.alloc (.cells #[.int .i64 2, .string ⟨#[]⟩, .slice none 0 0, .slice (some ⟨g5, 0, none⟩) l5.length c5] 42)).app hcw neL.1 neL.2.1 HI6.out (fun x hx => by rw [List.mem_singleton] at hx; rw [hx]; exact HK6.out) hg6 (by rw [lnsV_one]; exact hwn6) (by first | exact hf6 | exact fun e => HS5.out.2.1 (hf6.1 e).1))
        have hq6 : (X ++ [(⟨2, ⟨#[]⟩, [], l5, .slice none 0 0, .slice (some ⟨g5, 0, none⟩) l5.length c5⟩ : LnL)]).length ≤ (X).length + 1 := by rw [List.length_append]; exact Nat.le_refl _
        obtain ⟨Q6, hQ6⟩ : ∃ Q, X ++ [(⟨2, ⟨#[]⟩, [], l5, .slice none 0 0, .slice (some ⟨g5, 0, none⟩) l5.length c5⟩ : LnL)] = Q := ⟨_, rfl⟩
        rw [hQ6] at HS6 hq6
        clear hwn6 hg6 hf6 hown6 h636 hby6 hQ6
        go_wp2
        go_roundw
        case rel => exact ⟨j', Q6, by go_num, by omega, by have := HXB.out; (try rw [HBS.out]); rw [Nat.succ_mul] at this; (try simp only [List.length_append, List.length_cons, List.length_nil]); omega, HS6.out⟩
        case measure => simp [RowKit.intOf]
      by_cases hdef : d = 0 ∨ k = 8
      · have hcase : (d = 0 ∧ k = 6) ∨ (d = 0 ∧ k = 7) ∨ k = 8 := by omega
        rcases hcase with ⟨h0, hk⟩ | ⟨h0, hk⟩ | hk
        · obtain rfl : y = 0 := by rw [HY.out, h0]; rfl
          subst hk
          clear h0 hdef
          have e03 := (HG.out.grown HS1.out.2.2.2.2.2).cells.1
          go_wp2_with fail
          refine (d_once c a len cap z 3 _ HS1.out.2.2.2.2.1 (by omega) (by omega)).mono ?_
          rintro e w3 ⟨t3, rfl, H3, G3⟩
          have HS3 := hid (HS1.out.far hcw neL.2.2.1 neL.2.2.2 G3 H3)
          clear H3 G3 e03
          cases t3
          · skip
            go_wp2
            go_roundw
            case rel => exact ⟨j', X, by go_num, by omega, by have := HXB.out; (try rw [HBS.out]); rw [Nat.succ_mul] at this; (try simp only [List.length_append, List.length_cons, List.length_nil]); omega, HS3.out⟩
            case measure => simp [RowKit.intOf]
          · skip
            go_wp2_with fail
            refine (g_expr c a len cap z lv ln la _ na aa vc nc ac OK.out g 4 (by omega) _ (by rfl) _ HS3.out.2.2.2.2.1 (HG.out.grown HS3.out.2.2.2.2.2)).mono ?_
            rintro e w5 ⟨v5, l5, rfl, O5, P5, B5, V5, H5, G5⟩
            obtain ⟨g5, c5, rfl, _, _, _⟩ := own_form O5 (part_pos _ P5)
            have HS5 := hid (HS3.out.far hcw neL.2.2.1 neL.2.2.2 G5 H5)
            have HO5 := hid (owns_base O5)
            have HX5 : Hid (exprB l5 = true) := hid (expr_of _ P5 (by unfold bdX at B5; omega))
            clear O5 P5 B5 V5 H5 G5
            have HI6 : Hid (AllIn 9 49 (w5.alloc (.cells #[.int .i64 6, .string ⟨#[]⟩, .slice none 0 0, .slice (some ⟨g5, 0, none⟩) l5.length c5] 42)) [(⟨6, ⟨#[]⟩, [], l5, .slice none 0 0, .slice (some ⟨g5, 0, none⟩) l5.length c5⟩ : LnL)]) := hid ((AllIn.one (x := ⟨6, ⟨#[]⟩, [], l5, .slice none 0 0, .slice (some ⟨g5, 0, none⟩) l5.length c5⟩) ⟨World.ownsRow_nil _ _ _ _, HO5.out⟩).other (grown_alloc' _ _ none) (fun g e => by cases e))
            have HK6 : Hid (LnOk ⟨6, ⟨#[]⟩, [], l5, .slice none 0 0, .slice (some ⟨g5, 0, none⟩) l5.length c5⟩) := hid (.inr (.inr (.inl ⟨.inr (.inr (.inr rfl)), rfl, rfl, HX5.out⟩)))
            have hown6 := (HS5.out.alloc (.cells #[.int .i64 6, .string ⟨#[]⟩, .slice none 0 0, .slice (some ⟨g5, 0, none⟩) l5.length c5] 42)).1
            have zz6 : w.heap.size ≤ w5.heap.size := HS5.out.2.2.2.2.2.size
            have h636 : (X).length + 1 ≤ maxLen := by (try simp only [List.length_append, List.length_cons, List.length_nil]); unfold maxLen; omega
            have hby6 : ((X).length + 1) * 72 ≤ 140737488355328 := by (try simp only [List.length_append, List.length_cons, List.length_nil]); omega
            go_wp2_with (at_builtin; refine wpList_append_own _ rfl _ _ 24 rfl w.heap.size 42 i0 _ 4 72 Tryz.underlying24 hi hz0 hz1 hz2 rfl (by decide) _ _ _ rfl hown6 ⟨w5.heap.size, 0, none⟩ 1 1 (lnV ⟨6, ⟨#[]⟩, [], l5, .slice none 0 0, .slice (some ⟨g5, 0, none⟩) l5.length c5⟩) rfl rfl ?c16 ?c26 h636 hby6 ?c56 ?_)
            case c16 => first | exact ln_new _ _ _ _ _ _ _ _ | exact fun j u h => h
            case c26 => exact lnV_one _ rfl rfl
            case c56 => first | omega | (simp; omega)
            intro v6 w6 hwn6 hg6 hf6
            have HS6 := hid ((HS5.out.alloc (.cells #[.int .i64 6, .string ⟨#[]⟩, .slice none 0 0, .slice (some ⟨g5, 0, none⟩) l5.length c5] 42)).app hcw neL.1 neL.2.1 HI6.out (fun x hx => by rw [List.mem_singleton] at hx; rw [hx]; exact HK6.out) hg6 (by rw [lnsV_one]; exact hwn6) (by first | exact hf6 | exact fun e => HS5.out.2.1 (hf6.1 e).1))
            have hq6 : (X ++ [(⟨6, ⟨#[]⟩, [], l5, .slice none 0 0, .slice (some ⟨g5, 0, none⟩) l5.length c5⟩ : LnL)]).length ≤ (X).length + 1 := by rw [List.length_append]; exact Nat.le_refl _
            obtain ⟨Q6, hQ6⟩ : ∃ Q, X ++ [(⟨6, ⟨#[]⟩, [], l5, .slice none 0 0, .slice (some ⟨g5, 0, none⟩) l5.length c5⟩ : LnL)] = Q := ⟨_, rfl⟩
            rw [hQ6] at HS6 hq6
            clear hwn6 hg6 hf6 hown6 h636 hby6 hQ6
            go_wp2
            go_roundw
            case rel => exact ⟨j', Q6, by go_num, by omega, by have := HXB.out; (try rw [HBS.out]); rw [Nat.succ_mul] at this; (try simp only [List.length_append, List.length_cons, List.length_nil]); omega, HS6.out⟩
            case measure => simp [RowKit.intOf]
        · obtain rfl : y = 0 := by rw [HY.out, h0]; rfl
          subst hk
          clear h0 hdef
          have e03 := (HG.out.grown HS1.out.2.2.2.2.2).cells.1
          go_wp2_with fail
          refine (d_once c a len cap z 3 _ HS1.out.2.2.2.2.1 (by omega) (by omega)).mono ?_
          rintro e w3 ⟨t3, rfl, H3, G3⟩
          have HS3 := hid (HS1.out.far hcw neL.2.2.1 neL.2.2.2 G3 H3)
          clear H3 G3 e03
          cases t3
          · skip
            go_wp2
            go_roundw
            case rel => exact ⟨j', X, by go_num, by omega, by have := HXB.out; (try rw [HBS.out]); rw [Nat.succ_mul] at this; (try simp only [List.length_append, List.length_cons, List.length_nil]); omega, HS3.out⟩
            case measure => simp [RowKit.intOf]
          · skip
            go_wp2_with fail
            refine (g_expr c a len cap z lv ln la _ na aa vc nc ac OK.out g 4 (by omega) _ (by rfl) _ HS3.out.2.2.2.2.1 (HG.out.grown HS3.out.2.2.2.2.2)).mono ?_
            rintro e w5 ⟨v5, l5, rfl, O5, P5, B5, V5, H5, G5⟩
            obtain ⟨g5, c5, rfl, _, _, _⟩ := own_form O5 (part_pos _ P5)
            have HS5 := hid (HS3.out.far hcw neL.2.2.1 neL.2.2.2 G5 H5)
            have HO5 := hid (owns_base O5)
            have HX5 : Hid (exprB l5 = true) := hid (expr_of _ P5 (by unfold bdX at B5; omega))
            clear O5 P5 B5 V5 H5 G5
            have HI6 : Hid (AllIn 9 49 (w5.alloc (.cells #[.int .i64 6, .string ⟨#[]⟩, .slice none 0 0, .slice (some ⟨g5, 0, none⟩) l5.length c5] 42)) [(⟨6, ⟨#[]⟩, [], l5, .slice none 0 0, .slice (some ⟨g5, 0, none⟩) l5.length c5⟩ : LnL)]) := hid ((AllIn.one (x := ⟨6, ⟨#[]⟩, [], l5, .slice none 0 0, .slice (some ⟨g5, 0, none⟩) l5.length c5⟩) ⟨World.ownsRow_nil _ _ _ _, HO5.out⟩).other (grown_alloc' _ _ none) (fun g e => by cases e))
            have HK6 : Hid (LnOk ⟨6, ⟨#[]⟩, [], l5, .slice none 0 0, .slice (some ⟨g5, 0, none⟩) l5.length c5⟩) := hid (.inr (.inr (.inl ⟨.inr (.inr (.inr rfl)), rfl, rfl, HX5.out⟩)))
            have hown6 := (HS5.out.alloc (.cells #[.int .i64 6, .string ⟨#[]⟩, .slice none 0 0, .slice (some ⟨g5, 0, none⟩) l5.length c5] 42)).1
            have zz6 : w.heap.size ≤ w5.heap.size := HS5.out.2.2.2.2.2.size
            have h636 : (X).length + 1 ≤ maxLen := by (try simp only [List.length_append, List.length_cons, List.length_nil]); unfold maxLen; omega
            have hby6 : ((X).length + 1) * 72 ≤ 140737488355328 := by (try simp only [List.length_append, List.length_cons, List.length_nil]); omega
            go_wp2_with (at_builtin; refine wpList_append_own _ rfl _ _ 24 rfl w.heap.size 42 i0 _ 4 72 Tryz.underlying24 hi hz0 hz1 hz2 rfl (by decide) _ _ _ rfl hown6 ⟨w5.heap.size, 0, none⟩ 1 1 (lnV ⟨6, ⟨#[]⟩, [], l5, .slice none 0 0, .slice (some ⟨g5, 0, none⟩) l5.length c5⟩) rfl rfl ?c16 ?c26 h636 hby6 ?c56 ?_)
            case c16 => first | exact ln_new _ _ _ _ _ _ _ _ | exact fun j u h => h
            case c26 => exact lnV_one _ rfl rfl
            case c56 => first | omega | (simp; omega)
            intro v6 w6 hwn6 hg6 hf6
            have HS6 := hid ((HS5.out.alloc (.cells #[.int .i64 6, .string ⟨#[]⟩, .slice none 0 0, .slice (some ⟨g5, 0, none⟩) l5.length c5] 42)).app hcw neL.1 neL.2.1 HI6.out (fun x hx => by rw [List.mem_singleton] at hx; rw [hx]; exact HK6.out) hg6 (by rw [lnsV_one]; exact hwn6) (by first | exact hf6 | exact fun e => HS5.out.2.1 (hf6.1 e).1))
            have hq6 : (X ++ [(⟨6, ⟨#[]⟩, [], l5, .slice none 0 0, .slice (some ⟨g5, 0, none⟩) l5.length c5⟩ : LnL)]).length ≤ (X).length + 1 := by rw [List.length_append]; exact Nat.le_refl _
            obtain ⟨Q6, hQ6⟩ : ∃ Q, X ++ [(⟨6, ⟨#[]⟩, [], l5, .slice none 0 0, .slice (some ⟨g5, 0, none⟩) l5.length c5⟩ : LnL)] = Q := ⟨_, rfl⟩
            rw [hQ6] at HS6 hq6
            clear hwn6 hg6 hf6 hown6 h636 hby6 hQ6
            go_wp2
            go_roundw
            case rel => exact ⟨j', Q6, by go_num, by omega, by have := HXB.out; (try rw [HBS.out]); rw [Nat.succ_mul] at this; (try simp only [List.length_append, List.length_cons, List.length_nil]); omega, HS6.out⟩
            case measure => simp [RowKit.intOf]
        · subst hk
          clear hdef
          have e03 := (HG.out.grown HS1.out.2.2.2.2.2).cells.1
          go_wp2_with fail
          refine (d_once c a len cap z 3 _ HS1.out.2.2.2.2.1 (by omega) (by omega)).mono ?_
          rintro e w3 ⟨t3, rfl, H3, G3⟩
          have HS3 := hid (HS1.out.far hcw neL.2.2.1 neL.2.2.2 G3 H3)
          clear H3 G3 e03
          cases t3
          · skip
            go_wp2
            go_roundw
            case rel => exact ⟨j', X, by go_num, by omega, by have := HXB.out; (try rw [HBS.out]); rw [Nat.succ_mul] at this; (try simp only [List.length_append, List.length_cons, List.length_nil]); omega, HS3.out⟩
            case measure => simp [RowKit.intOf]
          · skip
            go_wp2_with fail
            refine (g_expr c a len cap z lv ln la _ na aa vc nc ac OK.out g 4 (by omega) _ (by rfl) _ HS3.out.2.2.2.2.1 (HG.out.grown HS3.out.2.2.2.2.2)).mono ?_
            rintro e w5 ⟨v5, l5, rfl, O5, P5, B5, V5, H5, G5⟩
            obtain ⟨g5, c5, rfl, _, _, _⟩ := own_form O5 (part_pos _ P5)
            have HS5 := hid (HS3.out.far hcw neL.2.2.1 neL.2.2.2 G5 H5)
            have HO5 := hid (owns_base O5)
            have HX5 : Hid (exprB l5 = true) := hid (expr_of _ P5 (by unfold bdX at B5; omega))
            clear O5 P5 B5 V5 H5 G5
            have HI6 : Hid (AllIn 9 49 (w5.alloc (.cells #[.int .i64 6, .string ⟨#[]⟩, .slice none 0 0, .slice (some ⟨g5, 0, none⟩) l5.length c5] 42)) [(⟨6, ⟨#[]⟩, [], l5, .slice none 0 0, .slice (some ⟨g5, 0, none⟩) l5.length c5⟩ : LnL)]) := hid ((AllIn.one (x := ⟨6, ⟨#[]⟩, [], l5, .slice none 0 0, .slice (some ⟨g5, 0, none⟩) l5.length c5⟩) ⟨World.ownsRow_nil _ _ _ _, HO5.out⟩).other (grown_alloc' _ _ none) (fun g e => by cases e))
            have HK6 : Hid (LnOk ⟨6, ⟨#[]⟩, [], l5, .slice none 0 0, .slice (some ⟨g5, 0, none⟩) l5.length c5⟩) := hid (.inr (.inr (.inl ⟨.inr (.inr (.inr rfl)), rfl, rfl, HX5.out⟩)))
            have hown6 := (HS5.out.alloc (.cells #[.int .i64 6, .string ⟨#[]⟩, .slice none 0 0, .slice (some ⟨g5, 0, none⟩) l5.length c5] 42)).1
            have zz6 : w.heap.size ≤ w5.heap.size := HS5.out.2.2.2.2.2.size
            have h636 : (X).length + 1 ≤ maxLen := by (try simp only [List.length_append, List.length_cons, List.length_nil]); unfold maxLen; omega
            have hby6 : ((X).length + 1) * 72 ≤ 140737488355328 := by (try simp only [List.length_append, List.length_cons, List.length_nil]); omega
            go_wp2_with (at_builtin; refine wpList_append_own _ rfl _ _ 24 rfl w.heap.size 42 i0 _ 4 72 Tryz.underlying24 hi hz0 hz1 hz2 rfl (by decide) _ _ _ rfl hown6 ⟨w5.heap.size, 0, none⟩ 1 1 (lnV ⟨6, ⟨#[]⟩, [], l5, .slice none 0 0, .slice (some ⟨g5, 0, none⟩) l5.length c5⟩) rfl rfl ?c16 ?c26 h636 hby6 ?c56 ?_)
            case c16 => first | exact ln_new _ _ _ _ _ _ _ _ | exact fun j u h => h
            case c26 => exact lnV_one _ rfl rfl
            case c56 => first | omega | (simp; omega)
            intro v6 w6 hwn6 hg6 hf6
            have HS6 := hid ((HS5.out.alloc (.cells #[.int .i64 6, .string ⟨#[]⟩, .slice none 0 0, .slice (some ⟨g5, 0, none⟩) l5.length c5] 42)).app hcw neL.1 neL.2.1 HI6.out (fun x hx => by rw [List.mem_singleton] at hx; rw [hx]; exact HK6.out) hg6 (by rw [lnsV_one]; exact hwn6) (by first | exact hf6 | exact fun e => HS5.out.2.1 (hf6.1 e).1))
            have hq6 : (X ++ [(⟨6, ⟨#[]⟩, [], l5, .slice none 0 0, .slice (some ⟨g5, 0, none⟩) l5.length c5⟩ : LnL)]).length ≤ (X).length + 1 := by rw [List.length_append]; exact Nat.le_refl _
            obtain ⟨Q6, hQ6⟩ : ∃ Q, X ++ [(⟨6, ⟨#[]⟩, [], l5, .slice none 0 0, .slice (some ⟨g5, 0, none⟩) l5.length c5⟩ : LnL)] = Q := ⟨_, rfl⟩
            rw [hQ6] at HS6 hq6
            clear hwn6 hg6 hf6 hown6 h636 hby6 hQ6
            go_wp2
            go_roundw
            case rel => exact ⟨j', Q6, by go_num, by omega, by have := HXB.out; (try rw [HBS.out]); rw [Nat.succ_mul] at this; (try simp only [List.length_append, List.length_cons, List.length_nil]); omega, HS6.out⟩
            case measure => simp [RowKit.intOf]
      obtain ⟨d', rfl⟩ : ∃ d', d = d' + 1 := ⟨d - 1, by omega⟩
      have yp : 0 < y := by have := HY.out; omega
      have HYD : Hid (y - 1 = (d' : Int)) := hid (by have := HY.out; omega)
      have hbs : bdL (d' + 1) = 3 + 3 * bdL d' := rfl
      have hb21 : bdL d' ≤ 6 := by have : d' = 0 ∨ d' = 1 := by omega
                                   rcases this with rfl | rfl <;> decide
      have HBS := hid hbs
      rw [hbs] at HXB hbd
      have k8 : k ≠ 8 := fun h => hdef (.inr h)
      clear hbs hdef
      by_cases k66 : k = 6
      · subst k66
        go_wp2_with fail
        refine (g_expr c a len cap z lv ln la _ na aa vc nc ac OK.out g 4 (by omega) _ (by rfl) _ HS1.out.2.2.2.2.1 (HG.out.grown HS1.out.2.2.2.2.2)).mono ?_
        rintro e w5 ⟨v5, l5, rfl, O5, P5, B5, V5, H5, G5⟩
        obtain ⟨g5, c5, rfl, _, _, _⟩ := own_form O5 (part_pos _ P5)
        have HS5 := hid (HS1.out.far hcw neL.2.2.1 neL.2.2.2 G5 H5)
        have HO5 := hid (owns_base O5)
        have HX5 : Hid (exprB l5 = true) := hid (expr_of _ P5 (by unfold bdX at B5; omega))
        clear O5 P5 B5 V5 H5 G5
        have HI6 : Hid (AllIn 9 49 (w5.alloc (.cells #[.int .i64 3, .string ⟨#[]⟩, .slice none 0 0, .slice (some ⟨g5, 0, none⟩) l5.length c5] 42)) [(⟨3, ⟨#[]⟩, [], l5, .slice none 0 0, .slice (some ⟨g5, 0, none⟩) l5.length c5⟩ : LnL)]) := hid ((AllIn.one (x := ⟨3, ⟨#[]⟩, [], l5, .slice none 0 0, .slice (some ⟨g5, 0, none⟩) l5.length c5⟩) ⟨World.ownsRow_nil _ _ _ _, HO5.out⟩).other (grown_alloc' _ _ none) (fun g e => by cases e))
        have HK6 : Hid (LnOk ⟨3, ⟨#[]⟩, [], l5, .slice none 0 0, .slice (some ⟨g5, 0, none⟩) l5.length c5⟩) := hid (.inr (.inr (.inl ⟨.inr (.inl rfl), rfl, rfl, HX5.out⟩)))
        have hown6 := (HS5.out.alloc (.cells #[.int .i64 3, .string ⟨#[]⟩, .slice none 0 0, .slice (some ⟨g5, 0, none⟩) l5.length c5] 42)).1
        have zz6 : w.heap.size ≤ w5.heap.size := HS5.out.2.2.2.2.2.size
        have h636 : (X).length + 1 ≤ maxLen := by (try simp only [List.length_append, List.length_cons, List.length_nil]); unfold maxLen; omega
        have hby6 : ((X).length + 1) * 72 ≤ 140737488355328 := by (try simp only [List.length_append, List.length_cons, List.length_nil]); omega
        go_wp2_with (at_builtin; refine wpList_append_own _ rfl _ _ 24 rfl w.heap.size 42 i0 _ 4 72 Tryz.underlying24 hi hz0 hz1 hz2 rfl (by decide) _ _ _ rfl hown6 ⟨w5.heap.size, 0, none⟩ 1 1 (lnV ⟨3, ⟨#[]⟩, [], l5, .slice none 0 0, .slice (some ⟨g5, 0, none⟩) l5.length c5⟩) rfl rfl ?c16 ?c26 h636 hby6 ?c56 ?_)
        case c16 => first | exact ln_new _ _ _ _ _ _ _ _ | exact fun j u h => h
        case c26 => exact lnV_one _ rfl rfl
        case c56 => first | omega | (simp; omega)
        intro v6 w6 hwn6 hg6 hf6
        have HS6 := hid ((HS5.out.alloc (.cells #[.int .i64 3, .string ⟨#[]⟩, .slice none 0 0, .slice (some ⟨g5, 0, none⟩) l5.length c5] 42)).app hcw neL.1 neL.2.1 HI6.out (fun x hx => by rw [List.mem_singleton] at hx; rw [hx]; exact HK6.out) hg6 (by rw [lnsV_one]; exact hwn6) (by first | exact hf6 | exact fun e => HS5.out.2.1 (hf6.1 e).1))
        have hq6 : (X ++ [(⟨3, ⟨#[]⟩, [], l5, .slice none 0 0, .slice (some ⟨g5, 0, none⟩) l5.length c5⟩ : LnL)]).length ≤ (X).length + 1 := by rw [List.length_append]; exact Nat.le_refl _
        obtain ⟨Q6, hQ6⟩ : ∃ Q, X ++ [(⟨3, ⟨#[]⟩, [], l5, .slice none 0 0, .slice (some ⟨g5, 0, none⟩) l5.length c5⟩ : LnL)] = Q := ⟨_, rfl⟩
        rw [hQ6] at HS6 hq6
        clear hwn6 hg6 hf6 hown6 h636 hby6 hQ6
        have e07 := (HG.out.grown HS6.out.2.2.2.2.2).cells.1
        go_wp2_with fail
        refine (d_below c a len cap z 2 _ HS6.out.2.2.2.2.1 (by omega) (by omega)).mono ?_
        rintro e w7 ⟨y7, y7l, y7h, rfl, H7, G7⟩
        have HS7 := hid (HS6.out.far hcw neL.2.2.1 neL.2.2.2 G7 H7)
        clear H7 G7 e07
        obtain ⟨u7, rfl⟩ := Int.eq_ofNat_of_zero_le y7l
        have hu7 : u7 ≤ 1 := by omega
        go_wp2_with fail
        refine (IH.out d' (by omega) (by omega) (1 + u7) _ _ _ (by omega) (by omega) HYD.out HS7.out.2.2.2.2.1 (HG.out.grown HS7.out.2.2.2.2.2)).mono ?_
        rintro e w8 ⟨v8, X8, rfl, st8, len8⟩
        obtain ⟨g8, c8, rfl, _, gc8⟩ := st8.form
        have HS8 := hid (HS7.out.far hcw neL.2.2.1 neL.2.2.2 st8.2.2.2.2.2 st8.2.2.2.2.1)
        have HI8 := hid st8.2.2.1
        have HK8 := hid st8.2.2.2.1
        have GC8 := hid gc8
        have hl8 : X8.length ≤ 2 * bdL d' := (Nat.le_trans len8 (Nat.mul_le_mul_right _ (by omega)))
        clear st8 gc8 len8
        have hown9 := HS8.out.1
        have zz9 : w.heap.size ≤ w8.heap.size := HS8.out.2.2.2.2.2.size
        have h639 : (Q6).length + X8.length ≤ maxLen := by (try simp only [List.length_append, List.length_cons, List.length_nil]); unfold maxLen; omega
        have hby9 : ((Q6).length + X8.length) * 72 ≤ 140737488355328 := by (try simp only [List.length_append, List.length_cons, List.length_nil]); omega
        go_wp2_with (at_builtin; refine wpList_append_own _ rfl _ _ 24 rfl w.heap.size 42 i0 _ 4 72 Tryz.underlying24 hi hz0 hz1 hz2 rfl (by decide) _ _ _ rfl hown9 ⟨g8, 0, none⟩ X8.length c8 (lnsV X8) rfl (lnsV_length X8) GC8.out (lnsV_all HI8.out) h639 hby9 zz9 ?_)
        intro v9 w9 hwn9 hg9 hf9
        have HS9 := hid (HS8.out.app hcw neL.1 neL.2.1 HI8.out HK8.out hg9 hwn9 (by first | exact hf9 | exact fun e => HS8.out.2.1 (hf9.1 e).1 | exact fun e => HS8.out.2.1 (hf9 e).1))
        have hq9 : (Q6 ++ X8).length ≤ (Q6).length + X8.length := by rw [List.length_append]; exact Nat.le_refl _
        obtain ⟨Q9, hQ9⟩ : ∃ Q, Q6 ++ X8 = Q := ⟨_, rfl⟩
        rw [hQ9] at HS9 hq9
        clear hwn9 hg9 hf9 hown9 h639 hby9 hQ9
        have e0a := (HG.out.grown HS9.out.2.2.2.2.2).cells.1
        go_wp2_with fail
        refine (d_once c a len cap z 2 _ HS9.out.2.2.2.2.1 (by omega) (by omega)).mono ?_
        rintro e wa ⟨ta, rfl, Ha, Ga⟩
        have HSa := hid (HS9.out.far hcw neL.2.2.1 neL.2.2.2 Ga Ha)
        clear Ha Ga e0a
        cases ta
        · skip
          have HIb : Hid (AllIn 9 49 (wa.alloc (.cells #[.int .i64 7, .string ⟨#[]⟩, .slice none 0 0, .slice none 0 0] 42)) [(⟨7, ⟨#[]⟩, [], [], .slice none 0 0, .slice none 0 0⟩ : LnL)]) := hid ((AllIn.one (x := ⟨7, ⟨#[]⟩, [], [], .slice none 0 0, .slice none 0 0⟩) ⟨World.ownsRow_nil _ _ _ _, World.ownsRow_nil _ _ _ _⟩).other (grown_alloc' _ _ none) (fun g e => by cases e))
          have HKb : Hid (LnOk ⟨7, ⟨#[]⟩, [], [], .slice none 0 0, .slice none 0 0⟩) := hid (.inr (.inr (.inr ⟨.inr rfl, rfl, rfl, rfl⟩)))
          have hownb := (HSa.out.alloc (.cells #[.int .i64 7, .string ⟨#[]⟩, .slice none 0 0, .slice none 0 0] 42)).1
          have zzb : w.heap.size ≤ wa.heap.size := HSa.out.2.2.2.2.2.size
          have h63b : (Q9).length + 1 ≤ maxLen := by (try simp only [List.length_append, List.length_cons, List.length_nil]); unfold maxLen; omega
          have hbyb : ((Q9).length + 1) * 72 ≤ 140737488355328 := by (try simp only [List.length_append, List.length_cons, List.length_nil]); omega
          go_wp2_with (at_builtin; refine wpList_append_own _ rfl _ _ 24 rfl w.heap.size 42 i0 _ 4 72 Tryz.underlying24 hi hz0 hz1 hz2 rfl (by decide) _ _ _ rfl hownb ⟨wa.heap.size, 0, none⟩ 1 1 (lnV ⟨7, ⟨#[]⟩, [], [], .slice none 0 0, .slice none 0 0⟩) rfl rfl ?c1b ?c2b h63b hbyb ?c5b ?_)
          case c1b => first | exact ln_new _ _ _ _ _ _ _ _ | exact fun j u h => h
          case c2b => exact lnV_one _ rfl rfl
          case c5b => first | omega | (simp; omega)
          intro vb wb hwnb hgb hfb
          have HSb := hid ((HSa.out.alloc (.cells #[.int .i64 7, .string ⟨#[]⟩, .slice none 0 0, .slice none 0 0] 42)).app hcw neL.1 neL.2.1 HIb.out (fun x hx => by rw [List.mem_singleton] at hx; rw [hx]; exact HKb.out) hgb (by rw [lnsV_one]; exact hwnb) (by first | exact hfb | exact fun e => HSa.out.2.1 (hfb.1 e).1))
          have hqb : (Q9 ++ [(⟨7, ⟨#[]⟩, [], [], .slice none 0 0, .slice none 0 0⟩ : LnL)]).length ≤ (Q9).length + 1 := by rw [List.length_append]; exact Nat.le_refl _
          obtain ⟨Qb, hQb⟩ : ∃ Q, Q9 ++ [(⟨7, ⟨#[]⟩, [], [], .slice none 0 0, .slice none 0 0⟩ : LnL)] = Q := ⟨_, rfl⟩
          rw [hQb] at HSb hqb
          clear hwnb hgb hfb hownb h63b hbyb hQb
          go_wp2
          go_roundw
          case rel => exact ⟨j', Qb, by go_num, by omega, by have := HXB.out; (try rw [HBS.out]); rw [Nat.succ_mul] at this; (try simp only [List.length_append, List.length_cons, List.length_nil]); omega, HSb.out⟩
          case measure => simp [RowKit.intOf]
        · skip
          have HIb : Hid (AllIn 9 49 (wa.alloc (.cells #[.int .i64 4, .string ⟨#[]⟩, .slice none 0 0, .slice none 0 0] 42)) [(⟨4, ⟨#[]⟩, [], [], .slice none 0 0, .slice none 0 0⟩ : LnL)]) := hid ((AllIn.one (x := ⟨4, ⟨#[]⟩, [], [], .slice none 0 0, .slice none 0 0⟩) ⟨World.ownsRow_nil _ _ _ _, World.ownsRow_nil _ _ _ _⟩).other (grown_alloc' _ _ none) (fun g e => by cases e))
          have HKb : Hid (LnOk ⟨4, ⟨#[]⟩, [], [], .slice none 0 0, .slice none 0 0⟩) := hid (.inr (.inr (.inr ⟨.inl rfl, rfl, rfl, rfl⟩)))
          have hownb := (HSa.out.alloc (.cells #[.int .i64 4, .string ⟨#[]⟩, .slice none 0 0, .slice none 0 0] 42)).1
          have zzb : w.heap.size ≤ wa.heap.size := HSa.out.2.2.2.2.2.size
          have h63b : (Q9).length + 1 ≤ maxLen := by (try simp only [List.length_append, List.length_cons, List.length_nil]); unfold maxLen; omega
          have hbyb : ((Q9).length + 1) * 72 ≤ 140737488355328 := by (try simp only [List.length_append, List.length_cons, List.length_nil]); omega
          go_wp2_with (at_builtin; refine wpList_append_own _ rfl _ _ 24 rfl w.heap.size 42 i0 _ 4 72 Tryz.underlying24 hi hz0 hz1 hz2 rfl (by decide) _ _ _ rfl hownb ⟨wa.heap.size, 0, none⟩ 1 1 (lnV ⟨4, ⟨#[]⟩, [], [], .slice none 0 0, .slice none 0 0⟩) rfl rfl ?c1b ?c2b h63b hbyb ?c5b ?_)
          case c1b => first | exact ln_new _ _ _ _ _ _ _ _ | exact fun j u h => h
          case c2b => exact lnV_one _ rfl rfl
          case c5b => first | omega | (simp; omega)
          intro vb wb hwnb hgb hfb
          have HSb := hid ((HSa.out.alloc (.cells #[.int .i64 4, .string ⟨#[]⟩, .slice none 0 0, .slice none 0 0] 42)).app hcw neL.1 neL.2.1 HIb.out (fun x hx => by rw [List.mem_singleton] at hx; rw [hx]; exact HKb.out) hgb (by rw [lnsV_one]; exact hwnb) (by first | exact hfb | exact fun e => HSa.out.2.1 (hfb.1 e).1))
          have hqb : (Q9 ++ [(⟨4, ⟨#[]⟩, [], [], .slice none 0 0, .slice none 0 0⟩ : LnL)]).length ≤ (Q9).length + 1 := by rw [List.length_append]; exact Nat.le_refl _
          obtain ⟨Qb, hQb⟩ : ∃ Q, Q9 ++ [(⟨4, ⟨#[]⟩, [], [], .slice none 0 0, .slice none 0 0⟩ : LnL)] = Q := ⟨_, rfl⟩
          rw [hQb] at HSb hqb
          clear hwnb hgb hfb hownb h63b hbyb hQb
          go_wp2_with fail
          refine (IH.out d' (by omega) (by omega) 1 _ _ _ (by omega) (by rfl) HYD.out HSb.out.2.2.2.2.1 (HG.out.grown HSb.out.2.2.2.2.2)).mono ?_
          rintro e wd ⟨vd, Xd, rfl, std, lend⟩
          obtain ⟨gd, cd, rfl, _, gcd⟩ := std.form
          have HSd := hid (HSb.out.far hcw neL.2.2.1 neL.2.2.2 std.2.2.2.2.2 std.2.2.2.2.1)
          have HId := hid std.2.2.1
          have HKd := hid std.2.2.2.1
          have GCd := hid gcd
          have hld : Xd.length ≤ 1 * bdL d' := lend
          clear std gcd lend
          have howne := HSd.out.1
          have zze : w.heap.size ≤ wd.heap.size := HSd.out.2.2.2.2.2.size
          have h63e : (Qb).length + Xd.length ≤ maxLen := by (try simp only [List.length_append, List.length_cons, List.length_nil]); unfold maxLen; omega
          have hbye : ((Qb).length + Xd.length) * 72 ≤ 140737488355328 := by (try simp only [List.length_append, List.length_cons, List.length_nil]); omega
          go_wp2_with (at_builtin; refine wpList_append_own _ rfl _ _ 24 rfl w.heap.size 42 i0 _ 4 72 Tryz.underlying24 hi hz0 hz1 hz2 rfl (by decide) _ _ _ rfl howne ⟨gd, 0, none⟩ Xd.length cd (lnsV Xd) rfl (lnsV_length Xd) GCd.out (lnsV_all HId.out) h63e hbye zze ?_)
          intro ve we hwne hge hfe
          have HSe := hid (HSd.out.app hcw neL.1 neL.2.1 HId.out HKd.out hge hwne (by first | exact hfe | exact fun e => HSd.out.2.1 (hfe.1 e).1 | exact fun e => HSd.out.2.1 (hfe e).1))
          have hqe : (Qb ++ Xd).length ≤ (Qb).length + Xd.length := by rw [List.length_append]; exact Nat.le_refl _
          obtain ⟨Qe, hQe⟩ : ∃ Q, Qb ++ Xd = Q := ⟨_, rfl⟩
          rw [hQe] at HSe hqe
          clear hwne hge hfe howne h63e hbye hQe
          have HIf : Hid (AllIn 9 49 (we.alloc (.cells #[.int .i64 7, .string ⟨#[]⟩, .slice none 0 0, .slice none 0 0] 42)) [(⟨7, ⟨#[]⟩, [], [], .slice none 0 0, .slice none 0 0⟩ : LnL)]) := hid ((AllIn.one (x := ⟨7, ⟨#[]⟩, [], [], .slice none 0 0, .slice none 0 0⟩) ⟨World.ownsRow_nil _ _ _ _, World.ownsRow_nil _ _ _ _⟩).other (grown_alloc' _ _ none) (fun g e => by cases e))
          have HKf : Hid (LnOk ⟨7, ⟨#[]⟩, [], [], .slice none 0 0, .slice none 0 0⟩) := hid (.inr (.inr (.inr ⟨.inr rfl, rfl, rfl, rfl⟩)))
          have hownf := (HSe.out.alloc (.cells #[.int .i64 7, .string ⟨#[]⟩, .slice none 0 0, .slice none 0 0] 42)).1
          have zzf : w.heap.size ≤ we.heap.size := HSe.out.2.2.2.2.2.size
          have h63f : (Qe).length + 1 ≤ maxLen := by (try simp only [List.length_append, List.length_cons, List.length_nil]); unfold maxLen; omega
          have hbyf : ((Qe).length + 1) * 72 ≤ 140737488355328 := by (try simp only [List.length_append, List.length_cons, List.length_nil]); omega
          go_wp2_with (at_builtin; refine wpList_append_own _ rfl _ _ 24 rfl w.heap.size 42 i0 _ 4 72 Tryz.underlying24 hi hz0 hz1 hz2 rfl (by decide) _ _ _ rfl hownf ⟨we.heap.size, 0, none⟩ 1 1 (lnV ⟨7, ⟨#[]⟩, [], [], .slice none 0 0, .slice none 0 0⟩) rfl rfl ?c1f ?c2f h63f hbyf ?c5f ?_)
          case c1f => first | exact ln_new _ _ _ _ _ _ _ _ | exact fun j u h => h
          case c2f => exact lnV_one _ rfl rfl
          case c5f => first | omega | (simp; omega)
          intro vf wf hwnf hgf hff
          have HSf := hid ((HSe.out.alloc (.cells #[.int .i64 7, .string ⟨#[]⟩, .slice none 0 0, .slice none 0 0] 42)).app hcw neL.1 neL.2.1 HIf.out (fun x hx => by rw [List.mem_singleton] at hx; rw [hx]; exact HKf.out) hgf (by rw [lnsV_one]; exact hwnf) (by first | exact hff | exact fun e => HSe.out.2.1 (hff.1 e).1))
          have hqf : (Qe ++ [(⟨7, ⟨#[]⟩, [], [], .slice none 0 0, .slice none 0 0⟩ : LnL)]).length ≤ (Qe).length + 1 := by rw [List.length_append]; exact Nat.le_refl _
          obtain ⟨Qf, hQf⟩ : ∃ Q, Qe ++ [(⟨7, ⟨#[]⟩, [], [], .slice none 0 0, .slice none 0 0⟩ : LnL)] = Q := ⟨_, rfl⟩
          rw [hQf] at HSf hqf
          clear hwnf hgf hff hownf h63f hbyf hQf
          go_wp2
          go_roundw
          case rel => exact ⟨j', Qf, by go_num, by omega, by have := HXB.out; (try rw [HBS.out]); rw [Nat.succ_mul] at this; (try simp only [List.length_append, List.length_cons, List.length_nil]); omega, HSf.out⟩
          case measure => simp [RowKit.intOf]
      · obtain rfl : k = 7 := by omega
        have e03 := (HG.out.grown HS1.out.2.2.2.2.2).cells.1
        go_wp2_with fail
        refine (d_below c a len cap z 3 _ HS1.out.2.2.2.2.1 (by omega) (by omega)).mono ?_
        rintro e w3 ⟨y3, y3l, y3h, rfl, H3, G3⟩
        have HS3 := hid (HS1.out.far hcw neL.2.2.1 neL.2.2.2 G3 H3)
        clear H3 G3 e03
        have HI6 : Hid (AllIn 9 49 ((w3.alloc (.cells #[.int .i64 5, .int .i64 0, .string ⟨#[]⟩, .int .i64 1, .int .i64 0, .string ⟨#[105]⟩, .int .i64 0, .int .i64 (1 + y3), .string ⟨#[]⟩] 49)).alloc (.cells #[.int .i64 5, .string ⟨#[]⟩, .slice none 0 0, .slice (some ⟨w3.heap.size, 0, none⟩) 3 3] 42)) [(⟨5, ⟨#[]⟩, [], threeL 5 (1 + y3), .slice none 0 0, .slice (some ⟨w3.heap.size, 0, none⟩) 3 3⟩ : LnL)]) := hid ((AllIn.one (x := ⟨5, ⟨#[]⟩, [], threeL 5 (1 + y3), .slice none 0 0, .slice (some ⟨w3.heap.size, 0, none⟩) 3 3⟩) ⟨World.ownsRow_nil _ _ _ _, three_own w3 5 (1 + y3) _⟩).other (grown_alloc' _ _ none) (fun g e => by cases e))
        have HK6 : Hid (LnOk ⟨5, ⟨#[]⟩, [], threeL 5 (1 + y3), .slice none 0 0, .slice (some ⟨w3.heap.size, 0, none⟩) 3 3⟩) := hid (.inr (.inr (.inl ⟨.inr (.inr (.inl rfl)), rfl, rfl, three_ok 5 (1 + y3) (by omega) (by omega) (by omega) (by omega)⟩)))
        have HS61 := hid (HS3.out.alloc (.cells #[.int .i64 5, .int .i64 0, .string ⟨#[]⟩, .int .i64 1, .int .i64 0, .string ⟨#[105]⟩, .int .i64 0, .int .i64 (1 + y3), .string ⟨#[]⟩] 49))
        have hown6 := (HS61.out.alloc (.cells #[.int .i64 5, .string ⟨#[]⟩, .slice none 0 0, .slice (some ⟨w3.heap.size, 0, none⟩) 3 3] 42)).1
        have zz6 : w.heap.size ≤ w3.heap.size := HS3.out.2.2.2.2.2.size
        have h636 : (X).length + 1 ≤ maxLen := by unfold maxLen; omega
        have hby6 : ((X).length + 1) * 72 ≤ 140737488355328 := by omega
        go_wp2_with (at_builtin; refine wpList_append_own _ rfl _ _ 24 rfl w.heap.size 42 i0 _ 4 72 Tryz.underlying24 hi hz0 hz1 hz2 rfl (by decide) _ _ _ rfl hown6 ⟨w3.heap.size + 1, 0, none⟩ 1 1 (lnV ⟨5, ⟨#[]⟩, [], threeL 5 (1 + y3), .slice none 0 0, .slice (some ⟨w3.heap.size, 0, none⟩) 3 3⟩) rfl rfl ?c16 ?c26 h636 hby6 ?c56 ?_)
        case c16 => first | exact ln_new' _ _ _ _ _ _ _ _ _ | exact fun j u h => h
        case c26 => exact lnV_one _ rfl rfl
        case c56 => first | omega | (simp; omega)
        intro v6 w6 hwn6 hg6 hf6
        have HS6 := hid ((HS61.out.alloc (.cells #[.int .i64 5, .string ⟨#[]⟩, .slice none 0 0, .slice (some ⟨w3.heap.size, 0, none⟩) 3 3] 42)).app hcw neL.1 neL.2.1 HI6.out (fun x hx => by rw [List.mem_singleton] at hx; rw [hx]; exact HK6.out) hg6 (by rw [lnsV_one]; exact hwn6) (by first | exact hf6 | exact fun e => HS3.out.2.1 (hf6.1 e).1))
        have hq6 : (X ++ [(⟨5, ⟨#[]⟩, [], threeL 5 (1 + y3), .slice none 0 0, .slice (some ⟨w3.heap.size, 0, none⟩) 3 3⟩ : LnL)]).length ≤ (X).length + 1 := by rw [List.length_append]; exact Nat.le_refl _
        obtain ⟨Q6, hQ6⟩ : ∃ Q, X ++ [(⟨5, ⟨#[]⟩, [], threeL 5 (1 + y3), .slice none 0 0, .slice (some ⟨w3.heap.size, 0, none⟩) 3 3⟩ : LnL)] = Q := ⟨_, rfl⟩
        rw [hQ6] at HS6 hq6
        clear hwn6 hg6 hf6 hown6 h636 hby6 hQ6 HS61
        go_wp2_with fail
        refine (IH.out d' (by omega) (by omega) 1 _ _ _ (by omega) (by rfl) HYD.out HS6.out.2.2.2.2.1 (HG.out.grown HS6.out.2.2.2.2.2)).mono ?_
        rintro e w8 ⟨v8, X8, rfl, st8, len8⟩
        obtain ⟨g8, c8, rfl, _, gc8⟩ := st8.form
        have HS8 := hid (HS6.out.far hcw neL.2.2.1 neL.2.2.2 st8.2.2.2.2.2 st8.2.2.2.2.1)
        have HI8 := hid st8.2.2.1
        have HK8 := hid st8.2.2.2.1
        have GC8 := hid gc8
        have hl8 : X8.length ≤ 1 * bdL d' := len8
        clear st8 gc8 len8
        have hown9 := HS8.out.1
        have zz9 : w.heap.size ≤ w8.heap.size := HS8.out.2.2.2.2.2.size
        have h639 : (Q6).length + X8.length ≤ maxLen := by (try simp only [List.length_append, List.length_cons, List.length_nil]); unfold maxLen; omega
        have hby9 : ((Q6).length + X8.length) * 72 ≤ 140737488355328 := by (try simp only [List.length_append, List.length_cons, List.length_nil]); omega
        go_wp2_with (at_builtin; refine wpList_append_own _ rfl _ _ 24 rfl w.heap.size 42 i0 _ 4 72 Tryz.underlying24 hi hz0 hz1 hz2 rfl (by decide) _ _ _ rfl hown9 ⟨g8, 0, none⟩ X8.length c8 (lnsV X8) rfl (lnsV_length X8) GC8.out (lnsV_all HI8.out) h639 hby9 zz9 ?_)
        intro v9 w9 hwn9 hg9 hf9
        have HS9 := hid (HS8.out.app hcw neL.1 neL.2.1 HI8.out HK8.out hg9 hwn9 (by first | exact hf9 | exact fun e => HS8.out.2.1 (hf9.1 e).1 | exact fun e => HS8.out.2.1 (hf9 e).1))
        have hq9 : (Q6 ++ X8).length ≤ (Q6).length + X8.length := by rw [List.length_append]; exact Nat.le_refl _
        obtain ⟨Q9, hQ9⟩ : ∃ Q, Q6 ++ X8 = Q := ⟨_, rfl⟩
        rw [hQ9] at HS9 hq9
        clear hwn9 hg9 hf9 hown9 h639 hby9 hQ9
        have HIa : Hid (AllIn 9 49 ((w9.alloc (.cells #[.int .i64 2, .int .i64 0, .string ⟨#[]⟩, .int .i64 1, .int .i64 0, .string ⟨#[105]⟩, .int .i64 0, .int .i64 1, .string ⟨#[]⟩] 49)).alloc (.cells #[.int .i64 1, .string ⟨#[105]⟩, .slice none 0 0, .slice (some ⟨w9.heap.size, 0, none⟩) 3 3] 42)) [(⟨1, ⟨#[105]⟩, [], threeL 2 1, .slice none 0 0, .slice (some ⟨w9.heap.size, 0, none⟩) 3 3⟩ : LnL)]) := hid ((AllIn.one (x := ⟨1, ⟨#[105]⟩, [], threeL 2 1, .slice none 0 0, .slice (some ⟨w9.heap.size, 0, none⟩) 3 3⟩) ⟨World.ownsRow_nil _ _ _ _, three_own w9 2 1 _⟩).other (grown_alloc' _ _ none) (fun g e => by cases e))
        have HKa : Hid (LnOk ⟨1, ⟨#[105]⟩, [], threeL 2 1, .slice none 0 0, .slice (some ⟨w9.heap.size, 0, none⟩) 3 3⟩) := hid (.inr (.inl ⟨rfl, nameI, rfl, three_ok 2 1 (by omega) (by omega) (by omega) (by omega)⟩))
        have HSa1 := hid (HS9.out.alloc (.cells #[.int .i64 2, .int .i64 0, .string ⟨#[]⟩, .int .i64 1, .int .i64 0, .string ⟨#[105]⟩, .int .i64 0, .int .i64 1, .string ⟨#[]⟩] 49))
        have howna := (HSa1.out.alloc (.cells #[.int .i64 1, .string ⟨#[105]⟩, .slice none 0 0, .slice (some ⟨w9.heap.size, 0, none⟩) 3 3] 42)).1
        have zza : w.heap.size ≤ w9.heap.size := HS9.out.2.2.2.2.2.size
        have h63a : (Q9).length + 1 ≤ maxLen := by unfold maxLen; omega
        have hbya : ((Q9).length + 1) * 72 ≤ 140737488355328 := by omega
        go_wp2_with (at_builtin; refine wpList_append_own _ rfl _ _ 24 rfl w.heap.size 42 i0 _ 4 72 Tryz.underlying24 hi hz0 hz1 hz2 rfl (by decide) _ _ _ rfl howna ⟨w9.heap.size + 1, 0, none⟩ 1 1 (lnV ⟨1, ⟨#[105]⟩, [], threeL 2 1, .slice none 0 0, .slice (some ⟨w9.heap.size, 0, none⟩) 3 3⟩) rfl rfl ?c1a ?c2a h63a hbya ?c5a ?_)
        case c1a => first | exact ln_new' _ _ _ _ _ _ _ _ _ | exact fun j u h => h
        case c2a => exact lnV_one _ rfl rfl
        case c5a => first | omega | (simp; omega)
        intro va wa hwna hga hfa
        have HSa := hid ((HSa1.out.alloc (.cells #[.int .i64 1, .string ⟨#[105]⟩, .slice none 0 0, .slice (some ⟨w9.heap.size, 0, none⟩) 3 3] 42)).app hcw neL.1 neL.2.1 HIa.out (fun x hx => by rw [List.mem_singleton] at hx; rw [hx]; exact HKa.out) hga (by rw [lnsV_one]; exact hwna) (by first | exact hfa | exact fun e => HS9.out.2.1 (hfa.1 e).1))
        have hqa : (Q9 ++ [(⟨1, ⟨#[105]⟩, [], threeL 2 1, .slice none 0 0, .slice (some ⟨w9.heap.size, 0, none⟩) 3 3⟩ : LnL)]).length ≤ (Q9).length + 1 := by rw [List.length_append]; exact Nat.le_refl _
        obtain ⟨Qa, hQa⟩ : ∃ Q, Q9 ++ [(⟨1, ⟨#[105]⟩, [], threeL 2 1, .slice none 0 0, .slice (some ⟨w9.heap.size, 0, none⟩) 3 3⟩ : LnL)] = Q := ⟨_, rfl⟩
        rw [hQa] at HSa hqa
        clear hwna hga hfa howna h63a hbya hQa HSa1
        have HIb : Hid (AllIn 9 49 (wa.alloc (.cells #[.int .i64 7, .string ⟨#[]⟩, .slice none 0 0, .slice none 0 0] 42)) [(⟨7, ⟨#[]⟩, [], [], .slice none 0 0, .slice none 0 0⟩ : LnL)]) := hid ((AllIn.one (x := ⟨7, ⟨#[]⟩, [], [], .slice none 0 0, .slice none 0 0⟩) ⟨World.ownsRow_nil _ _ _ _, World.ownsRow_nil _ _ _ _⟩).other (grown_alloc' _ _ none) (fun g e => by cases e))
        have HKb : Hid (LnOk ⟨7, ⟨#[]⟩, [], [], .slice none 0 0, .slice none 0 0⟩) := hid (.inr (.inr (.inr ⟨.inr rfl, rfl, rfl, rfl⟩)))
        have hownb := (HSa.out.alloc (.cells #[.int .i64 7, .string ⟨#[]⟩, .slice none 0 0, .slice none 0 0] 42)).1
        have zzb : w.heap.size ≤ wa.heap.size := HSa.out.2.2.2.2.2.size
        have h63b : (Qa).length + 1 ≤ maxLen := by (try simp only [List.length_append, List.length_cons, List.length_nil]); unfold maxLen; omega
        have hbyb : ((Qa).length + 1) * 72 ≤ 140737488355328 := by (try simp only [List.length_append, List.length_cons, List.length_nil]); omega
        go_wp2_with (at_builtin; refine wpList_append_own _ rfl _ _ 24 rfl w.heap.size 42 i0 _ 4 72 Tryz.underlying24 hi hz0 hz1 hz2 rfl (by decide) _ _ _ rfl hownb ⟨wa.heap.size, 0, none⟩ 1 1 (lnV ⟨7, ⟨#[]⟩, [], [], .slice none 0 0, .slice none 0 0⟩) rfl rfl ?c1b ?c2b h63b hbyb ?c5b ?_)
        case c1b => first | exact ln_new _ _ _ _ _ _ _ _ | exact fun j u h => h
        case c2b => exact lnV_one _ rfl rfl
        case c5b => first | omega | (simp; omega)
        intro vb wb hwnb hgb hfb
        have HSb := hid ((HSa.out.alloc (.cells #[.int .i64 7, .string ⟨#[]⟩, .slice none 0 0, .slice none 0 0] 42)).app hcw neL.1 neL.2.1 HIb.out (fun x hx => by rw [List.mem_singleton] at hx; rw [hx]; exact HKb.out) hgb (by rw [lnsV_one]; exact hwnb) (by first | exact hfb | exact fun e => HSa.out.2.1 (hfb.1 e).1))
        have hqb : (Qa ++ [(⟨7, ⟨#[]⟩, [], [], .slice none 0 0, .slice none 0 0⟩ : LnL)]).length ≤ (Qa).length + 1 := by rw [List.length_append]; exact Nat.le_refl _
        obtain ⟨Qb, hQb⟩ : ∃ Q, Qa ++ [(⟨7, ⟨#[]⟩, [], [], .slice none 0 0, .slice none 0 0⟩ : LnL)] = Q := ⟨_, rfl⟩
        rw [hQb] at HSb hqb
        clear hwnb hgb hfb hownb h63b hbyb hQb
        go_wp2
        go_roundw
        case rel => exact ⟨j', Qb, by go_num, by omega, by have := HXB.out; (try rw [HBS.out]); rw [Nat.succ_mul] at this; (try simp only [List.length_append, List.length_cons, List.length_nil]); omega, HSb.out⟩
        case measure => simp [RowKit.intOf]
    · have hj00 : j = 0 := by omega
      subst hj00
      obtain ⟨gv, cv, rfl, _⟩ := HS.out.form
      go_wp2
      go_ret
      exact ⟨_, X, rfl, HS.out, by have := HXB.out; omega⟩
end Go.Proofs.YtaplbefdijcceaaGreatDoor
