/- The model's l06Fold and FoldExpr. -/
import Derived.Test.YtcnnfhcpkbjolaaDoorOpsB
import Derived.Test.YtcnnfhcpkbjolaaDoorWrapB
import Derived.Test.YtcnnfhcpkbjolaaDoorNtB
import Derived.Test.YtcnnfhcpkbjolaaDoorFoldP
import Derived.Test.YtcnnfhcpkbjolaaDoorRowM
import Derived.Deep.QuietTactic
import Derived.Deep.DeepCutAuto
import Derived.BigQuiet
namespace Go.Proofs.YtcnnfhcpkbjolaaDoor
open Go.RowKit Go.Lib

set_option maxRecDepth 100000 in
set_option maxHeartbeats 4000000 in
theorem s_fold (a : Option Addr) (cap : Nat) (l : List TokL) (hl : l.length ≤ 20) (hn : NamesT l) : ∀ (n i : Nat), l.length ≤ i + n → (∃ q, scanN (l.drop i) 1 = some q) → ∀ w : World, ReadT w a l →
    Calls Tryd.prog 74 #[.slice a l.length cap, .int .i64 (i : Int)] w (Toks 83 w.heap.size (foldE (l.drop i)) w) := by
  intro n
  induction n with
  | zero =>
    intro i hi hq
    obtain ⟨q, hq⟩ := hq
    rw [List.drop_eq_nil_of_le (by omega)] at hq
    cases hq
  | succ n ih =>
    intro i hin hq w hr
    obtain ⟨q, hq⟩ := hq
    obtain ⟨hil, htb, q', _, hargs⟩ := scan_one _ _ _ hq
    have hend : ¬ endZ l (i : Int) < 0 := by rw [endZ_nat, hq]; show ¬ (i : Int) + (q : Int) < 0; omega
    have hops := ops_at l (arN l[i]) (i + 1) q' hargs
    have har : arZ l[i] = ((arN l[i] : Nat) : Int) := by have := arZ_pos l[i] htb; unfold arN; omega
    have hoz := opsZ_some l i hend hil (arN l[i]) har
    have hfold := fold_at l i hil
    have hr4 : arN l[i] ≤ 4 := by have := (arZ_bd l[i]).2; omega
    have S := Lib.hid (fun W h => s_ops a cap l (i : Int) W (by omega) h hn (by omega))
    have hrl : (opsZ l (i : Int)).length = arN l[i] := by rw [hoz, opsFrom_length]
    rw [show ((i + 1 : Nat) : Int) = (i : Int) + 1 from by omega, ← hoz] at hops
    obtain ⟨R, hR⟩ : ∃ R, opsZ l (i : Int) = R := ⟨_, rfl⟩
    rw [hR] at hops hrl S
    obtain ⟨SG, hSG⟩ : ∃ SG, segs (l.drop (i + 1)) = SG := ⟨_, rfl⟩
    rw [hSG] at hops hfold
    have hlen : ∀ t j, (outF t SG j).length ≤ 21 := fun t j => by
      have := outF_len t (l.drop (i + 1)) j
      rw [hSG, List.length_drop] at this
      omega
    have HLEN := Lib.hid hlen
    have HOPS := Lib.hid hops
    have HFOLD := Lib.hid hfold
    have HIH := Lib.hid ih
    have HR := Lib.hid hr
    obtain ⟨g, rfl, hg, c0, c1, c2⟩ := hr i hil
    obtain ⟨t, ht⟩ : ∃ t, l[i] = t := ⟨_, rfl⟩
    rw [ht] at c0 c1 c2 HOPS HFOLD hrl hr4
    have HRL := Lib.hid hrl
    have k0 : (0 : Int) ≤ (i : Int) := by omega
    have k1 : (i : Int) < (l.length : Int) := by omega
    obtain ⟨I0, hi, hz0, hz1, hz2⟩ := info_parts infoT
    clear ih hq hargs hend hoz hR hSG hops hfold hlen hr ht htb har hil hn hrl
    go_enter Tryd.func74, Tryd.ntmps74
    go_wp2_with fail
    have HB1 : Hid (Below w.heap.size w (w.alloc (.cells #[.int .i64 t.kind, .int .i64 t.num, .string t.name] 83))) := Lib.hid ((Below.refl _ _).alloc (Nat.le_refl _) _)
    have HO1 := Lib.hid (tok_row (T := 83) w t (Nat.le_refl w.heap.size))
    have hs1 : (w.alloc (.cells #[.int .i64 t.kind, .int .i64 t.num, .string t.name] 83)).heap.size = w.heap.size + 1 := by simp
    refine (S.out _ (HR.out.below HB1.out)).mono ?_
    rintro e w2 ⟨v0, rfl, O2, b2⟩
    obtain ⟨p0, d0, rfl⟩ := owns3_shape O2
    have HI2 := Lib.hid (owns_lower O2 (show w.heap.size ≤ _ by omega))
    have HO2 := Lib.hid (owns3_below HO1.out b2)
    have HB2 : Hid (Below w.heap.size w w2) := Lib.hid (HB1.out.trans (b2.mono (by omega)))
    clear b2 O2 HO1 HB1 hs1
    go_wp2_with fail
    go_loopw [5, 7] (fun o k wr => ∃ j : Nat, j ≤ arN t ∧ k = .int .i64 (j : Int) ∧ wr.ownsRow w.heap.size 83 3 o (outF t SG j).length (toksV (outF t SG j)) ∧ wr.ownsRow w.heap.size 3 1 (.slice p0 R.length d0) R.length (intV R) ∧ Below w.heap.size w wr) (fun _ k _ => arN t - (RowKit.intOf k).toNat)
    case atStart => exact ⟨0, Nat.zero_le _, rfl, by rw [outF_zero]; exact HO2.out, HI2.out, HB2.out⟩
    case round =>
      obtain ⟨j, hj, rfl, hown, hint, hbel⟩ := hrel
      have HO := Lib.hid hown
      have HI := Lib.hid hint
      have HB := Lib.hid hbel
      have hB := hbel.size
      clear hown hint hbel
      by_cases hlt : j < arN t
      · obtain ⟨x, hx, hxq, hix, hxl, hnext⟩ := HOPS.out j hlt
        have hjR : j < R.length := by have := HRL.out; omega
        have hxe : R[j] = (x : Int) := by rw [List.getElem?_eq_getElem hjR] at hx; exact Option.some.inj hx
        obtain ⟨gi, rfl, hgi, ci⟩ := readI_of HI.out j hjR
        rw [hxe] at ci
        have CALL := Lib.hid (HIH.out x (by omega) hxq wr (HR.out.below HB.out))
        have hpos : 0 < (foldE (l.drop x)).length := by
          obtain ⟨q, hq⟩ := hxq
          have h1 := segs_scan _ 1 _ hq
          obtain ⟨rest, hrest⟩ := segs_head (l.drop x) (by omega)
          exact segs_pos (l.drop x) _ (by rw [hrest]; exact List.mem_cons_self ..)
        have hfl : (foldE (l.drop x)).length ≤ 20 := by have := foldE_len (l.drop x); rw [List.length_drop] at this; omega
        have HNX := Lib.hid (outF_next t SG j _ hnext)
        obtain ⟨X, hX⟩ : ∃ X, foldE (l.drop x) = X := ⟨_, rfl⟩
        rw [hX] at CALL hpos hfl HNX
        have hlen := HLEN.out t j
        have k2 : (0 : Int) ≤ (j : Int) := by omega
        have k3 : (j : Int) < (R.length : Int) := by omega
        clear hx hxe hnext hX hxq hjR
        go_wp2_with fail
        refine CALL.out.mono ?_
        rintro e w3 ⟨v3, rfl, O3, b3⟩
        obtain ⟨g3, cap3, rfl, hg3, hg3', n3⟩ := toks_src O3 hpos
        have HN3 := Lib.hid n3
        have HOa := Lib.hid (owns3_below HO.out b3)
        have HIa := Lib.hid (owns3_below HI.out b3)
        have HBa := Lib.hid (HB.out.trans (b3.mono hB))
        have za := HBa.out.size
        obtain ⟨Q, hQ⟩ : ∃ Q, outF t SG j = Q := ⟨_, rfl⟩
        rw [hQ] at HOa HNX hlen
        have h63 : Q.length + X.length ≤ maxLen := by unfold maxLen; omega
        have hby : (Q.length + X.length) * 32 ≤ 140737488355328 := by omega
        clear b3 O3 n3 ci hQ
        go_wp2_with (at_builtin; refine wpList_append_own _ rfl _ _ 46 rfl w.heap.size 83 I0 _ 3 32 Tryd.underlying46 hi hz0 hz1 hz2 rfl (by decide) _ _ _ rfl HOa.out ⟨g3, 0, none⟩ X.length cap3 (toksV X) rfl ?c0 HN3.out ?c2 h63 hby za ?_)
        case c0 => exact toksV_length X
        case c2 => exact toks_cells1 X
        intro v' w4 hown4 hgrow4 _
        have HO4 := Lib.hid (owns_toks (l := Q ++ X) hown4 (by rw [toksV_append]))
        have HI4 := Lib.hid (HIa.out.kept hgrow4 (rows_apart HIa.out HOa.out (by decide)))
        have HB4 : Hid (Below w.heap.size w w4) := Lib.hid (HBa.out.grown hgrow4 za (fun k hk => (HOa.out.lt k hk).1))
        clear hown4 hgrow4
        go_wp2
        go_roundw
        case rel => exact ⟨j + 1, by omega, by go_num, by rw [HNX.out]; exact HO4.out, HI4.out, HB4.out⟩
        case measure => simp [RowKit.intOf]; omega
      · have hjj : j = arN t := by omega
        subst hjj
        have hRl := HRL.out
        have c0' := (HB.out.cell (p := ⟨g, i * 3, none⟩) hg).trans c0
        have c1' := (HB.out.cell (p := ⟨g, i * 3 + 1, none⟩) hg).trans c1
        have c2' := (HB.out.cell (p := ⟨g, i * 3 + 2, none⟩) hg).trans c2
        obtain ⟨O, hO⟩ : ∃ O, (SG.take (arN t)).flatten = O := ⟨_, rfl⟩
        have e : outF t SG (arN t) = t :: O := by unfold outF; rw [hO]
        rw [e] at HO HFOLD
        obtain ⟨go, co, rfl, hgo, _, hcs⟩ := toks_src HO.out (by simp)
        have HCS := Lib.hid hcs
        have HOA := Lib.hid (HO.out.alloc (.cells #[.int .i64 t.kind, .int .i64 t.num, .string t.name] 83))
        have HBA : Hid (Below w.heap.size w (wr.alloc (.cells #[.int .i64 t.kind, .int .i64 t.num, .string t.name] 83))) := Lib.hid (HB.out.alloc hB _)
        have X0 := heap_alloc_new wr (.cells #[.int .i64 t.kind, .int .i64 t.num, .string t.name] 83)
        have e0 : (wr.alloc (.cells #[.int .i64 t.kind, .int .i64 t.num, .string t.name] 83)).cell? ⟨wr.heap.size, 0, none⟩ = some (.int .i64 t.kind) := (blk X0).1 0 _ rfl
        clear hcs e hO X0 c0 c1 c2 hlt hj HOPS HIH
        by_cases hk : 2 ≤ t.kind ∧ t.kind ≤ 6
        · have SI : Hid (∀ W : World, Calls Tryd.prog 32 #[.int .i64 t.kind, .int .i64 2, .int .i64 6] W fun e w' => e = .returned (.bool true) ∧ W = w') := Lib.hid (fun W => by have := s_in t.kind 2 6 W; rw [decide_eq_true hk.1, decide_eq_true hk.2] at this; exact this)
          have HK := Lib.hid hk
          clear hk
          by_cases h3 : (t :: O).length = 3
          · obtain ⟨x, y, rfl⟩ : ∃ x y, O = [x, y] := by
              match O, h3 with
              | [x, y], _ => exact ⟨x, y, rfl⟩
            have m1 : wr.cell? ⟨go, 3, none⟩ = some (.int .i64 x.kind) := by have := HCS.out 3 _ rfl; rwa [add_plain, Nat.zero_add] at this
            have m2 : wr.cell? ⟨go, 4, none⟩ = some (.int .i64 x.num) := by have := HCS.out 4 _ rfl; rwa [add_plain, Nat.zero_add] at this
            have m3 : wr.cell? ⟨go, 6, none⟩ = some (.int .i64 y.kind) := by have := HCS.out 6 _ rfl; rwa [add_plain, Nat.zero_add] at this
            have m4 : wr.cell? ⟨go, 7, none⟩ = some (.int .i64 y.num) := by have := HCS.out 7 _ rfl; rwa [add_plain, Nat.zero_add] at this
            have hN : (t :: [x, y]).length = 3 := rfl
            rw [hN] at HOA ⊢
            by_cases hx : x.kind = 0
            · by_cases hy : y.kind = 0
              · rw [hx] at m1
                rw [hy] at m3
                have HX := Lib.hid hx
                have HY := Lib.hid hy
                have SA := Lib.hid (fun W => s_apply t.kind x.num y.num W)
                obtain ⟨V, hV⟩ : ∃ V, appZ t.kind x.num y.num = V := ⟨_, rfl⟩
                rw [hV] at SA
                have HV := Lib.hid hV
                have E0 := Lib.hid e0
                have M2 : Hid ((wr.alloc (.cells #[.int .i64 t.kind, .int .i64 t.num, .string t.name] 83)).cell? ⟨go, 4, none⟩ = some (.int .i64 x.num)) := Lib.hid (((Below.refl wr.heap.size wr).alloc (Nat.le_refl _) _).cell (p := ⟨go, 4, none⟩) hgo |>.trans m2)
                have M4 : Hid ((wr.alloc (.cells #[.int .i64 t.kind, .int .i64 t.num, .string t.name] 83)).cell? ⟨go, 7, none⟩ = some (.int .i64 y.num)) := Lib.hid (((Below.refl wr.heap.size wr).alloc (Nat.le_refl _) _).cell (p := ⟨go, 7, none⟩) hgo |>.trans m4)
                clear hx hy hV h3 hN
                by_cases hv : 0 ≤ V ∧ V ≤ 999
                · have SV : Hid (∀ W : World, Calls Tryd.prog 32 #[.int .i64 V, .int .i64 0, .int .i64 999] W fun e w' => e = .returned (.bool true) ∧ W = w') := Lib.hid (fun W => by have := s_in V 0 999 W; rw [decide_eq_true hv.1, decide_eq_true hv.2] at this; exact this)
                  have HNO : Hid (fw [t, x, y] = [foldT V]) := Lib.hid (by rw [fw_yes t x y ⟨HK.out.1, HK.out.2, HX.out, HY.out, by rw [HV.out]; exact hv.1, by rw [HV.out]; exact hv.2⟩, HV.out])
                  clear hv
                  go_wp2_with (first | (go_at_call 32; refine (SI.out _).mono ?_; rintro e w' ⟨rfl, rfl⟩))
                  go_quiet ((go_at_call 100; exact Calls.quiet_of_same ((SA.out _).mono (fun e w' h => ⟨h.1, h.2.symm⟩))))
                  go_wp2_with (first | (go_at_call 32; refine (SV.out _).mono ?_; rintro e w' ⟨rfl, rfl⟩))
                  go_ret
                  rw [HFOLD.out, HNO.out]
                  have HT := tok_row (B := w.heap.size) (T := 83) ((wr.alloc (.cells #[.int .i64 t.kind, .int .i64 t.num, .string t.name] 83)).drewN nq) (foldT V) (below_drw HBA.out nq).size
                  rw [show ((wr.alloc (.cells #[.int .i64 t.kind, .int .i64 t.num, .string t.name] 83)).drewN nq).heap.size = wr.heap.size + 1 from by show (wr.alloc (.cells #[.int .i64 t.kind, .int .i64 t.num, .string t.name] 83)).heap.size = _; simp] at HT
                  exact ⟨_, rfl, HT, (below_drw HBA.out nq).alloc (below_drw HBA.out nq).size _⟩
                · have SV : Hid (∀ W : World, Calls Tryd.prog 32 #[.int .i64 V, .int .i64 0, .int .i64 999] W fun e w' => e = .returned (.bool false) ∧ W = w') := Lib.hid (fun W => by have := s_in V 0 999 W; rw [show (decide (0 ≤ V) && decide (V ≤ 999)) = false from by rw [Bool.and_eq_false_iff]; by_cases h : 0 ≤ V; exact .inr (decide_eq_false (fun h' => hv ⟨h, h'⟩)); exact .inl (decide_eq_false h)] at this; exact this)
                  have HNO := Lib.hid (fw_no t x y (fun h => hv (by rw [HV.out] at h; exact ⟨h.2.2.2.2.1, h.2.2.2.2.2⟩)))
                  clear hv
                  go_wp2_with (first | (go_at_call 32; refine (SI.out _).mono ?_; rintro e w' ⟨rfl, rfl⟩))
                  go_quiet ((go_at_call 100; exact Calls.quiet_of_same ((SA.out _).mono (fun e w' h => ⟨h.1, h.2.symm⟩))))
                  go_wp2_with (first | (go_at_call 32; refine (SV.out _).mono ?_; rintro e w' ⟨rfl, rfl⟩))
                  go_ret
                  rw [HFOLD.out, HNO.out]
                  exact ⟨_, rfl, owns_drw HOA.out _, below_drw HBA.out _⟩
              · have HNO := Lib.hid (fw_no t x y (fun h => hy h.2.2.2.1))
                have hd : (y.kind == 0) = false := by simpa using hy
                rw [hx] at m1
                clear hy hx h3 hN
                go_wp2_with (first | (go_at_call 32; refine (SI.out _).mono ?_; rintro e w' ⟨rfl, rfl⟩))
                go_ret
                rw [HFOLD.out, HNO.out]
                exact ⟨_, rfl, HOA.out, HBA.out⟩
            · have HNO := Lib.hid (fw_no t x y (fun h => hx h.2.2.1))
              have hd : (x.kind == 0) = false := by simpa using hx
              clear hx h3 hN
              go_wp2_with (first | (go_at_call 32; refine (SI.out _).mono ?_; rintro e w' ⟨rfl, rfl⟩))
              go_ret
              rw [HFOLD.out, HNO.out]
              exact ⟨_, rfl, HOA.out, HBA.out⟩
          · have HNO := Lib.hid (fw_len (t :: O) h3)
            obtain ⟨N, hN⟩ : ∃ N, (t :: O).length = N := ⟨_, rfl⟩
            rw [hN] at HOA h3
            have HN := Lib.hid hN
            have hd : ((N : Int) == 3) = false := by simp; omega
            clear h3 hN
            rw [HN.out]
            go_wp2_with (first | (go_at_call 32; refine (SI.out _).mono ?_; rintro e w' ⟨rfl, rfl⟩))
            go_ret
            rw [HFOLD.out, HNO.out]
            exact ⟨_, rfl, by rw [HN.out]; exact HOA.out, HBA.out⟩
        · have SI : Hid (∀ W : World, Calls Tryd.prog 32 #[.int .i64 t.kind, .int .i64 2, .int .i64 6] W fun e w' => e = .returned (.bool false) ∧ W = w') := Lib.hid (fun W => by have := s_in t.kind 2 6 W; rw [show (decide (2 ≤ t.kind) && decide (t.kind ≤ 6)) = false from by rw [Bool.and_eq_false_iff]; by_cases h : 2 ≤ t.kind; exact .inr (decide_eq_false (fun h' => hk ⟨h, h'⟩)); exact .inl (decide_eq_false h)] at this; exact this)
          have HNO : Hid (fw (t :: O) = t :: O) := Lib.hid (by
            by_cases h3 : (t :: O).length = 3
            · obtain ⟨x, y, rfl⟩ : ∃ x y, O = [x, y] := by
                match O, h3 with
                | [x, y], _ => exact ⟨x, y, rfl⟩
              exact fw_no t x y (fun h => hk ⟨h.1, h.2.1⟩)
            · exact fw_len _ h3)
          clear hk
          go_wp2_with (first | (go_at_call 32; refine (SI.out _).mono ?_; rintro e w' ⟨rfl, rfl⟩))
          go_ret
          rw [HFOLD.out, HNO.out]
          exact ⟨_, rfl, HOA.out, HBA.out⟩
set_option maxHeartbeats 400000 in
theorem s_foldExpr (a : Option Addr) (cap : Nat) (l : List TokL) (w : World) (hl : l.length ≤ 1048576) (hr : ReadT w a l) (hn : NamesT l) :
    Calls Tryd.prog 38 #[.slice a l.length cap] w (Toks 83 w.heap.size (if exprB l = true then foldE l else []) w) := by
  have S := Lib.hid (s_exprok a cap l w hl hr hn)
  have HR := Lib.hid hr
  cases hb : exprB l with
  | false =>
    rw [hb] at S
    clear hb hr hn
    go_enter Tryd.func38, Tryd.ntmps38
    go_wp2_with fail
    refine S.out.mono ?_
    rintro e w1 ⟨rfl, b1⟩
    have HB := Lib.hid (b1.alloc b1.size (.cells #[] 83))
    have HO := Lib.hid (World.ownsRow_lit (base := w.heap.size) (e := 83) (size := 3) w1 #[] 0 b1.size (by decide) rfl)
    clear b1
    go_wp2
    go_ret
    exact ⟨_, rfl, HO.out, HB.out⟩
  | true =>
    rw [hb] at S
    obtain ⟨h20, hsc⟩ := (exprB_scan l).1 hb
    have F := Lib.hid (fun W h => s_fold a cap l h20 hn l.length 0 (by omega) ⟨_, by rw [List.drop_zero]; exact hsc⟩ W h)
    rw [List.drop_zero] at F
    clear hb hr hn hsc
    go_enter Tryd.func38, Tryd.ntmps38
    go_wp2_with fail
    refine S.out.mono ?_
    rintro e w1 ⟨rfl, b1⟩
    have HR1 := Lib.hid (HR.out.below b1)
    have HB := Lib.hid b1
    have z1 := b1.size
    clear b1
    go_wp2_with fail
    refine (F.out _ HR1.out).mono ?_
    rintro e w2 ⟨v, rfl, O, b2⟩
    have HO := Lib.hid (owns_lower O z1)
    have HB2 := Lib.hid (HB.out.trans (b2.mono z1))
    clear O b2
    go_wp2
    go_ret
    exact ⟨_, rfl, HO.out, HB2.out⟩
end Go.Proofs.YtcnnfhcpkbjolaaDoor
