/- Plain facts: The program's foldWhole; The program's FoldExpr, with its closure that calls itself. Nothing of the program. -/
import Derived.Test.YtcnnfhcpkbjolaaDoorOpsB
import Derived.Test.YtcnnfhcpkbjolaaDoorWrapB
import Derived.Test.YtcnnfhcpkbjolaaDoorNtB
import Derived.Test.YtcnnfhcpkbjolaaDoorFoldP
import Derived.Test.YtcnnfhcpkbjolaaDoorRowM
import Derived.Deep.QuietTactic
import Derived.Deep.DeepCutAuto
import Derived.Deep.RegionHeld3
import Derived.BigQuiet
import Derived.FnLit
import Derived.Laws.EntriesVeiled
/-! The program's foldWhole -/
namespace Go.Proofs.YtcnnfhcpkbjolaaDoor
open Go.RowKit Go.Lib

set_option maxRecDepth 100000 in
set_option maxHeartbeats 4000000 in
theorem i_whole (B : Nat) (v : Value) (o : List TokL) (w : World) (hB : B ≤ w.heap.size) (hown : w.ownsRow B 83 3 v o.length (toksV o)) (hl : o.length ≤ 100) :
    Calls Tryd.prog 66 #[v] w fun e w' => ∃ v', e = .returned v' ∧ w'.ownsRow B 83 3 v' (fw o).length (toksV (fw o)) ∧ Below w.heap.size w w' := by
  have HO := Lib.hid hown
  obtain ⟨a, c, rfl⟩ := owns3_shape hown
  clear hown
  by_cases h3 : o.length = 3
  · obtain ⟨t, x, y, rfl⟩ : ∃ t x y, o = [t, x, y] := by
      match o, h3 with
      | [t, x, y], _ => exact ⟨t, x, y, rfl⟩
    obtain ⟨go, co, ho, hgo, _, hcs⟩ := toks_src HO.out (by simp)
    injection ho with ho1 _ ho2
    subst ho1 ho2
    have m0 : w.cell? ⟨go, 0, none⟩ = some (.int .i64 t.kind) := by have := hcs 0 _ rfl; rwa [add_plain, Nat.zero_add] at this
    have m1 : w.cell? ⟨go, 3, none⟩ = some (.int .i64 x.kind) := by have := hcs 3 _ rfl; rwa [add_plain, Nat.zero_add] at this
    have m2 : w.cell? ⟨go, 4, none⟩ = some (.int .i64 x.num) := by have := hcs 4 _ rfl; rwa [add_plain, Nat.zero_add] at this
    have m3 : w.cell? ⟨go, 6, none⟩ = some (.int .i64 y.kind) := by have := hcs 6 _ rfl; rwa [add_plain, Nat.zero_add] at this
    have m4 : w.cell? ⟨go, 7, none⟩ = some (.int .i64 y.num) := by have := hcs 7 _ rfl; rwa [add_plain, Nat.zero_add] at this
    have hN : [t, x, y].length = 3 := rfl
    rw [hN] at HO ⊢
    clear hcs h3 hN hl
    by_cases hk : 2 ≤ t.kind ∧ t.kind ≤ 6
    · have SI : Hid (∀ W : World, Calls Tryd.prog 96 #[.int .i64 t.kind] W fun e w' => e = .returned (.bool true) ∧ W = w') := Lib.hid (fun W => by have := i_oper t.kind W; rw [decide_eq_true hk.1, decide_eq_true hk.2] at this; exact this)
      have HK := Lib.hid hk
      clear hk
      by_cases hx : x.kind = 0
      · by_cases hy : y.kind = 0
        · rw [hx] at m1
          rw [hy] at m3
          have HX := Lib.hid hx
          have HY := Lib.hid hy
          have SA := Lib.hid (fun W => i_apply t.kind x.num y.num W)
          obtain ⟨V, hV⟩ : ∃ V, appZ t.kind x.num y.num = V := ⟨_, rfl⟩
          rw [hV] at SA
          have HV := Lib.hid hV
          have ST := Lib.hid (fun W => i_tok 0 V ⟨#[]⟩ W (by decide))
          obtain ⟨ok, hok⟩ : ∃ ok, tokB ⟨0, V, ⟨#[]⟩⟩ = ok := ⟨_, rfl⟩
          rw [hok] at ST
          have HOK : Hid (ok = true ↔ 0 ≤ V ∧ V ≤ 999) := Lib.hid (by rw [← hok, tokB_0]; simp [noName]; intros; rfl)
          have HBA : Hid (Below w.heap.size w (w.alloc (.cells #[.int .i64 0, .int .i64 V, .string ⟨#[]⟩] 83))) := Lib.hid ((Below.refl _ _).alloc (Nat.le_refl _) _)
          have X0 := heap_alloc_new w (.cells #[.int .i64 0, .int .i64 V, .string ⟨#[]⟩] 83)
          clear hx hy hV hok X0
          go_enter Tryd.func66, Tryd.ntmps66
          go_wp2_with (first | (go_at_call 96; refine (SI.out _).mono ?_; rintro e w' ⟨rfl, rfl⟩))
          go_region_held3 (fun w' => w'.cell? ⟨go, 0, none⟩ = some (.int .i64 t.kind) ∧ w'.cell? ⟨go, 4, none⟩ = some (.int .i64 x.num) ∧ w'.cell? ⟨go, 7, none⟩ = some (.int .i64 y.num)) (first | exact ⟨m0, m2, m4⟩ | go_keep) (first
            | (go_at_call 97; ((with_reducible refine (SA.out _).mono ?_); rintro e w' ⟨rfl, rfl⟩)))
          all_goals
            go_wp2_with fail
            refine (ST.out _).mono ?_
            rintro e w4 ⟨rfl, b4⟩
            have hsz : (w.alloc (.cells #[.int .i64 0, .int .i64 V, .string ⟨#[]⟩] 83)).drew.heap.size = w.heap.size + 1 := by show (w.alloc (.cells #[.int .i64 0, .int .i64 V, .string ⟨#[]⟩] 83)).heap.size = _; simp
            rw [hsz] at b4
            have P4 : w4.heap[w.heap.size]? = some (.cells #[.int .i64 0, .int .i64 V, .string ⟨#[]⟩] 83 (0, 0)) := (b4.block _ (by omega)).trans (heap_alloc_new w _)
            have HB4 : Hid (Below w.heap.size w w4) := Lib.hid ((HBA.out.drew).trans (b4.mono (by omega)))
            have e0 : w4.cell? ⟨w.heap.size, 0, none⟩ = some (.int .i64 0) := (blk P4).1 0 _ rfl
            have e1 : w4.cell? ⟨w.heap.size, 1, none⟩ = some (.int .i64 V) := (blk P4).1 1 _ rfl
            have e2 : w4.cell? ⟨w.heap.size, 2, none⟩ = some (.string ⟨#[]⟩) := (blk P4).1 2 _ rfl
            have HO4 := Lib.hid (owns3_below HO.out ((HB4.out).mono (Nat.le_refl _)))
            have z4 := HB4.out.size
            clear b4 P4 hsz m0 m1 m2 m3 m4
            cases ok
            · have HNO := Lib.hid (fw_no t x y (fun h => absurd (HOK.out.2 (by rw [HV.out] at h; exact ⟨h.2.2.2.2.1, h.2.2.2.2.2⟩)) (by decide)))
              go_wp2
              go_ret
              rw [HNO.out]
              exact ⟨_, rfl, HO4.out, HB4.out⟩
            · have HNO : Hid (fw [t, x, y] = [foldT V]) := Lib.hid (by rw [fw_yes t x y ⟨HK.out.1, HK.out.2, HX.out, HY.out, by rw [HV.out]; exact (HOK.out.1 rfl).1, by rw [HV.out]; exact (HOK.out.1 rfl).2⟩, HV.out])
              have HT := Lib.hid (tok_row (B := B) (T := 83) w4 (foldT V) (by omega))
              have HB5 : Hid (Below w.heap.size w (w4.alloc (.cells #[.int .i64 0, .int .i64 V, .string ⟨#[]⟩] 83))) := Lib.hid (HB4.out.alloc z4 _)
              go_wp2
              go_ret
              rw [HNO.out]
              exact ⟨_, rfl, HT.out, HB5.out⟩
        · have HNO := Lib.hid (fw_no t x y (fun h => hy h.2.2.2.1))
          have hd : (y.kind != 0) = true := by simpa using hy
          rw [hx] at m1
          clear hy hx
          go_enter Tryd.func66, Tryd.ntmps66
          go_wp2_with (first | (go_at_call 96; refine (SI.out _).mono ?_; rintro e w' ⟨rfl, rfl⟩))
          go_ret
          rw [HNO.out]
          exact ⟨_, rfl, HO.out, Below.refl _ _⟩
      · have HNO := Lib.hid (fw_no t x y (fun h => hx h.2.2.1))
        have hd : (x.kind != 0) = true := by simpa using hx
        clear hx
        go_enter Tryd.func66, Tryd.ntmps66
        go_wp2_with (first | (go_at_call 96; refine (SI.out _).mono ?_; rintro e w' ⟨rfl, rfl⟩))
        go_ret
        rw [HNO.out]
        exact ⟨_, rfl, HO.out, Below.refl _ _⟩
    · have SI : Hid (∀ W : World, Calls Tryd.prog 96 #[.int .i64 t.kind] W fun e w' => e = .returned (.bool false) ∧ W = w') := Lib.hid (fun W => by have := i_oper t.kind W; rw [show (decide (2 ≤ t.kind) && decide (t.kind ≤ 6)) = false from by rw [Bool.and_eq_false_iff]; by_cases h : 2 ≤ t.kind; exact .inr (decide_eq_false (fun h' => hk ⟨h, h'⟩)); exact .inl (decide_eq_false h)] at this; exact this)
      have HNO := Lib.hid (fw_no t x y (fun h => hk ⟨h.1, h.2.1⟩))
      clear hk
      go_enter Tryd.func66, Tryd.ntmps66
      go_wp2_with (first | (go_at_call 96; refine (SI.out _).mono ?_; rintro e w' ⟨rfl, rfl⟩))
      go_ret
      rw [HNO.out]
      exact ⟨_, rfl, HO.out, Below.refl _ _⟩
  · have HNO := Lib.hid (fw_len o h3)
    obtain ⟨N, hN⟩ : ∃ N, o.length = N := ⟨_, rfl⟩
    rw [hN] at HO h3 hl ⊢
    have HN := Lib.hid hN
    have hd : ((N : Int) != 3) = true := by simp; omega
    clear h3 hN
    go_enter Tryd.func66, Tryd.ntmps66
    go_wp2_with fail
    go_ret
    rw [HNO.out]
    exact ⟨_, rfl, by rw [HN.out]; exact HO.out, Below.refl _ _⟩
end Go.Proofs.YtcnnfhcpkbjolaaDoor

/-! The program's FoldExpr, with its closure that calls itself -/
namespace Go.Proofs.YtcnnfhcpkbjolaaDoor
open Go.RowKit Go.Lib

/-- The closure's two cells: the list, and itself. -/
structure FromAt (w : World) (a : Option Addr) (n cap cl cf : Nat) : Prop where
  list : w.cell? ⟨cl, 0, none⟩ = some (.slice a n cap)
  self : w.cell? ⟨cf, 0, none⟩ = some (.func (.func 64) #[] #[.pointer (some ⟨cl, 0, none⟩), .pointer (some ⟨cf, 0, none⟩)])
  listLt : cl < w.heap.size
  selfLt : cf < w.heap.size
theorem FromAt.below {w w' : World} {a : Option Addr} {n cap cl cf : Nat} (h : FromAt w a n cap cl cf) (hb : Below w.heap.size w w') : FromAt w' a n cap cl cf :=
  ⟨(hb.cell (p := ⟨cl, 0, none⟩) h.listLt).trans h.list, (hb.cell (p := ⟨cf, 0, none⟩) h.selfLt).trans h.self, Nat.lt_of_lt_of_le h.listLt hb.size, Nat.lt_of_lt_of_le h.selfLt hb.size⟩

set_option maxRecDepth 100000 in
set_option maxHeartbeats 4000000 in
theorem i_from (a : Option Addr) (cap : Nat) (l : List TokL) (cl cf : Nat) (hl : l.length ≤ 20) (hn : NamesI l) : ∀ (n i : Nat), l.length ≤ i + n → (∃ q, scanN (l.drop i) 1 = some q) → ∀ w : World, ReadT w a l → FromAt w a l.length cap cl cf →
    Calls Tryd.prog 64 #[.int .i64 (i : Int), .pointer (some ⟨cl, 0, none⟩), .pointer (some ⟨cf, 0, none⟩)] w (Toks 83 w.heap.size (foldE (l.drop i)) w) := by
  intro n
  induction n with
  | zero =>
    intro i hi hq
    obtain ⟨q, hq⟩ := hq
    rw [List.drop_eq_nil_of_le (by omega)] at hq
    cases hq
  | succ n ih =>
    intro i hin hq w hr hat
    obtain ⟨q, hq⟩ := hq
    obtain ⟨hil, htb, q', _, hargs⟩ := scan_one _ _ _ hq
    have hend : ¬ endZ l (i : Int) < 0 := by rw [endZ_nat, hq]; show ¬ (i : Int) + (q : Int) < 0; omega
    have hops := ops_at l (arN l[i]) (i + 1) q' hargs
    have har : arZ l[i] = ((arN l[i] : Nat) : Int) := by have := arZ_pos l[i] htb; unfold arN; omega
    have hoz := opsZ_some l i hend hil (arN l[i]) har
    have hfold := fold_at l i hil
    have hr4 : arN l[i] ≤ 4 := by have := (arZ_bd l[i]).2; omega
    have S := Lib.hid (fun W h => i_ops a cap l (i : Int) W (by omega) h hn (by omega))
    have hrl : (opsZ l (i : Int)).length = arN l[i] := by rw [hoz, opsFrom_length]
    rw [show ((i + 1 : Nat) : Int) = (i : Int) + 1 from by omega, ← hoz] at hops
    obtain ⟨R, hR⟩ : ∃ R, opsZ l (i : Int) = R := ⟨_, rfl⟩
    rw [hR] at hops hrl S
    obtain ⟨SG, hSG⟩ : ∃ SG, segs (l.drop (i + 1)) = SG := ⟨_, rfl⟩
    rw [hSG] at hops hfold
    have hlen : ∀ t j, (outF t SG j).length ≤ 21 := fun t j => by
      have := outF_len t (l.drop (i + 1)) j
      rw [hSG, List.length_drop] at this
      omega
    have HLEN := Lib.hid hlen
    have HOPS := Lib.hid hops
    have HFOLD := Lib.hid hfold
    have HIH := Lib.hid ih
    have HR := Lib.hid hr
    have HAT := Lib.hid hat
    have q0 := hat.list
    have q1 := hat.listLt
    obtain ⟨g, rfl, hg, c0, c1, c2⟩ := hr i hil
    obtain ⟨t, ht⟩ : ∃ t, l[i] = t := ⟨_, rfl⟩
    rw [ht] at c0 c1 c2 HOPS HFOLD hrl hr4
    have HRL := Lib.hid hrl
    have k0 : (0 : Int) ≤ (i : Int) := by omega
    have k1 : (i : Int) < (l.length : Int) := by omega
    obtain ⟨I0, hi, hz0, hz1, hz2⟩ := info_parts infoT
    clear hat ih hq hargs hend hoz hR hSG hops hfold hlen hr ht htb har hil hn hrl
    go_enter Tryd.func64, Tryd.ntmps64
    go_wp2_with fail
    have HB1 : Hid (Below w.heap.size w (w.alloc (.cells #[.int .i64 t.kind, .int .i64 t.num, .string t.name] 83))) := Lib.hid ((Below.refl _ _).alloc (Nat.le_refl _) _)
    have HO1 := Lib.hid (tok_row (T := 83) w t (Nat.le_refl w.heap.size))
    have hs1 : (w.alloc (.cells #[.int .i64 t.kind, .int .i64 t.num, .string t.name] 83)).heap.size = w.heap.size + 1 := by simp
    refine (S.out _ (HR.out.below HB1.out)).mono ?_
    rintro e w2 ⟨v0, rfl, O2, b2⟩
    obtain ⟨p0, d0, rfl⟩ := owns3_shape O2
    have HI2 := Lib.hid (owns_lower O2 (show w.heap.size ≤ _ by omega))
    have HO2 := Lib.hid (owns3_below HO1.out b2)
    have HB2 : Hid (Below w.heap.size w w2) := Lib.hid (HB1.out.trans (b2.mono (by omega)))
    clear b2 O2 HO1 HB1 hs1
    go_wp2_with fail
    go_loopw [5, 7, 17] (fun o _ k wr => ∃ j : Nat, j ≤ arN t ∧ k = .int .i64 (j : Int) ∧ wr.ownsRow w.heap.size 83 3 o (outF t SG j).length (toksV (outF t SG j)) ∧ wr.ownsRow w.heap.size 3 1 (.slice p0 R.length d0) R.length (intV R) ∧ Below w.heap.size w wr) (fun _ _ k _ => arN t - (RowKit.intOf k).toNat)
    case atStart => exact ⟨0, Nat.zero_le _, rfl, by rw [outF_zero]; exact HO2.out, HI2.out, HB2.out⟩
    case round =>
      obtain ⟨j, hj, rfl, hown, hint, hbel⟩ := hrel
      have HO := Lib.hid hown
      have HI := Lib.hid hint
      have HB := Lib.hid hbel
      have hB := hbel.size
      clear hown hint hbel
      by_cases hlt : j < arN t
      · obtain ⟨x, hx, hxq, hix, hxl, hnext⟩ := HOPS.out j hlt
        have hjR : j < R.length := by have := HRL.out; omega
        have hxe : R[j] = (x : Int) := by rw [List.getElem?_eq_getElem hjR] at hx; exact Option.some.inj hx
        obtain ⟨gi, rfl, hgi, ci⟩ := readI_of HI.out j hjR
        rw [hxe] at ci
        have CALL := Lib.hid (HIH.out x (by omega) hxq wr (HR.out.below HB.out) (HAT.out.below HB.out))
        have q2 := (HAT.out.below HB.out).self
        have hpos : 0 < (foldE (l.drop x)).length := by
          obtain ⟨q, hq⟩ := hxq
          have h1 := segs_scan _ 1 _ hq
          obtain ⟨rest, hrest⟩ := segs_head (l.drop x) (by omega)
          exact segs_pos (l.drop x) _ (by rw [hrest]; exact List.mem_cons_self ..)
        have hfl : (foldE (l.drop x)).length ≤ 20 := by have := foldE_len (l.drop x); rw [List.length_drop] at this; omega
        have HNX := Lib.hid (outF_next t SG j _ hnext)
        obtain ⟨X, hX⟩ : ∃ X, foldE (l.drop x) = X := ⟨_, rfl⟩
        rw [hX] at CALL hpos hfl HNX
        have hlen := HLEN.out t j
        have k2 : (0 : Int) ≤ (j : Int) := by omega
        have k3 : (j : Int) < (R.length : Int) := by omega
        clear hx hxe hnext hX hxq hjR
        go_wp2_with fail
        refine CALL.out.mono ?_
        rintro e w3 ⟨v3, rfl, O3, b3⟩
        obtain ⟨g3, cap3, rfl, hg3, hg3', n3⟩ := toks_src O3 hpos
        have HN3 := Lib.hid n3
        have HOa := Lib.hid (owns3_below HO.out b3)
        have HIa := Lib.hid (owns3_below HI.out b3)
        have HBa := Lib.hid (HB.out.trans (b3.mono hB))
        have za := HBa.out.size
        obtain ⟨Q, hQ⟩ : ∃ Q, outF t SG j = Q := ⟨_, rfl⟩
        rw [hQ] at HOa HNX hlen
        have h63 : Q.length + X.length ≤ maxLen := by unfold maxLen; omega
        have hby : (Q.length + X.length) * 32 ≤ 140737488355328 := by omega
        clear b3 O3 n3 ci hQ
        go_wp2_with (at_builtin; refine wpList_append_own _ rfl _ _ 46 rfl w.heap.size 83 I0 _ 3 32 Tryd.underlying46 hi hz0 hz1 hz2 rfl (by decide) _ _ _ rfl HOa.out ⟨g3, 0, none⟩ X.length cap3 (toksV X) rfl ?c0 HN3.out ?c2 h63 hby za ?_)
        case c0 => exact toksV_length X
        case c2 => exact toks_cells1 X
        intro v' w4 hown4 hgrow4 _
        have HO4 := Lib.hid (owns_toks (l := Q ++ X) hown4 (by rw [toksV_append]))
        have HI4 := Lib.hid (HIa.out.kept hgrow4 (rows_apart HIa.out HOa.out (by decide)))
        have HB4 : Hid (Below w.heap.size w w4) := Lib.hid (HBa.out.grown hgrow4 za (fun k hk => (HOa.out.lt k hk).1))
        clear hown4 hgrow4
        go_wp2
        go_roundw
        case rel => exact ⟨j + 1, by omega, by go_num, by rw [HNX.out]; exact HO4.out, HI4.out, HB4.out⟩
        case measure => simp [RowKit.intOf]; omega
      · have hjj : j = arN t := by omega
        subst hjj
        have hRl := HRL.out
        have c0' := (HB.out.cell (p := ⟨g, i * 3, none⟩) hg).trans c0
        have c1' := (HB.out.cell (p := ⟨g, i * 3 + 1, none⟩) hg).trans c1
        have c2' := (HB.out.cell (p := ⟨g, i * 3 + 2, none⟩) hg).trans c2
        have hlen := HLEN.out t (arN t)
        have HFW := Lib.hid (i_whole w.heap.size _ (outF t SG (arN t)) wr hB HO.out (by omega))
        clear c0' c1' c2' c0 c1 c2 hlt hj
        go_wp2_with fail
        refine HFW.out.mono ?_
        rintro e w5 ⟨v5, rfl, O5, b5⟩
        have HO5 := Lib.hid O5
        have HB5 : Hid (Below w.heap.size w w5) := Lib.hid (HB.out.trans (b5.mono hB))
        clear O5 b5
        go_wp2
        go_ret
        rw [HFOLD.out]
        exact ⟨_, rfl, HO5.out, HB5.out⟩

/-- What FoldExpr hands back: nothing, or the folded expression. -/
def foldV (l : List TokL) : List TokL := if exprB l = true then foldE l else []
set_option maxRecDepth 100000 in
set_option maxHeartbeats 1000000 in
theorem i_foldExpr (a : Option Addr) (cap : Nat) (l : List TokL) (w : World) (hl : l.length ≤ 1048576) (hr : ReadT w a l) (hn : NamesI l) :
    Calls Tryd.prog 31 #[.slice a l.length cap] w fun e w' => ∃ v, e = .returned v ∧ w'.ownsRow w.heap.size 83 3 v (foldV l).length (toksV (foldV l)) ∧ Below w.heap.size w w' ∧ (exprB l = false → v = .slice none 0 0) := by
  have HR := Lib.hid hr
  have HB0 : Hid (Below w.heap.size w (w.alloc (.cells #[.slice a l.length cap] 46))) := Lib.hid ((Below.refl _ _).alloc (Nat.le_refl _) _)
  have X0 := heap_alloc_new w (.cells #[.slice a l.length cap] 46)
  have hs0 : (w.alloc (.cells #[.slice a l.length cap] 46)).heap.size = w.heap.size + 1 := by simp
  have S := Lib.hid (i_exprok a cap l (w.alloc (.cells #[.slice a l.length cap] 46)) hl (hr.below HB0.out) hn)
  have e0 := (blk X0).1 0 _ rfl
  have HV : Hid (foldV l = if exprB l = true then foldE l else []) := Lib.hid rfl
  cases hb : exprB l with
  | false =>
    rw [hb] at S HV
    have HV' : Hid (foldV l = []) := Lib.hid HV.out
    clear hb hr hn X0 HV
    go_enter Tryd.func31, Tryd.ntmps31
    go_wp2_with fail
    refine S.out.mono ?_
    rintro e w1 ⟨rfl, b1⟩
    have HB : Hid (Below w.heap.size w w1) := Lib.hid (HB0.out.trans (b1.mono (by omega)))
    clear b1
    go_wp2
    go_ret
    rw [HV'.out]
    exact ⟨_, rfl, World.ownsRow_nil _ _ _ _, HB.out, fun _ => rfl⟩
  | true =>
    rw [hb] at S HV
    have HV' : Hid (foldV l = foldE l) := Lib.hid HV.out
    obtain ⟨h20, hsc⟩ := (exprB_scan l).1 hb
    have F := Lib.hid (fun W cl cf h h2 => i_from a cap l cl cf h20 hn l.length 0 (by omega) ⟨_, by rw [List.drop_zero]; exact hsc⟩ W h h2)
    rw [List.drop_zero] at F
    have X1 := Lib.hid X0
    clear hb hr hn hsc X0 HV
    go_enter Tryd.func31, Tryd.ntmps31
    go_wp2_with fail
    refine S.out.mono ?_
    rintro e w1 ⟨rfl, b1⟩
    have HB1 : Hid (Below w.heap.size w w1) := Lib.hid (HB0.out.trans (b1.mono (by omega)))
    have E0 := Lib.hid ((b1.block w.heap.size (by omega)).trans X1.out)
    have z1 := b1.size
    rw [hs0] at z1
    clear b1
    have hlt : w.heap.size < w1.heap.size := by omega
    have HBF : Hid (Below w1.heap.size w1 (w1.alloc (.cells #[.func (.func 64) #[] #[.pointer (some ⟨w.heap.size, 0, none⟩), .pointer (some ⟨w1.heap.size, 0, none⟩)]] 75))) := Lib.hid ((Below.refl _ _).alloc (Nat.le_refl _) _)
    have HF := Lib.hid (F.out (w1.alloc (.cells #[.func (.func 64) #[] #[.pointer (some ⟨w.heap.size, 0, none⟩), .pointer (some ⟨w1.heap.size, 0, none⟩)]] 75)) w.heap.size w1.heap.size (HR.out.below (HB1.out.alloc (by omega) _)) ⟨(blk ((HBF.out.block _ hlt).trans E0.out)).1 0 _ rfl, (blk (heap_alloc_new w1 _)).1 0 _ rfl, by have := HBF.out.size; omega, by simp⟩)
    have hsz : (w1.alloc (.cells #[.func (.func 64) #[] #[.pointer (some ⟨w.heap.size, 0, none⟩), .pointer (some ⟨w1.heap.size, 0, none⟩)]] 75)).heap.size = w1.heap.size + 1 := by simp
    go_wp2_with fail
    refine HF.out.mono ?_
    rintro e w2 ⟨v2, rfl, O2, b2⟩
    have HO2 := Lib.hid (owns_lower O2 (show w.heap.size ≤ _ by omega))
    have HB2 : Hid (Below w.heap.size w w2) := Lib.hid ((HB1.out.trans (HBF.out.mono (by omega))).trans (b2.mono (by omega)))
    clear O2 b2
    go_wp2
    go_ret
    rw [HV'.out]
    exact ⟨_, rfl, HO2.out, HB2.out, fun h => by cases h⟩
end Go.Proofs.YtcnnfhcpkbjolaaDoor
