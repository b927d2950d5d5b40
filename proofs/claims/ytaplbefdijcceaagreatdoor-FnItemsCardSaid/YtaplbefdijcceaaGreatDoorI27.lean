/- The program's FoldExpr, with its closure that calls itself. -/
import Derived.Test.YtaplbefdijcceaaGreatDoorI26
import Derived.Test.YtaplbefdijcceaaGreatDoorI06
import Derived.FnLit
import Derived.Laws.EntriesVeiled
namespace Go.Proofs.YtaplbefdijcceaaGreatDoor
open Go.RowKit Go.Lib
structure FromAt (w : World) (a : Option Addr) (n cap cl cf : Nat) : Prop where
  list : w.cell? ⟨cl, 0, none⟩ = some (.slice a n cap)
  self : w.cell? ⟨cf, 0, none⟩ = some (.func (.func 143) #[] #[.pointer (some ⟨cl, 0, none⟩), .pointer (some ⟨cf, 0, none⟩)])
  listLt : cl < w.heap.size
  selfLt : cf < w.heap.size
theorem FromAt.below {w w' : World} {a : Option Addr} {n cap cl cf : Nat} (h : FromAt w a n cap cl cf) (hb : Below w.heap.size w w') : FromAt w' a n cap cl cf :=
  ⟨(hb.cell (p := ⟨cl, 0, none⟩) h.listLt).trans h.list, (hb.cell (p := ⟨cf, 0, none⟩) h.selfLt).trans h.self, Nat.lt_of_lt_of_le h.listLt hb.size, Nat.lt_of_lt_of_le h.selfLt hb.size⟩
set_option maxRecDepth 100000 in
set_option maxHeartbeats 4000000 in
theorem i_from (a : Option Addr) (cap : Nat) (l : List TokL) (cl cf : Nat) (hl : l.length ≤ 20) (hn : NamesI l) : ∀ (n i : Nat), l.length ≤ i + n → (∃ q, scanN (l.drop i) 1 = some q) → ∀ w : World, ReadT w a l → FromAt w a l.length cap cl cf →
    Calls Tryz.prog 143 #[.int .i64 (i : Int), .pointer (some ⟨cl, 0, none⟩), .pointer (some ⟨cf, 0, none⟩)] w (Toks 49 w.heap.size (foldE (l.drop i)) w) := by
  intro n
  induction n with
  | zero =>
    intro i hi hq
    obtain ⟨q, hq⟩ := hq
    rw [List.drop_eq_nil_of_le (by omega)] at hq
    cases hq
  | succ n ih =>
    intro i hin hq w hr hat
    obtain ⟨q, hq⟩ := hq
    obtain ⟨hil, htb, q', _, hargs⟩ := scan_one _ _ _ hq
    have hend : ¬ endZ l (i : Int) < 0 := by rw [endZ_nat, hq]; show ¬ (i : Int) + (q : Int) < 0; omega
    have hops := ops_at l (arN l[i]) (i + 1) q' hargs
    have har : arZ l[i] = ((arN l[i] : Nat) : Int) := by have := arZ_pos l[i] htb; unfold arN; omega
    have hoz := opsZ_some l i hend hil (arN l[i]) har
    have hfold := fold_at l i hil
    have hr4 : arN l[i] ≤ 4 := by have := (arZ_bd l[i]).2; omega
    have S := hid (fun W h => i_ops a cap l (i : Int) W (by omega) h hn (by omega))
    have hrl : (opsZ l (i : Int)).length = arN l[i] := by rw [hoz, opsFrom_length]
    rw [show ((i + 1 : Nat) : Int) = (i : Int) + 1 from by omega, ← hoz] at hops
    obtain ⟨R, hR⟩ : ∃ R, opsZ l (i : Int) = R := ⟨_, rfl⟩
    rw [hR] at hops hrl S
    obtain ⟨SG, hSG⟩ : ∃ SG, segs (l.drop (i + 1)) = SG := ⟨_, rfl⟩
    rw [hSG] at hops hfold
    have hlen : ∀ t j, (outF t SG j).length ≤ 21 := fun t j => by
      have := outF_len t (l.drop (i + 1)) j
      rw [hSG, List.length_drop] at this
      omega
    have HLEN := hid hlen
    have HOPS := hid hops
    have HFOLD := hid hfold
    have HIH := hid ih
    have HR := hid hr
    have HAT := hid hat
    have q0 := hat.list
    have q1 := hat.listLt
    obtain ⟨g, rfl, hg, c0, c1, c2⟩ := hr i hil
    obtain ⟨t, ht⟩ : ∃ t, l[i] = t := ⟨_, rfl⟩
    rw [ht] at c0 c1 c2 HOPS HFOLD hrl hr4
    have HRL := hid hrl
    have k0 : (0 : Int) ≤ (i : Int) := by omega
    have k1 : (i : Int) < (l.length : Int) := by omega
    obtain ⟨I0, hi, hz0, hz1, hz2⟩ := info_parts infoT
    clear hat ih hq hargs hend hoz hR hSG hops hfold hlen hr ht htb har hil hn hrl
    go_enter Tryz.func143, Tryz.ntmps143
    go_wp2_with fail
    have HB1 : Hid (Below w.heap.size w (w.alloc (.cells #[.int .i64 t.kind, .int .i64 t.num, .string t.name] 49))) := hid ((Below.refl _ _).alloc (Nat.le_refl _) _)
    have HO1 := hid (tok_row (T := 49) w t (Nat.le_refl w.heap.size))
    have hs1 : (w.alloc (.cells #[.int .i64 t.kind, .int .i64 t.num, .string t.name] 49)).heap.size = w.heap.size + 1 := by simp
    refine (S.out _ (HR.out.below HB1.out)).mono ?_
    rintro e w2 ⟨v0, rfl, O2, b2⟩
    obtain ⟨p0, d0, rfl⟩ := owns3_shape O2
    have HI2 := hid (owns_lower O2 (show w.heap.size ≤ _ by omega))
    have HO2 := hid (owns3_below HO1.out b2)
    have HB2 : Hid (Below w.heap.size w w2) := hid (HB1.out.trans (b2.mono (by omega)))
    clear b2 O2 HO1 HB1 hs1
    go_wp2_with fail
    go_loopw [5, 7, 17] (fun o _ k wr => ∃ j : Nat, j ≤ arN t ∧ k = .int .i64 (j : Int) ∧ wr.ownsRow w.heap.size 49 3 o (outF t SG j).length (toksV (outF t SG j)) ∧ wr.ownsRow w.heap.size 3 1 (.slice p0 R.length d0) R.length (intV R) ∧ Below w.heap.size w wr) (fun _ _ k _ => arN t - (RowKit.intOf k).toNat)
    case atStart => exact ⟨0, Nat.zero_le _, rfl, by rw [outF_zero]; exact HO2.out, HI2.out, HB2.out⟩
    case round =>
      obtain ⟨j, hj, rfl, hown, hint, hbel⟩ := hrel
      have HO := hid hown
      have HI := hid hint
      have HB := hid hbel
      have hB := hbel.size
      clear hown hint hbel
      by_cases hlt : j < arN t
      · obtain ⟨x, hx, hxq, hix, hxl, hnext⟩ := HOPS.out j hlt
        have hjR : j < R.length := by have := HRL.out; omega
        have hxe : R[j] = (x : Int) := by rw [List.getElem?_eq_getElem hjR] at hx; exact Option.some.inj hx
        obtain ⟨gi, rfl, hgi, ci⟩ := readI_of HI.out j hjR
        rw [hxe] at ci
        have CALL := hid (HIH.out x (by omega) hxq wr (HR.out.below HB.out) (HAT.out.below HB.out))
        have q2 := (HAT.out.below HB.out).self
        have hpos : 0 < (foldE (l.drop x)).length := by
          obtain ⟨q, hq⟩ := hxq
          have h1 := segs_scan _ 1 _ hq
          obtain ⟨rest, hrest⟩ := segs_head (l.drop x) (by omega)
          exact segs_pos (l.drop x) _ (by rw [hrest]; exact List.mem_cons_self ..)
        have hfl : (foldE (l.drop x)).length ≤ 20 := by have := foldE_len (l.drop x); rw [List.length_drop] at this; omega
        have HNX := hid (outF_next t SG j _ hnext)
        obtain ⟨X, hX⟩ : ∃ X, foldE (l.drop x) = X := ⟨_, rfl⟩
        rw [hX] at CALL hpos hfl HNX
        have hlen := HLEN.out t j
        have k2 : (0 : Int) ≤ (j : Int) := by omega
        have k3 : (j : Int) < (R.length : Int) := by omega
        clear hx hxe hnext hX hxq hjR
        go_wp2_with fail
        refine CALL.out.mono ?_
        rintro e w3 ⟨v3, rfl, O3, b3⟩
        obtain ⟨g3, cap3, rfl, hg3, hg3', n3⟩ := toks_src O3 hpos
        have HN3 := hid n3
        have HOa := hid (owns3_below HO.out b3)
        have HIa := hid (owns3_below HI.out b3)
        have HBa := hid (HB.out.trans (b3.mono hB))
        have za := HBa.out.size
        obtain ⟨Q, hQ⟩ : ∃ Q, outF t SG j = Q := ⟨_, rfl⟩
        rw [hQ] at HOa HNX hlen
        have h63 : Q.length + X.length ≤ maxLen := by unfold maxLen; omega
        have hby : (Q.length + X.length) * 32 ≤ 140737488355328 := by omega
        clear b3 O3 n3 ci hQ
        go_wp2_with (at_builtin; refine wpList_append_own _ rfl _ _ 40 rfl w.heap.size 49 I0 _ 3 32 Tryz.underlying40 hi hz0 hz1 hz2 rfl (by decide) _ _ _ rfl HOa.out ⟨g3, 0, none⟩ X.length cap3 (toksV X) rfl ?c0 HN3.out ?c2 h63 hby za ?_)
        case c0 => exact toksV_length X
        case c2 => exact toks_cells1 X
        intro v' w4 hown4 hgrow4 _
        have HO4 := hid (owns_toks (l := Q ++ X) hown4 (by rw [toksV_append]))
        have HI4 := hid (HIa.out.kept hgrow4 (rows_apart HIa.out HOa.out (by decide)))
        have HB4 : Hid (Below w.heap.size w w4) := hid (HBa.out.grown hgrow4 za (fun k hk => (HOa.out.lt k hk).1))
        clear hown4 hgrow4
        go_wp2
        go_roundw
        case rel => exact ⟨j + 1, by omega, by go_num, by rw [HNX.out]; exact HO4.out, HI4.out, HB4.out⟩
        case measure => simp [RowKit.intOf]; omega
      · have hjj : j = arN t := by omega
        subst hjj
        have hRl := HRL.out
        have c0' := (HB.out.cell (p := ⟨g, i * 3, none⟩) hg).trans c0
        have c1' := (HB.out.cell (p := ⟨g, i * 3 + 1, none⟩) hg).trans c1
        have c2' := (HB.out.cell (p := ⟨g, i * 3 + 2, none⟩) hg).trans c2
        have hlen := HLEN.out t (arN t)
        have HFW := hid (i_whole w.heap.size _ (outF t SG (arN t)) wr hB HO.out (by omega))
        clear c0' c1' c2' c0 c1 c2 hlt hj
        go_wp2_with fail
        refine HFW.out.mono ?_
        rintro e w5 ⟨v5, rfl, O5, b5⟩
        have HO5 := hid O5
        have HB5 : Hid (Below w.heap.size w w5) := hid (HB.out.trans (b5.mono hB))
        clear O5 b5
        go_wp2
        go_ret
        rw [HFOLD.out]
        exact ⟨_, rfl, HO5.out, HB5.out⟩
def foldV (l : List TokL) : List TokL := if exprB l = true then foldE l else []
set_option maxRecDepth 100000 in
set_option maxHeartbeats 1000000 in
theorem i_foldExpr (a : Option Addr) (cap : Nat) (l : List TokL) (w : World) (hl : l.length ≤ 1048576) (hr : ReadT w a l) (hn : NamesI l) :
    Calls Tryz.prog 103 #[.slice a l.length cap] w fun e w' => ∃ v, e = .returned v ∧ w'.ownsRow w.heap.size 49 3 v (foldV l).length (toksV (foldV l)) ∧ Below w.heap.size w w' ∧ (exprB l = false → v = .slice none 0 0) := by
  have HR := hid hr
  have HB0 : Hid (Below w.heap.size w (w.alloc (.cells #[.slice a l.length cap] 40))) := hid ((Below.refl _ _).alloc (Nat.le_refl _) _)
  have X0 := heap_alloc_new w (.cells #[.slice a l.length cap] 40)
  have hs0 : (w.alloc (.cells #[.slice a l.length cap] 40)).heap.size = w.heap.size + 1 := by simp
  have S := hid (i_exprok a cap l (w.alloc (.cells #[.slice a l.length cap] 40)) hl (hr.below HB0.out) hn)
  have e0 := (blk X0).1 0 _ rfl
  have HV : Hid (foldV l = if exprB l = true then foldE l else []) := hid rfl
  cases hb : exprB l with
  | false =>
    rw [hb] at S HV
    have HV' : Hid (foldV l = []) := hid HV.out
    clear hb hr hn X0 HV
    go_enter Tryz.func103, Tryz.ntmps103
    go_wp2_with fail
    refine S.out.mono ?_
    rintro e w1 ⟨rfl, b1⟩
    have HB : Hid (Below w.heap.size w w1) := hid (HB0.out.trans (b1.mono (by omega)))
    clear b1
    go_wp2
    go_ret
    rw [HV'.out]
    exact ⟨_, rfl, World.ownsRow_nil _ _ _ _, HB.out, fun _ => rfl⟩
  | true =>
    rw [hb] at S HV
    have HV' : Hid (foldV l = foldE l) := hid HV.out
    obtain ⟨h20, hsc⟩ := (exprB_scan l).1 hb
    have F := hid (fun W cl cf h h2 => i_from a cap l cl cf h20 hn l.length 0 (by omega) ⟨_, by rw [List.drop_zero]; exact hsc⟩ W h h2)
    rw [List.drop_zero] at F
    have X1 := hid X0
    clear hb hr hn hsc X0 HV
    go_enter Tryz.func103, Tryz.ntmps103
    go_wp2_with fail
    refine S.out.mono ?_
    rintro e w1 ⟨rfl, b1⟩
    have HB1 : Hid (Below w.heap.size w w1) := hid (HB0.out.trans (b1.mono (by omega)))
    have E0 := hid ((b1.block w.heap.size (by omega)).trans X1.out)
    have z1 := b1.size
    rw [hs0] at z1
    clear b1
    have hlt : w.heap.size < w1.heap.size := by omega
    have HBF : Hid (Below w1.heap.size w1 (w1.alloc (.cells #[.func (.func 143) #[] #[.pointer (some ⟨w.heap.size, 0, none⟩), .pointer (some ⟨w1.heap.size, 0, none⟩)]] 170))) := hid ((Below.refl _ _).alloc (Nat.le_refl _) _)
    have HF := hid (F.out (w1.alloc (.cells #[.func (.func 143) #[] #[.pointer (some ⟨w.heap.size, 0, none⟩), .pointer (some ⟨w1.heap.size, 0, none⟩)]] 170)) w.heap.size w1.heap.size (HR.out.below (HB1.out.alloc (by omega) _)) ⟨(blk ((HBF.out.block _ hlt).trans E0.out)).1 0 _ rfl, (blk (heap_alloc_new w1 _)).1 0 _ rfl, by have := HBF.out.size; omega, by simp⟩)
    have hsz : (w1.alloc (.cells #[.func (.func 143) #[] #[.pointer (some ⟨w.heap.size, 0, none⟩), .pointer (some ⟨w1.heap.size, 0, none⟩)]] 170)).heap.size = w1.heap.size + 1 := by simp
    go_wp2_with fail
    refine HF.out.mono ?_
    rintro e w2 ⟨v2, rfl, O2, b2⟩
    have HO2 := hid (owns_lower O2 (show w.heap.size ≤ _ by omega))
    have HB2 : Hid (Below w.heap.size w w2) := hid ((HB1.out.trans (HBF.out.mono (by omega))).trans (b2.mono (by omega)))
    clear O2 b2
    go_wp2
    go_ret
    rw [HV'.out]
    exact ⟨_, rfl, HO2.out, HB2.out, fun h => by cases h⟩
end Go.Proofs.YtaplbefdijcceaaGreatDoor
