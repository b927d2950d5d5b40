/- The walk of the law on the items of compiled functions. -/
import Derived.Test.YtaplbefdijcceaaGreatDoorI03
import Derived.Test.YtaplbefdijcceaaGreatDoorI43
import Derived.Test.YtaplbefdijcceaaGreatDoorI46
import Derived.Test.YtaplbefdijcceaaGreatDoorI24
namespace Go.Proofs.YtaplbefdijcceaaGreatDoor.fnItems
open Go.RowKit Go.Lib
open Go.Proofs.YtaplbefdijcceaaGreatDoor.fnNoInline (ReadIt readIt_of)
theorem repl_all (inl : Nat) : IReplAll inl := fun B cb K pa pc PX fa fc wb hP hBw _ n hB => i_replace B cb K pa pc PX fa fc wb hP hBw n hB
def ReadI7 (w : World) (a : Option Addr) (L : List ItL) : Prop :=
 ∀ j (h : j < L.length), ∃ g xa xc, a = some ⟨g, 0, none⟩ ∧ g < w.heap.size ∧ w.cell? ⟨g, j * 7, none⟩ = some (.int .i64 L[j].code) ∧ w.cell? ⟨g, j * 7 + 1, none⟩ = some (.int .i64 L[j].arg) ∧ w.cell? ⟨g, j * 7 + 2, none⟩ = some (.int .i64 (L[j].line : Int)) ∧ w.cell? ⟨g, j * 7 + 3, none⟩ = some (.bool L[j].start) ∧ w.cell? ⟨g, j * 7 + 4, none⟩ = some (.slice xa L[j].chain.length xc) ∧ w.cell? ⟨g, j * 7 + 5, none⟩ = some (.int .i64 L[j].depth) ∧ w.cell? ⟨g, j * 7 + 6, none⟩ = some (.bool L[j].ent)
theorem ReadI7.below {w w' : World} {a : Option Addr} {L : List ItL} (h : ReadI7 w a L) (hb : Below w.heap.size w w') : ReadI7 w' a L := fun j hj => by
 obtain ⟨g, xa, xc, e, hg, c0, c1, c2, c3, c4, c5, c6⟩ := h j hj
 exact ⟨g, xa, xc, e, Nat.lt_of_lt_of_le hg hb.size, (hb.cell (p := ⟨g, _, none⟩) hg).trans c0, (hb.cell (p := ⟨g, _, none⟩) hg).trans c1, (hb.cell (p := ⟨g, _, none⟩) hg).trans c2, (hb.cell (p := ⟨g, _, none⟩) hg).trans c3, (hb.cell (p := ⟨g, _, none⟩) hg).trans c4, (hb.cell (p := ⟨g, _, none⟩) hg).trans c5, (hb.cell (p := ⟨g, _, none⟩) hg).trans c6⟩
theorem ReadI7.to {w : World} {a : Option Addr} {L : List ItL} (h : ReadI7 w a L) : ReadIt w a L := fun j hj => by
 obtain ⟨g, xa, xc, e, hg, c0, c1, c2, c3, c4, _⟩ := h j hj
 exact ⟨g, xa, xc, e, hg, c0, c1, c2, c3, c4⟩
theorem readI7_of {B c : Nat} {w : World} {a : Option Addr} {X : List ItW} {L : List ItL} (h : w.ownsRow B 37 7 (.slice a X.length c) X.length (itV X)) (hL : X.map (·.it) = L) (hm : MadeI 3 B w (chL X)) : ReadI7 w a L := by
 subst hL
 intro j hj
 have hj' : j < X.length := by simpa using hj
 rcases h.2 with ⟨he, h0⟩ | ⟨g, cap, cur, he, hB, hg, _⟩
 ·omega
 ·have ha : a = some ⟨g, 0, none⟩ := by injection he
  subst ha
  have hlt : g < w.heap.size := by
   rcases Nat.lt_or_ge g w.heap.size with h | h
   ·exact h
   ·rw [Array.getElem?_eq_none h] at hg; cases hg
  have hch := hm.1 ⟨natI X[j].it.chain, X[j].v⟩ (mem_chL.2 ⟨X[j], List.getElem_mem hj', rfl⟩)
  obtain ⟨xa, xc, e⟩ := own_sh hch
  have e' : X[j].v = .slice xa X[j].it.chain.length xc := by rw [← natI_length X[j].it.chain]; exact e
  have hl : (itV X).length = X.length * 7 := itV_length X
  have key : ∀ i, i < 7 → w.cell? ⟨g, j * 7 + i, none⟩ = (itC X[j])[i]? := fun i hi => by rw [h.cellAt _ (by omega)]; exact itV_at X j hj' i hi
  simp only [List.getElem_map]
  exact ⟨g, xa, xc, rfl, hlt, key 0 (by omega), key 1 (by omega), key 2 (by omega), key 3 (by omega), by rw [key 4 (by omega), ← e']; rfl, key 5 (by omega), key 6 (by omega)⟩
theorem i_varHead (a : Option Addr) (c : Nat) (L : List ItL) (w : World) (hr : ReadIt w a L) (h : HeadOk L) :
  Calls Tryz.prog 16 #[.slice a L.length c] w fun e w' => (∃ v : Int, 0 ≤ v ∧ e = .returned (.int .i64 v)) ∧ Below w.heap.size w w' := by
 obtain ⟨x, r, rfl, hc, h0⟩ := h
 obtain ⟨g, xa, xc, rfl, hg, c0, c1, c2, c3, c4⟩ := hr 0 (by simp)
 obtain ⟨n, hn⟩ : ∃ n, (x :: r).length = n := ⟨_, rfl⟩
 have hn1 : 1 ≤ n := by rw [← hn]; simp
 rw [hn]
 simp only [List.getElem_cons_zero, Nat.zero_mul, Nat.zero_add] at c0 c1
 generalize x.code = co at *
 generalize x.arg = ar at *
 clear c2 c3 c4 hr hn
 have n0 : ¬ (n : Int) = 0 := by omega
 have n1 : (0 : Int) < (n : Int) := by omega
 rcases hc with rfl | rfl
 all_goals
  go_enter Tryz.func16, Tryz.ntmps16
  go_wp2
  go_ret
  exact ⟨⟨ar, h0, rfl⟩, (Below.refl _ _).alloc (Nat.le_refl _) _⟩
theorem l_has (a : Option Addr) (c : Nat) (l : List Int) (k : Int) (w : World) (hr : ReadI w a l) (hl : l.length ≤ 1048576) (hm : k ∈ l) :
  Calls Tryz.prog 15 #[.slice a l.length c, .int .i64 k] w fun e w' => e = .returned (.bool true) ∧ Below w.heap.size w w' := by
 obtain ⟨n0, hn0, he0⟩ := List.mem_iff_getElem.1 hm
 have HR := Lib.hid hr
 clear hr hm
 go_enter Tryz.func15, Tryz.ntmps15
 go_wp2_with fail
 go_loopw [5] (fun i wr => ∃ q : Nat, q ≤ n0 ∧ i = .int .i64 (q : Int) ∧ Hid (Below w.heap.size w wr)) (fun i _ => n0 - (RowKit.intOf i).toNat)
 case atStart => exact ⟨0, Nat.zero_le _, rfl, Lib.hid (Below.refl _ _)⟩
 case round =>
  obtain ⟨q, hq, rfl, HB⟩ := hrel
  have k0 : (0 : Int) ≤ (q : Int) := by omega
  have k1 : (q : Int) < (l.length : Int) := by omega
  obtain ⟨g, rfl, hg, c0⟩ := (HR.out.below HB.out) q (by omega)
  by_cases he : l[q]'(by omega) = k
  ·rw [he] at c0
   clear he he0
   go_wp2
   go_ret
   exact ⟨rfl, HB.out⟩
  ·have hq2 : q < n0 := by
    rcases Nat.lt_or_ge q n0 with h | h
    ·exact h
    ·obtain rfl : q = n0 := by omega
     exact absurd he0 he
   generalize l[q] = y at *
   have hd : (y == k) = false := by simpa using he
   clear he0
   go_wp2
   go_roundw
   case rel => exact ⟨q + 1, by omega, by go_num, HB⟩
   case measure => simp [RowKit.intOf] <;> omega
set_option maxRecDepth 100000 in
set_option maxHeartbeats 8000000 in
theorem walk (a0 : Option Addr) (len0 cap0 : Nat) (z0 : List Int) (w : World) (w0 : IsRow .u8 w a0 len0 cap0 z0) (hL : laidMet Tryz.prog Rows.fnItemsRow.laid w) :
  Calls Tryz.prog 3 #[.slice a0 len0 cap0] w fun e w' => e = .returned (.bool true) ∧ Below w.heap.size w w' := by
 have HC := Lib.hid w0
 have HSH := Lib.hid (fun (W : World) (hb : Below w.heap.size w W) => (shapes_head hL).on hb)
 have hlen : len0 ≤ 9223372036854775807 := by
  rcases w0 with ⟨_, rfl, _, _⟩ | ⟨x, _, h1, h2, _⟩
  ·omega
  ·unfold maxLen at h2; omega
 clear hL w0
 by_cases hb : 1048576 < len0
 ·go_enter Tryz.func3, Tryz.ntmps3
  go_wp2_with fail
  refine (big_yes a0 len0 cap0 _ hb hlen).mono ?_
  rintro e w' ⟨rfl, rfl⟩
  go_wp2
  go_ret
  exact ⟨rfl, Below.refl _ _⟩
 have hb' : len0 ≤ 1048576 := by omega
 go_enter Tryz.func3, Tryz.ntmps3
 go_wp2_with fail
 refine (big_no a0 len0 cap0 _ hb').mono ?_
 rintro e w' ⟨rfl, rfl⟩
 go_wp2_with fail
 refine (d_build a0 len0 cap0 z0 _ HC.out hb').mono ?_
 rintro e w1 ⟨g, cp, X, fm, inl, fo, sp, fm2, inl2, fo2, sp2, rfl, HO1, HA1, hok, m0, m1, mi, _, _, _, b1⟩
 have R1 := Lib.hid (readL_of HO1.out HA1.out)
 have HB1 := Lib.hid b1
 have hcap := own_cap4 HO1.out
 have hxl := len_ok4 hok
 have HZ := Lib.hid (szal_ok4 hok)
 have HOK := Lib.hid hok
 have hs1 := b1.size
 have T2 := Lib.hid (two_new w1 (.cells #[.int .i64 fm, .int .i64 (inl : Int), .bool fo, .bool sp] 26) (.cells #[.int .i64 fm2, .int .i64 (inl2 : Int), .bool fo2, .bool sp2] 26))
 clear b1 hok
 obtain ⟨wa, hwa⟩ : ∃ W, (w1.alloc (.cells #[.int .i64 fm, .int .i64 (inl : Int), .bool fo, .bool sp] 26)).alloc (.cells #[.int .i64 fm2, .int .i64 (inl2 : Int), .bool fo2, .bool sp2] 26) = W := ⟨_, rfl⟩
 rw [hwa] at T2
 have HWA := Lib.hid hwa
 clear hwa
 obtain ⟨tt0, _, ttz, ttb⟩ := T2.out
 have PB := Lib.hid tt0
 have HBA : Hid (Below w.heap.size w wa) := Lib.hid (HB1.out.trans (ttb.mono hs1))
 have RA := Lib.hid (R1.out.below ttb)
 have hza := HBA.out.size
 have PO := Lib.hid (s_progOkB (some ⟨g, 0, none⟩) cp X wa (by omega) RA.out HZ.out)
 rw [(pokB_iff _).2 HOK.out] at PO
 clear tt0 ttz ttb T2
 go_wp2_with fail
 rw [HWA.out]
 refine PO.out.mono ?_
 rintro e w3 ⟨rfl, b2⟩
 have HB3 := Lib.hid (HBA.out.trans (b2.mono hza))
 have PB3 := Lib.hid ((b2.block _ (blk PB.out).2.2).trans PB.out)
 have HPR := Lib.hid (RA.out.below b2)
 clear b2 PO
 obtain ⟨pa, hpa⟩ : ∃ A, (some ⟨g, 0, none⟩ : Option Addr) = A := ⟨_, rfl⟩
 rw [hpa] at HPR ⊢
 clear hpa
 have CO : Hid (∀ q, ∀ hq : q < (funs (plL X)).length, ∃ L, ItsL (plL X) inl (funs (plL X))[q] L ∧ L.length ≤ 3000 ∧ ∀ W, Below w3.heap.size w3 W → Calls Tryz.prog 12 #[.slice pa X.length cp, .int .i64 (q : Int), .agg #[.int .i64 fm, .int .i64 (inl : Int), .bool fo, .bool sp]] W (CompR L W)) := Lib.hid (fun q hq => by
  obtain ⟨L, hL⟩ := comp_total (if fo = true then foldP (plL X) else plL X) (frB fm q) inl (funs (plL X))[q]
  refine ⟨L, its_ok HOK.out (List.getElem_mem hq) hL, ?_, fun W hW => ?_⟩
  ·cases fo with
   | false => exact comp_len HOK.out (List.getElem_mem hq) (by omega) hL
   | true => exact comp_len (ok_fold HOK.out) (by rw [funs_fold]; exact List.getElem_mem hq) (by omega) hL
  ·exact i_compile (repl_all inl) pa cp X (by omega) hcap W (HPR.out.below hW) HZ.out (HSH.out W (HB3.out.trans (hW.mono HB3.out.size))) HOK.out q hq _ rfl fm ⟨m0, m1⟩ mi fo sp L hL)
 have FL := Lib.hid (s_funLines pa cp X w3 (by omega) HPR.out)
 have EN := Lib.hid (fun (W : World) (hb : Below w3.heap.size w3 W) (k : Int) => s_endOf pa cp X k W (by omega) (HPR.out.below hb))
 have PB3r := Lib.hid (fun (W : World) (hb : Below w3.heap.size w3 W) => (hb.block _ (blk PB3.out).2.2).trans PB3.out)
 go_wp2_with fail
 refine FL.out.mono ?_
 rintro e w4 ⟨vf, rfl, HOF, b4⟩
 obtain ⟨fa, fc, rfl⟩ := owns_shape HOF
 have HRF := Lib.hid (readI_of HOF)
 have hfl : (funI (plL X)).length = (funs (plL X)).length := funI_length (plL X)
 have hfn : (funs (plL X)).length ≤ 6 := HOK.out.2.1.1
 have HB4 := Lib.hid b4
 have z4 := b4.size
 have HBW4 : Hid (Below w.heap.size w w4) := Lib.hid (HB3.out.trans (b4.mono HB3.out.size))
 clear b4 HOF FL
 obtain ⟨i0, hi, hz0, hz1, hz2⟩ := info_parts infoI4
 go_wp2_with fail
 go_loopw [7, 8, 9, 10, 11, 12] (fun f _ _ _ _ _ wr => ∃ q : Nat, q ≤ (funs (plL X)).length ∧ f = .int .i64 (q : Int) ∧ Hid (Below w4.heap.size w4 wr)) (fun f _ _ _ _ _ _ => (funs (plL X)).length - (RowKit.intOf f).toNat)
 case atStart => exact ⟨0, Nat.zero_le _, rfl, Lib.hid (Below.refl _ _)⟩
 case round =>
  obtain ⟨q, hq, rfl, HBR⟩ := hrel
  rename World => wb
  have HD := Lib.hid (HB4.out.trans (HBR.out.mono z4))
  have HBW := Lib.hid (HBW4.out.trans (HBR.out.mono HBW4.out.size))
  by_cases hlt : q < (funs (plL X)).length
  ·have k0 : (0 : Int) ≤ (q : Int) := by omega
   have k1 : (q : Int) < ((funI (plL X)).length : Int) := by omega
   obtain ⟨L, HN, hL3, CQ⟩ := CO.out q hlt
   have CQ := Lib.hid CQ
   have HN := Lib.hid HN
   obtain ⟨pb0, pb1, pb2, pb3⟩ := cells4 (PB3r.out wb HD.out)
   go_wp2_with fail
   refine (CQ.out _ HD.out).mono ?_
   rintro e w5 ⟨v5, X5, rfl, HO5, HX5, HM5, HB5⟩
   obtain ⟨xa, xc, rfl⟩ := own_sh HO5.out
   have hx5 : X5.length = L.length := by rw [← HX5, List.length_map]
   have RI := Lib.hid (readI7_of HO5.out HX5 HM5.out)
   rw [hx5]
   have HD5 := Lib.hid (HD.out.trans (HB5.out.mono HD.out.size))
   have HBW5 := Lib.hid (HBW.out.trans (HB5.out.mono HBW.out.size))
   have HBR5 := Lib.hid (HBR.out.trans (HB5.out.mono HBR.out.size))
   clear pb0 pb1 pb2 pb3 HO5 HX5 HM5 hx5
   go_wp2_with fail
   go_loopw [9, 10, 11] (fun v j _ wr => ∃ (k : Nat) (P : List Int), k ≤ L.length ∧ j = .int .i64 (k : Int) ∧ Hid (P = startsL (L.take k)) ∧ P.length ≤ k ∧ Hid (wr.ownsRow w5.heap.size 3 1 v P.length (intV P)) ∧ Hid (Below w5.heap.size w5 wr)) (fun _ j _ _ => L.length - (RowKit.intOf j).toNat)
   case atStart => exact ⟨0, [], Nat.zero_le _, rfl, Lib.hid (by rw [List.take_zero]; rfl), Nat.le_refl _, Lib.hid (World.ownsRow_lit w5 #[] 0 (Nat.le_refl _) (by decide) rfl), Lib.hid ((Below.refl _ _).alloc (Nat.le_refl _) _)⟩
   case round =>
    obtain ⟨k, P, hk, rfl, HP, hPk, HO, HK⟩ := hrel
    by_cases hkl : k < L.length
    ·obtain ⟨gi, ya, yc, hga, hgi, c0, c1, c2, c3, c4, c5, c6⟩ := (RI.out.below HK.out) k hkl
     have HI := HN.out.it _ (List.getElem_mem hkl)
     have HS := Lib.hid (startsL_snoc L k hkl)
     have j0 : (0 : Int) ≤ (k : Int) := by omega
     have j1 : (k : Int) < (L.length : Int) := by omega
     obtain ⟨pb0, pb1, pb2, pb3⟩ := cells4 (PB3r.out wr (HD5.out.trans (HK.out.mono HD5.out.size)))
     subst hga
     generalize L[k] = x at *
     obtain ⟨co, ar, li, st, ch, de, en⟩ := x
     dsimp only at c0 c1 c2 c3 c4 c5 c6 HS HI
     rw [← HP.out] at HS
     rw [plL_length] at HI
     obtain ⟨hi1, hi2, hi3⟩ := HI
     have hch : (ch = []) ↔ ch.length = 0 := List.length_eq_zero_iff.symm
     have HS2 : Hid (startsL (L.take (k + 1)) = P ++ (if st = true ∧ ch.length = 0 then [(li : Int)] else [])) := Lib.hid (by rw [HS.out]; simp only [hch])
     clear HS hch HP
     generalize ch.length = m at *
     have l0 : ¬ (li : Int) < 0 := by omega
     have l1 : ¬ (X.length : Int) ≤ (li : Int) := by omega
     have l2 : ¬ (inl : Int) < (m : Int) := by omega
     have NX := Lib.hid (heap_alloc_new wr (.cells #[.int .i64 co, .int .i64 ar, .int .i64 (li : Int), .bool st, .slice ya m yc, .int .i64 de, .bool en] 37))
     have BX : Hid (Below wr.heap.size wr (wr.alloc (.cells #[.int .i64 co, .int .i64 ar, .int .i64 (li : Int), .bool st, .slice ya m yc, .int .i64 de, .bool en] 37))) := Lib.hid ((Below.refl _ _).alloc (Nat.le_refl _) _)
     have OX := Lib.hid (HO.out.alloc (.cells #[.int .i64 co, .int .i64 ar, .int .i64 (li : Int), .bool st, .slice ya m yc, .int .i64 de, .bool en] 37))
     obtain ⟨wx, hwx⟩ : ∃ W, wr.alloc (.cells #[.int .i64 co, .int .i64 ar, .int .i64 (li : Int), .bool st, .slice ya m yc, .int .i64 de, .bool en] 37) = W := ⟨_, rfl⟩
     rw [hwx] at NX BX OX
     have HWX := Lib.hid hwx
     have HKX := Lib.hid (HK.out.trans (BX.out.mono HK.out.size))
     clear hwx
     go_upto_region 16 with fail
     rw [HWX.out]
     clear c0 c1 c2 c3 c4 c5 c6 pb0 pb1 pb2 pb3
     obtain ⟨pb0, pb1, pb2, pb3⟩ := cells4 (PB3r.out wx (HD5.out.trans (HKX.out.mono HD5.out.size)))
     have x0 : wx.cell? ⟨wr.heap.size, 0, none⟩ = some (.int .i64 co) := (blk NX.out).1 0 _ rfl
     have x1 : wx.cell? ⟨wr.heap.size, 1, none⟩ = some (.int .i64 ar) := (blk NX.out).1 1 _ rfl
     have x2 : wx.cell? ⟨wr.heap.size, 2, none⟩ = some (.int .i64 (li : Int)) := (blk NX.out).1 2 _ rfl
     have x3 : wx.cell? ⟨wr.heap.size, 3, none⟩ = some (.bool st) := (blk NX.out).1 3 _ rfl
     have x4 : wx.cell? ⟨wr.heap.size, 4, none⟩ = some (.slice ya m yc) := (blk NX.out).1 4 _ rfl
     have HC3 : Hid (co = 10 ∨ co = 11 ∨ (co ≠ 10 ∧ co ≠ 11)) := Lib.hid (by omega)
     rcases HC3.out with rfl | rfl | ⟨q10, q11⟩
     ·have a0 : 0 ≤ ar := (hi1 (.inl rfl)).1
      have a1 := (hi1 (.inl rfl)).2
      have a2 : ¬ ar < 0 := by omega
      have a3 : ¬ (L.length : Int) ≤ ar := by omega
      go_upto_region 18 with fail
      by_cases hs : st = true ∧ m = 0
      ·obtain ⟨rfl, rfl⟩ := hs
       have HN2 : Hid (P ++ [(li : Int)] = startsL (L.take (k + 1))) := Lib.hid (by rw [HS2.out, if_pos ⟨rfl, rfl⟩])
       have h63 : P.length + 1 ≤ maxLen := by unfold maxLen; omega
       have hby : (P.length + 1) * 8 ≤ 140737488355328 := by omega
       clear HS2
       go_wp2_with (at_builtin; refine wpList_append_own _ rfl _ _ 32 rfl w5.heap.size 3 i0 (.int .i64 0) 1 8 Tryz.underlying32 hi hz0 hz1 hz2 rfl (by decide) _ _ _ rfl (OX.out.alloc _) ⟨wx.heap.size, 0, none⟩ 1 1 [.int .i64 (li : Int)] rfl rfl ?c1 ?c2 h63 hby ?c5 ?_)
       all_goals (try exact cell_one_new _ _ _)
       case c2 => rfl
       case c5 => have := HKX.out.size; omega
       intro v' w6 hown1 hgrow _
       have HO4 := Lib.hid (owns_ints (l := P ++ [(li : Int)]) hown1 (by rw [intV_append]; rfl))
       have HB4' := Lib.hid (below_app4 OX.out HKX.out HKX.out.size hgrow)
       clear hown1 hgrow
       go_wp2
       go_roundw
       case rel => exact ⟨k + 1, P ++ [(li : Int)], by omega, by go_num, HN2, by simp; omega, HO4, HB4'⟩
       case measure => simp [RowKit.intOf] <;> omega
      ·have HN2 : Hid (P = startsL (L.take (k + 1))) := Lib.hid (by rw [HS2.out, if_neg hs, List.append_nil])
       clear HS2
       cases st with
       | false =>
        clear hs
        go_wp2
        go_roundw
        case rel => exact ⟨k + 1, P, by omega, by go_num, HN2, by omega, OX, HKX⟩
        case measure => simp [RowKit.intOf] <;> omega
       | true =>
        have m0 : m ≠ 0 := fun e => hs ⟨rfl, e⟩
        have m2 : ((m : Int) == 0) = false := by simpa using m0
        clear hs
        go_wp2
        go_roundw
        case rel => exact ⟨k + 1, P, by omega, by go_num, HN2, by omega, OX, HKX⟩
        case measure => simp [RowKit.intOf] <;> omega
     ·have a0 : 0 ≤ ar := (hi1 (.inr rfl)).1
      have a1 := (hi1 (.inr rfl)).2
      have a2 : ¬ ar < 0 := by omega
      have a3 : ¬ (L.length : Int) ≤ ar := by omega
      go_upto_region 18 with fail
      by_cases hs : st = true ∧ m = 0
      ·obtain ⟨rfl, rfl⟩ := hs
       have HN2 : Hid (P ++ [(li : Int)] = startsL (L.take (k + 1))) := Lib.hid (by rw [HS2.out, if_pos ⟨rfl, rfl⟩])
       have h63 : P.length + 1 ≤ maxLen := by unfold maxLen; omega
       have hby : (P.length + 1) * 8 ≤ 140737488355328 := by omega
       clear HS2
       go_wp2_with (at_builtin; refine wpList_append_own _ rfl _ _ 32 rfl w5.heap.size 3 i0 (.int .i64 0) 1 8 Tryz.underlying32 hi hz0 hz1 hz2 rfl (by decide) _ _ _ rfl (OX.out.alloc _) ⟨wx.heap.size, 0, none⟩ 1 1 [.int .i64 (li : Int)] rfl rfl ?c1 ?c2 h63 hby ?c5 ?_)
       all_goals (try exact cell_one_new _ _ _)
       case c2 => rfl
       case c5 => have := HKX.out.size; omega
       intro v' w6 hown1 hgrow _
       have HO4 := Lib.hid (owns_ints (l := P ++ [(li : Int)]) hown1 (by rw [intV_append]; rfl))
       have HB4' := Lib.hid (below_app4 OX.out HKX.out HKX.out.size hgrow)
       clear hown1 hgrow
       go_wp2
       go_roundw
       case rel => exact ⟨k + 1, P ++ [(li : Int)], by omega, by go_num, HN2, by simp; omega, HO4, HB4'⟩
       case measure => simp [RowKit.intOf] <;> omega
      ·have HN2 : Hid (P = startsL (L.take (k + 1))) := Lib.hid (by rw [HS2.out, if_neg hs, List.append_nil])
       clear HS2
       cases st with
       | false =>
        clear hs
        go_wp2
        go_roundw
        case rel => exact ⟨k + 1, P, by omega, by go_num, HN2, by omega, OX, HKX⟩
        case measure => simp [RowKit.intOf] <;> omega
       | true =>
        have m0 : m ≠ 0 := fun e => hs ⟨rfl, e⟩
        have m2 : ((m : Int) == 0) = false := by simpa using m0
        clear hs
        go_wp2
        go_roundw
        case rel => exact ⟨k + 1, P, by omega, by go_num, HN2, by omega, OX, HKX⟩
        case measure => simp [RowKit.intOf] <;> omega
     ·have d0 : (co == 10) = false := by simpa using q10
      have d1 : (co == 11) = false := by simpa using q11
      clear hi1
      go_upto_region 18 with fail
      by_cases hs : st = true ∧ m = 0
      ·obtain ⟨rfl, rfl⟩ := hs
       have HN2 : Hid (P ++ [(li : Int)] = startsL (L.take (k + 1))) := Lib.hid (by rw [HS2.out, if_pos ⟨rfl, rfl⟩])
       have h63 : P.length + 1 ≤ maxLen := by unfold maxLen; omega
       have hby : (P.length + 1) * 8 ≤ 140737488355328 := by omega
       clear HS2
       go_wp2_with (at_builtin; refine wpList_append_own _ rfl _ _ 32 rfl w5.heap.size 3 i0 (.int .i64 0) 1 8 Tryz.underlying32 hi hz0 hz1 hz2 rfl (by decide) _ _ _ rfl (OX.out.alloc _) ⟨wx.heap.size, 0, none⟩ 1 1 [.int .i64 (li : Int)] rfl rfl ?c1 ?c2 h63 hby ?c5 ?_)
       all_goals (try exact cell_one_new _ _ _)
       case c2 => rfl
       case c5 => have := HKX.out.size; omega
       intro v' w6 hown1 hgrow _
       have HO4 := Lib.hid (owns_ints (l := P ++ [(li : Int)]) hown1 (by rw [intV_append]; rfl))
       have HB4' := Lib.hid (below_app4 OX.out HKX.out HKX.out.size hgrow)
       clear hown1 hgrow
       go_wp2
       go_roundw
       case rel => exact ⟨k + 1, P ++ [(li : Int)], by omega, by go_num, HN2, by simp; omega, HO4, HB4'⟩
       case measure => simp [RowKit.intOf] <;> omega
      ·have HN2 : Hid (P = startsL (L.take (k + 1))) := Lib.hid (by rw [HS2.out, if_neg hs, List.append_nil])
       clear HS2
       cases st with
       | false =>
        clear hs
        go_wp2
        go_roundw
        case rel => exact ⟨k + 1, P, by omega, by go_num, HN2, by omega, OX, HKX⟩
        case measure => simp [RowKit.intOf] <;> omega
       | true =>
        have m0 : m ≠ 0 := fun e => hs ⟨rfl, e⟩
        have m2 : ((m : Int) == 0) = false := by simpa using m0
        clear hs
        go_wp2
        go_roundw
        case rel => exact ⟨k + 1, P, by omega, by go_num, HN2, by omega, OX, HKX⟩
        case measure => simp [RowKit.intOf] <;> omega
    ·obtain rfl : k = L.length := by omega
     have j1 : ¬ ((L.length : Int) < (L.length : Int)) := by omega
     have HPA : Hid (P = startsL L) := Lib.hid (by rw [HP.out, List.take_length])
     obtain ⟨sa, sc, rfl⟩ := owns_shape HO.out
     have HRS := Lib.hid (readI_of HO.out)
     have hP3 : P.length ≤ 3000 := by omega
     obtain ⟨hgl, hk0, hge, hel, _⟩ := fun_parts HOK.out (List.getElem_mem hlt)
     obtain ⟨gf, hfa, hgf, cf⟩ := (HRF.out.below (HBR5.out.trans (HK.out.mono HBR5.out.size))) q (by omega)
     have hfq : (funI (plL X))[q]'(by omega) = ((funs (plL X))[q] : Int) := by unfold funI; simp
     rw [hfq] at cf
     subst hfa
     obtain ⟨G, hG⟩ : ∃ n, (funs (plL X))[q] = n := ⟨_, rfl⟩
     simp only [hG] at cf hgl hk0 hge hel HN
     obtain ⟨EE, hEE⟩ := Int.eq_ofNat_of_zero_le (show 0 ≤ beZ (plL X) (G : Int) by omega)
     have ENG := Lib.hid (fun (W : World) (hb : Below w3.heap.size w3 W) => EN.out W hb (G : Int))
     rw [hEE] at ENG hge hel
     have HST : Hid (∀ j (h : j < (plL X).length), G < j → j < EE → (plL X)[j].expr ≠ [] → (j : Int) ∈ startsL L) := Lib.hid (fun j h h1 h2 h3 => HN.out.st j h h1 (by rw [hEE]; omega) h3)
     have HDK := Lib.hid (HD5.out.trans (HK.out.mono HD5.out.size))
     have HBWK := Lib.hid (HBW5.out.trans (HK.out.mono HBW5.out.size))
     have HBRK := Lib.hid (HBR5.out.trans (HK.out.mono HBR5.out.size))
     obtain ⟨wk, hwk⟩ : ∃ W, wr = W := ⟨_, rfl⟩
     rw [hwk] at cf hgf HK HDK HBWK HBRK HRS ⊢
     have CF := Lib.hid (fun (W : World) (hb : Below wk.heap.size wk W) => (hb.cell (p := ⟨gf, q, none⟩) hgf).trans cf)
     have HPX : Hid (X.length = (plL X).length) := Lib.hid (plL_length X).symm
     have hEl : EE < X.length := by have := HPX.out; omega
     have HHD := Lib.hid HN.out.hd
     have hn3 : 3 ≤ L.length := HN.out.n3
     clear j1 hG hEE hwk hk0 CQ hfq HP HO HN
     go_wp2_with fail
     clear cf
     go_loopw [12] (fun k wr => ∃ k2 : Nat, G < k2 ∧ k2 ≤ EE ∧ k = .int .i64 (k2 : Int) ∧ Hid (Below wk.heap.size wk wr)) (fun k _ => EE - (RowKit.intOf k).toNat)
     case atStart => exact ⟨G + 1, by omega, by omega, by go_num, Lib.hid (Below.refl _ _)⟩
     case round =>
      obtain ⟨k2, hk2, hk3, rfl, HK2⟩ := hrel
      rename World => wc
      have cf := CF.out wc HK2.out
      have HD2 := Lib.hid (HDK.out.trans (HK2.out.mono HDK.out.size))
      have EQ := Lib.hid (ENG.out wc HD2.out)
      go_wp2_with fail
      refine EQ.out.mono ?_
      rintro e wd ⟨rfl, bd⟩
      have HKd : Hid (Below wk.heap.size wk wd) := Lib.hid (HK2.out.trans (bd.mono HK2.out.size))
      have HD3 := Lib.hid (HDK.out.trans (HKd.out.mono HDK.out.size))
      clear bd cf EQ
      by_cases hkE : k2 < EE
      ·have j1 : (k2 : Int) < (EE : Int) := by omega
       have hkx : k2 < X.length := by omega
       have hkp : k2 < (plL X).length := by have := HPX.out; omega
       obtain ⟨gp, hpa, hgp, ⟨_, _, _, c3⟩, hm⟩ := (HPR.out.below HD3.out) k2 hkx
       obtain ⟨xa1, xb1, xc1, xd1, ea, ee, _, hrt, _, _⟩ := inMem_shape hm
       rw [ee] at c3
       have hpe : (plL X)[k2].expr = X[k2].expr := by rw [pl_at X k2 hkx hkp]; rfl
       have hmx := HST.out k2 hkp hk2 hkE
       rw [hpe] at hmx
       have p0 : (0 : Int) ≤ (k2 : Int) := by omega
       have p1 : (k2 : Int) < (X.length : Int) := by omega
       have hex : X[k2].expr.length ≤ 20 := by
        have := ok_expr HOK.out hkp
        rw [hpe] at this
        rcases this with h | h
        ·rw [h]; simp
        ·exact (expr_len _ h).2
       subst hpa
       generalize X[k2].expr = ex at *
       clear hm ea ee hrt hpe
       by_cases he0 : ex.length = 0
       ·rw [he0] at c3
        clear hmx
        go_wp2_with fail
        go_roundw
        case rel => exact ⟨k2 + 1, by omega, by omega, by go_num, HKd⟩
        case measure => simp [RowKit.intOf] <;> omega
       ·have he1 : (0 : Int) < (ex.length : Int) := by omega
        have HAS := Lib.hid (l_has sa sc P (k2 : Int) wd (HRS.out.below HKd.out) (by omega) (by rw [HPA.out]; exact hmx (fun e => he0 (by rw [e]; rfl))))
        clear hmx
        go_wp2_with fail
        refine HAS.out.mono ?_
        rintro e we ⟨rfl, be⟩
        have HKe : Hid (Below wk.heap.size wk we) := Lib.hid (HKd.out.trans (be.mono HKd.out.size))
        clear be
        go_wp2_with fail
        go_roundw
        case rel => exact ⟨k2 + 1, by omega, by omega, by go_num, HKe⟩
        case measure => simp [RowKit.intOf] <;> omega
      ·obtain rfl : k2 = EE := by omega
       have j1 : ¬ (k2 : Int) < (k2 : Int) := by omega
       have VH := Lib.hid (i_varHead xa xc L wd ((RI.out.below (HK.out.trans (HKd.out.mono HK.out.size))).to) HHD.out)
       go_wp2_with fail
       refine VH.out.mono ?_
       rintro e we ⟨⟨v, hv0, rfl⟩, be⟩
       have HBRd : Hid (Below w4.heap.size w4 we) := Lib.hid (HBRK.out.trans ((HKd.out.trans (be.mono HKd.out.size)).mono HBRK.out.size))
       have hv1 : ¬ v < 0 := by omega
       have hn4 : ¬ (L.length : Int) < 3 := by omega
       clear be
       go_wp2_with fail
       go_roundw
       case rel => exact ⟨q + 1, by omega, by go_num, HBRd⟩
       case measure => simp [RowKit.intOf] <;> omega
  ·have k1 : ¬ ((q : Int) < ((funI (plL X)).length : Int)) := by omega
   have BO := Lib.hid (fun W => i_buildOk fm (inl : Int) fo sp W)
   have hbb : bldB fm (inl : Int) = true := by unfold bldB; simp; omega
   rw [hbb] at BO
   obtain ⟨pb0, pb1, pb2, pb3⟩ := cells4 (PB3r.out wb HD.out)
   go_wp2_with fail
   refine (BO.out _).mono ?_
   rintro e w9 ⟨rfl, b9⟩
   go_wp2
   go_ret
   exact ⟨rfl, HBW.out.trans (b9.mono HBW.out.size)⟩
end Go.Proofs.YtaplbefdijcceaaGreatDoor.fnItems
