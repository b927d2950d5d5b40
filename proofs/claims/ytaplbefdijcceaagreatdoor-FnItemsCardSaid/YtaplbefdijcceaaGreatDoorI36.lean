/- The model's copies of a row of lines, and its FoldProgram; The program's FoldProgram. -/
import Derived.Test.YtaplbefdijcceaaGreatDoorI07
import Derived.Test.YtaplbefdijcceaaGreatDoorI29
import Derived.Test.YtaplbefdijcceaaGreatDoorI02
import Derived.Test.YtaplbefdijcceaaGreatDoorI34
import Derived.Test.YtaplbefdijcceaaGreatDoorI35
import Derived.Test.YtaplbefdijcceaaGreatDoorI27
import Derived.Test.YtaplbefdijcceaaGreatDoorI06
import Derived.Deep.RegionHeld3
namespace Go.Proofs.YtaplbefdijcceaaGreatDoor
open Go.RowKit Go.Lib
theorem plL_app (X Y : List LnL) : plL (X ++ Y) = plL X ++ plL Y := by simp [plL]
theorem ok_expr {p : List PLine} (h : OkI p) {j : Nat} (hj : j < p.length) : p[j].expr = [] ∨ exprB p[j].expr = true := line_expr _ (h.1.2 _ (List.getElem_mem hj))
end Go.Proofs.YtaplbefdijcceaaGreatDoor

namespace Go.Proofs.YtaplbefdijcceaaGreatDoor
open Go.RowKit Go.Lib
theorem undrF {B : Nat} {w w' : World} (h : Below B w.drew w') : Below B w w' := ⟨h.os, h.tape, h.output, h.size, h.block⟩
theorem foldV_fold (l : List TokL) (h : l = [] ∨ exprB l = true) : foldV l = foldE l := by
  unfold foldV
  rcases h with rfl | h
  · rfl
  · rw [if_pos h]
theorem foldP_take' (p : List PLine) (k : Nat) (h : k < p.length) : foldP (p.take (k + 1)) = foldP (p.take k) ++ [foldL p[k]] := by
  rw [List.take_succ_eq_append_getElem h]
  unfold foldP
  rw [List.map_append]
  rfl
theorem far_cell {w : World} {b c i j : Nat} {u v : Value} (hne : b ≠ c) (h : w.cell? ⟨b, i, none⟩ = some v) : (w.setCell ⟨c, j, none⟩ u).cell? ⟨b, i, none⟩ = some v := (World.cell?_of_block (a := ⟨b, i, none⟩) (set_other hne)).trans h
theorem far_cells {w : World} {b c j0 j1 j2 j3 : Nat} {u0 u1 u2 u3 v0 v1 v2 v3 : Value} (hne : b ≠ c) (h : w.cell? ⟨b, 0, none⟩ = some v0 ∧ w.cell? ⟨b, 1, none⟩ = some v1 ∧ w.cell? ⟨b, 2, none⟩ = some v2 ∧ w.cell? ⟨b, 3, none⟩ = some v3) :
    ((((w.setCell ⟨c, j0, none⟩ u0).setCell ⟨c, j1, none⟩ u1).setCell ⟨c, j2, none⟩ u2).setCell ⟨c, j3, none⟩ u3).cell? ⟨b, 0, none⟩ = some v0 ∧ ((((w.setCell ⟨c, j0, none⟩ u0).setCell ⟨c, j1, none⟩ u1).setCell ⟨c, j2, none⟩ u2).setCell ⟨c, j3, none⟩ u3).cell? ⟨b, 1, none⟩ = some v1 ∧
    ((((w.setCell ⟨c, j0, none⟩ u0).setCell ⟨c, j1, none⟩ u1).setCell ⟨c, j2, none⟩ u2).setCell ⟨c, j3, none⟩ u3).cell? ⟨b, 2, none⟩ = some v2 ∧ ((((w.setCell ⟨c, j0, none⟩ u0).setCell ⟨c, j1, none⟩ u1).setCell ⟨c, j2, none⟩ u2).setCell ⟨c, j3, none⟩ u3).cell? ⟨b, 3, none⟩ = some v3 :=
  ⟨far_cell hne (far_cell hne (far_cell hne (far_cell hne h.1))), far_cell hne (far_cell hne (far_cell hne (far_cell hne h.2.1))), far_cell hne (far_cell hne (far_cell hne (far_cell hne h.2.2.1))), far_cell hne (far_cell hne (far_cell hne (far_cell hne h.2.2.2)))⟩
set_option maxRecDepth 100000 in
set_option maxHeartbeats 4000000 in
theorem i_foldProgram (a : Option Addr) (cap : Nat) (X0 : List LnL) (w : World) (hl : X0.length ≤ 1048576) (hcap : X0.length ≤ cap) (hr : ReadL 9 49 w a X0) (hz : SzAl X0) (hsh : Shapes w) :
    Calls Tryz.prog 50 #[.slice a X0.length cap] w (LnsRes 42 9 49 w.heap.size (if pokB (plL X0) = true then foldP (plL X0) else []) w) := by
  have S := hid (i_progOkB a cap X0 w hl hcap hr hz hsh)
  have HR := hid hr
  have hpl := plL_length X0
  have HZX := hid hz
  have HAT := hid (fun (j : Nat) (h : j < X0.length) (h' : j < (plL X0).length) => pl_at X0 j h h')
  clear hr hz hsh
  obtain ⟨p, hp⟩ : ∃ p, plL X0 = p := ⟨_, rfl⟩
  rw [hp] at S hpl
  have HP := hid hp
  have HATP : Hid (∀ (j : Nat) (h : j < X0.length) (h' : j < p.length), p[j] = X0[j].p) := hid (by subst hp; exact HAT.out)
  rw [hp]
  clear hp HAT
  cases hb : pokB p with
  | false =>
    rw [hb] at S
    clear hb
    go_enter Tryz.func50, Tryz.ntmps50
    go_wp2_with fail
    refine S.out.mono ?_
    rintro e w1 ⟨rfl, b1⟩
    have HB := hid b1
    clear b1
    go_wp2
    go_ret
    exact ⟨_, [], rfl, World.ownsRow_nil _ _ _ _, Made.nil _ _ _ _, rfl, HB.out⟩
  | true =>
    rw [hb] at S
    have HOK := hid ((pokB_iff p).1 hb)
    have h60 := HOK.out.1.1
    clear hb
    obtain ⟨i0, hi, hz0, hz1, hz2⟩ := info_parts infoLn
    have hmk := fun W => run_make_rowN (P := Tryz.prog) 24 42 i0 _ 4 72 Tryz.underlying24 hi hz0 hz1 hz2 .i64 .i64 X0.length X0.length (Nat.le_refl _) (by omega) (by omega) W
    obtain ⟨cs, hcs⟩ : ∃ cs, madeCells (Value.agg #[.int .i64 0, .string ⟨#[]⟩, .slice none 0 0, .slice none 0 0]).cells (X0.length * 4) = cs := ⟨_, rfl⟩
    have hcsz : cs.size = X0.length * 4 := by rw [← hcs, size_madeCells]
    rw [hcs] at hmk
    clear hcs hi hz0 hz1 hz2
    have HZ := hid hcsz
    clear hcsz
    go_enter Tryz.func50, Tryz.ntmps50
    go_wp2_with fail
    refine S.out.mono ?_
    rintro e w1 ⟨rfl, b1⟩
    have HB1 := hid b1
    have z1 := b1.size
    clear b1
    obtain ⟨n, hn⟩ : ∃ n, X0.length = n := ⟨_, rfl⟩
    rw [hn] at hpl hmk HZ
    have HN := hid hn
    have HPN := hid hpl
    have hn6 : n ≤ 60 := by omega
    rw [hn]
    clear hn hpl h60
    go_wp2_with fail
    clear hmk
    go_loopw [4, 5, 14] (fun _ _ i wr => ∃ (k : Nat) (X : List LnL) (R : List Value), k ≤ n ∧ i = .int .i64 (k : Int) ∧ R.length = (n - k) * 4 ∧ X.length = k ∧ Hid (plL X = foldP (p.take k)) ∧ Made 9 49 w.heap.size wr X ∧ wr.ownsRow w.heap.size 42 4 (.slice (some ⟨w1.heap.size, 0, none⟩) n n) n (lnsV X ++ R) ∧ Below w.heap.size w wr) (fun _ _ i _ => n - (RowKit.intOf i).toNat)
    case atStart => exact ⟨0, [], cs.toList, Nat.zero_le _, rfl, by simpa using HZ.out, rfl, hid rfl, Made.nil _ _ _ _, World.ownsRow_lit _ _ _ z1 (by unfold maxLen; omega) HZ.out, HB1.out.alloc z1 _⟩
    case round =>
      obtain ⟨k, X, R, hk, rfl, hR, hX, HPX, hall, hown, hbel⟩ := hrel
      have HO := hid hown
      have HB := hid hbel
      have HAL := hid hall
      have hB := hbel.size
      have hgl : w1.heap.size < wr.heap.size := (hown.lt w1.heap.size rfl).2
      clear hown hall
      by_cases hlt : k < n
      · have hkx : k < X0.length := by rw [HN.out]; exact hlt
        have hkp : k < p.length := by rw [HPN.out]; exact hlt
        obtain ⟨g, rfl, hg, ⟨c0, c1, c2, c3⟩, hm⟩ := (HR.out.below hbel) k hkx
        have hxp := HATP.out k hkx hkp
        have PN := hid (foldP_take' p k hkp)
        have hex := ok_expr HOK.out hkp
        rw [hxp] at PN hex
        have hzz := HZX.out _ (List.getElem_mem hkx)
        obtain ⟨xa, xb, xc, xd, ea, ee, hrs, hrt, hcp, hnl⟩ := inMem_shape hm
        clear hrs hcp hnl
        obtain ⟨y, hy⟩ : ∃ y, X0[k] = y := ⟨_, rfl⟩
        rw [hy] at c0 c1 c2 c3 PN hex hzz ea ee hrt hm
        obtain ⟨y0, y1, y2, y3, R', hRe, hR'⟩ := four R (n - (k + 1)) (by rw [hR]; congr 1; omega)
        subst hRe
        have HR' := hid hR'
        have HMA := hid hm.1
        obtain ⟨kk, nm, gs, ex, va, ve⟩ := y
        dsimp only at c0 c1 c2 c3 PN hex hzz ea ee hrt HMA
        subst ea ee
        have HFV := hid (foldV_fold ex hex)
        have hzz2 : gs.length ≤ 1048576 := hzz.2.1
        have hzz4 : ex.length ≤ 1048576 := hzz.2.2.2.1
        have hnm : NamesI ex := fun j hj => small_max (hzz.2.2.2.2 _ (List.getElem_mem hj))
        have HBA : Hid (Below wr.heap.size wr (wr.alloc (.cells #[.int .i64 kk, .string nm, .slice xa gs.length xc, .slice xb ex.length xd] 42))) := hid ((Below.refl _ _).alloc (Nat.le_refl _) _)
        have hsz : (wr.alloc (.cells #[.int .i64 kk, .string nm, .slice xa gs.length xc, .slice xb ex.length xd] 42)).heap.size = wr.heap.size + 1 := by simp
        have HXA := hid (heap_alloc_new wr (.cells #[.int .i64 kk, .string nm, .slice xa gs.length xc, .slice xb ex.length xd] 42))
        have HCL := hid (x_cloneS (.slice xa gs.length xc) gs ((wr.alloc (.cells #[.int .i64 kk, .string nm, .slice xa gs.length xc, .slice xb ex.length xd] 42)).drew) (owns_below HMA.out (HBA.out.drew)) hzz2)
        have HFE := hid (fun W (hb : Below wr.heap.size wr W) => i_foldExpr xb xd ex W hzz4 (hrt.below hb) hnm)
        have HROW := hid (fun W (hb : Below wr.heap.size wr W) => owns3_below HO.out hb)
        have HS := hid (fun va ve => headL_set X k hX ⟨kk, nm, gs, foldE ex, va, ve⟩ y0 y1 y2 y3 R')
        have HXL := hid hX
        have k0 : (0 : Int) ≤ (k : Int) := by omega
        have k1 : (k : Int) < (n : Int) := by omega
        obtain ⟨fx, hfx⟩ : ∃ fx, foldV ex = fx := ⟨_, rfl⟩
        rw [hfx] at HFE HFV
        have a0 := (blk HXA.out).1 0 (.int .i64 kk) rfl
        have a1 := (blk HXA.out).1 1 (.string nm) rfl
        have a2 := (blk HXA.out).1 2 (.slice xa gs.length xc) rfl
        have a3 := (blk HXA.out).1 3 (.slice xb ex.length xd) rfl
        have KEEP : Hid (∀ W : World, Below (wr.heap.size + 1) (wr.alloc (.cells #[.int .i64 kk, .string nm, .slice xa gs.length xc, .slice xb ex.length xd] 42)) W → W.cell? ⟨wr.heap.size, 0, none⟩ = some (.int .i64 kk) ∧ W.cell? ⟨wr.heap.size, 1, none⟩ = some (.string nm) ∧ W.cell? ⟨wr.heap.size, 2, none⟩ = some (.slice xa gs.length xc) ∧ W.cell? ⟨wr.heap.size, 3, none⟩ = some (.slice xb ex.length xd)) := hid (fun W hb => ⟨(hb.cell (p := ⟨wr.heap.size, _, none⟩) (by dsimp only; omega)).trans a0, (hb.cell (p := ⟨wr.heap.size, _, none⟩) (by dsimp only; omega)).trans a1, (hb.cell (p := ⟨wr.heap.size, _, none⟩) (by dsimp only; omega)).trans a2, (hb.cell (p := ⟨wr.heap.size, _, none⟩) (by dsimp only; omega)).trans a3⟩)
        have hszd : (wr.alloc (.cells #[.int .i64 kk, .string nm, .slice xa gs.length xc, .slice xb ex.length xd] 42)).drew.heap.size = wr.heap.size + 1 := hsz
        have hne : wr.heap.size ≠ w1.heap.size := by omega
        clear hy hm hzz hR hR' hbel hX hxp hkx hkp hex hrt hnm hfx
        go_upto_region 7 with fail
        go_region_held3 (fun w' => w'.cell? ⟨wr.heap.size, 0, none⟩ = some (.int .i64 kk) ∧ w'.cell? ⟨wr.heap.size, 1, none⟩ = some (.string nm) ∧ w'.cell? ⟨wr.heap.size, 2, none⟩ = some (.slice xa gs.length xc) ∧ w'.cell? ⟨wr.heap.size, 3, none⟩ = some (.slice xb ex.length xd)) (first | with_reducible exact KEEP.out _ (Below.refl _ (wr.alloc (.cells #[.int .i64 kk, .string nm, .slice xa gs.length xc, .slice xb ex.length xd] 42))).drew | with_reducible exact KEEP.out _ B4 | with_reducible exact far_cells hne (KEEP.out _ B4) | with_reducible exact KEEP.out _ B3 | go_keep) (first
          | (go_at_call 102; (with_reducible refine HCL.out.mono ?_); rintro e w3 ⟨va', rfl, O3, b3⟩; obtain ⟨av, cv, rfl⟩ := owns_shape O3; rw [hszd] at b3 O3; have B3 : Below (wr.heap.size + 1) (wr.alloc (.cells #[.int .i64 kk, .string nm, .slice xa gs.length xc, .slice xb ex.length xd] 42)) w3 := undrF b3)
          | (go_at_call 103; (with_reducible refine (HFE.out _ (HBA.out.trans (B3.mono (Nat.le_succ _)))).mono ?_); rintro e w4 ⟨ve', rfl, O4, b4, _⟩; obtain ⟨ax, cx, rfl⟩ := owns3_shape O4; have z3 := B3.size; rw [hsz] at z3; have B4 : Below (wr.heap.size + 1) (wr.alloc (.cells #[.int .i64 kk, .string nm, .slice xa gs.length xc, .slice xb ex.length xd] 42)) w4 := B3.trans (b4.mono z3); have HB24 : Below wr.heap.size wr w4 := HBA.out.trans (B4.mono (Nat.le_succ _)); have HO4 := HROW.out _ HB24; have hlen : (lnsV X ++ y0 :: y1 :: y2 :: y3 :: R').length = n * 4 := HO4.1; obtain ⟨s0, e0⟩ : ∃ y, w4.cell? ⟨w1.heap.size, k * 4, none⟩ = some y := by { have := HO4.cellAt (k * 4) (by omega); rw [this]; exact ⟨_, List.getElem?_eq_getElem (by omega)⟩ }; obtain ⟨s1, e1⟩ : ∃ y, w4.cell? ⟨w1.heap.size, k * 4 + 1, none⟩ = some y := by { have := HO4.cellAt (k * 4 + 1) (by omega); rw [this]; exact ⟨_, List.getElem?_eq_getElem (by omega)⟩ }; obtain ⟨s2, e2⟩ : ∃ y, w4.cell? ⟨w1.heap.size, k * 4 + 2, none⟩ = some y := by { have := HO4.cellAt (k * 4 + 2) (by omega); rw [this]; exact ⟨_, List.getElem?_eq_getElem (by omega)⟩ }; obtain ⟨s3, e3⟩ : ∃ y, w4.cell? ⟨w1.heap.size, k * 4 + 3, none⟩ = some y := by { have := HO4.cellAt (k * 4 + 3) (by omega); rw [this]; exact ⟨_, List.getElem?_eq_getElem (by omega)⟩ }; have fr := HO4.frozenAt))
        all_goals
          have S1 := HO4.stored (k * 4) (.int .i64 kk)
          have S2 := S1.1.stored (k * 4 + 1) (.string nm)
          have S3 := S2.1.stored (k * 4 + 2) (.slice av gs.length cv)
          have S4 := S3.1.stored (k * 4 + 3) (.slice ax fx.length cx)
          have HG := hid (((S1.2.trans S2.2).trans S3.2).trans S4.2)
          have HO5 := hid (HS.out (.slice av gs.length cv) (.slice ax fx.length cx) ▸ S4.1)
          have z4 := HB24.size
          have HB4 : Hid (Below w.heap.size w w4) := hid (HB.out.trans (HB24.mono hB))
          have HB5 := hid (HB4.out.grown HG.out (by omega) (fun j hj => by injection hj with e; omega))
          have HOA : Hid (w4.ownsRow (wr.heap.size + 1) 9 1 (.slice av gs.length cv) gs.length (strV gs)) := hid (owns_below O3 b4)
          have HOE : Hid (w4.ownsRow (wr.heap.size + 1) 49 3 (.slice ax fx.length cx) fx.length (toksV fx)) := hid (owns_lower O4 z3)
          have HE5 := hid HFV.out
          have HAL4 : Hid (Made 9 49 w.heap.size w4 (X ++ [⟨kk, nm, gs, foldE ex, .slice av gs.length cv, .slice ax fx.length cx⟩])) := hid (HAL.out.snoc (B' := wr.heap.size + 1) HB24 ⟨HOA.out, by have := HOE.out; rw [HE5.out] at this ⊢; exact this⟩ (by omega) (by omega))
          clear S1 S2 S3 S4 hlen b3 b4 O3 O4 B3 B4
          go_wp2
          go_roundw
          case rel =>
            refine ⟨k + 1, X ++ [⟨kk, nm, gs, foldE ex, .slice av gs.length cv, .slice ax fx.length cx⟩], R', by omega, by go_num, HR'.out, by rw [List.length_append, HXL.out]; rfl, hid ?_, ?_, HO5.out, HB5.out⟩
            · rw [PN.out, ← HPX.out, plL_app]; rfl
            · refine Made.grown (TL := 42) HAL4.out HG.out ?_ (by decide) (by decide)
              rintro g ⟨⟩
              obtain ⟨cur, hcur⟩ := row_block HO4
              exact .inr ⟨cur, hcur⟩
          case measure => simp [RowKit.intOf]; omega
      · have hkk : k = n := by omega
        subst hkk
        have hR0 : R = [] := List.length_eq_zero_iff.1 (by rw [hR]; simp)
        subst hR0
        have HPF : Hid (plL X = foldP p) := hid (by have h := HPX.out; rwa [← HPN.out, List.take_of_length_le (Nat.le_refl _)] at h)
        have HOF : Hid (wr.ownsRow w.heap.size 42 4 (.slice (some ⟨w1.heap.size, 0, none⟩) k k) X.length (lnsV X)) := hid (by have h := HO.out; rw [List.append_nil] at h; rw [hX]; exact h)
        clear hX hR HO hlt hbel
        go_wp2
        go_ret
        exact ⟨_, X, rfl, HOF.out, HAL.out, HPF.out, HB.out⟩
end Go.Proofs.YtaplbefdijcceaaGreatDoor
