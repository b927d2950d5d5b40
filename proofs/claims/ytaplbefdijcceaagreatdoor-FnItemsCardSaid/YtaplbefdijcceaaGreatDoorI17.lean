/- The program's statements: which one a line is. -/
import Derived.Test.YtaplbefdijcceaaGreatDoorI16
namespace Go.Proofs.YtaplbefdijcceaaGreatDoor
open Go.RowKit Go.Lib Go.Maps
def stmtV (kind : Int) (ve : Value) (nm : ByteArray) (tt kb : Int) : Value :=
  if kind = 1 then .iface 224 (.agg #[ve, .string nm])
  else if kind = 2 then .iface 226 (.agg #[ve])
  else if kind = 6 then .iface 227 (.agg #[ve])
  else if kind = 3 ∨ kind = 5 then .iface 229 (.agg #[ve, .int .i64 tt])
  else if kind = 4 then .iface 233 (.agg #[.int .i64 tt])
  else if kb = 5 then .iface 233 (.agg #[.int .i64 tt])
  else if kb = 3 then .iface 237 (.agg #[])
  else .iface 235 (.agg #[])
def stmtTo (p : List PLine) (k : Nat) : Int := if lkZ p (k : Int) = 7 then (endOpen p k : Int) else nextZ p k 0
set_option maxRecDepth 100000 in
set_option maxHeartbeats 4000000 in
theorem i_stmt (pa : Option Addr) (pc : Nat) (PX : List LnL) (k : Nat) (w : World) (hl : PX.length ≤ 60) (hk : k < PX.length) (hr : ReadL 9 49 w pa PX)
    (hkd : 1 ≤ PX[k].kind ∧ PX[k].kind ≤ 7) (he : PX[k].kind = 4 → elseOpen (plL PX) k < k ∧ elseZ (plL PX) (elseOpen (plL PX) k : Int) = (k : Int)) (h7 : PX[k].kind = 7 → endOpen (plL PX) k < k) :
    Calls Tryz.prog 192 #[.slice pa PX.length pc, .int .i64 (k : Int)] w fun e w' => e = .returned (stmtV PX[k].kind PX[k].ve PX[k].name (stmtTo (plL PX) k) (lkZ (plL PX) (endOpen (plL PX) k : Int))) ∧ Below w.heap.size w w' := by
  have HR := hid hr
  have hkp : k < (plL PX).length := by rw [plL_length]; exact hk
  have hlk : lkZ (plL PX) (k : Int) = PX[k].kind := by rw [lkZ_at _ _ hkp, pl_kind PX k hk]
  have NX : Hid (∀ W, Below w.heap.size w W → Calls Tryz.prog 198 #[.slice pa PX.length pc, .int .i64 (k : Int), .int .i64 0] W fun e w' => e = .returned (.int .i64 (nextZ (plL PX) k 0)) ∧ Below W.heap.size W w') := hid (fun W hb => i_next pa pc PX k 0 W hl hk (HR.out.below hb) he)
  have BO : Hid (∀ W, Below w.heap.size w W → Calls Tryz.prog 199 #[.slice pa PX.length pc, .int .i64 (k : Int)] W fun e w' => e = .returned (.int .i64 (if endOpen (plL PX) k < k then (endOpen (plL PX) k : Int) else -1)) ∧ Below W.heap.size W w') := hid (fun W hb => i_blockOf pa pc PX k W (by omega) (by omega) (HR.out.below hb))
  have HTO : Hid (stmtTo (plL PX) k = if PX[k].kind = 7 then (endOpen (plL PX) k : Int) else nextZ (plL PX) k 0) := hid (by unfold stmtTo; rw [hlk])
  obtain ⟨g, rfl, hg, ⟨c0, c1, _, c3⟩, hm⟩ := hr k hk
  obtain ⟨xa, xb, xc, xd, ea, ee, _, _⟩ := inMem_shape hm
  rw [ee] at c3
  rw [ee]
  have KB : Hid (∀ W, Below w.heap.size w W → W.cell? ⟨g, k * 4, none⟩ = some (.int .i64 PX[k].kind) ∧ W.cell? ⟨g, k * 4 + 1, none⟩ = some (.string PX[k].name) ∧ W.cell? ⟨g, k * 4 + 3, none⟩ = some (.slice xb PX[k].expr.length xd)) := hid (fun W hb => by
    have e : ∀ j, W.cell? ⟨g, j, none⟩ = w.cell? ⟨g, j, none⟩ := fun j => World.cell?_of_block (a := ⟨g, j, none⟩) (hb.block g hg)
    exact ⟨(e _).trans c0, (e _).trans c1, (e _).trans c3⟩)
  have k0 : (0 : Int) ≤ (k : Int) := by omega
  have k1 : (k : Int) < (PX.length : Int) := by omega
  have KK : Hid (∀ W, Below w.heap.size w W → ∀ e, endOpen (plL PX) k = e → e < k → ∃ ge : e < PX.length, W.cell? ⟨g, e * 4, none⟩ = some (.int .i64 PX[e].kind) ∧ lkZ (plL PX) (e : Int) = PX[e].kind) := hid (fun W hb e he hek => by
    have hel : e < PX.length := by omega
    obtain ⟨g', hg', _, ⟨d0, _, _, _⟩, _⟩ := HR.out e hel
    injection hg' with hg'
    injection hg' with hg'
    subst hg'
    exact ⟨hel, (World.cell?_of_block (a := ⟨g, e * 4, none⟩) (hb.block g hg)).trans d0, by rw [lkZ_at _ _ (by rw [plL_length]; exact hel), pl_kind PX e hel]⟩)
  have H7 := hid h7
  have BV : Hid (Below w.heap.size w (w.alloc (.cells #[.slice xb PX[k].expr.length xd] 222))) := hid ((Below.refl _ _).alloc (Nat.le_refl _) _)
  have CV : Hid ((w.alloc (.cells #[.slice xb PX[k].expr.length xd] 222)).cell? ⟨w.heap.size, 0, none⟩ = some (.slice xb PX[k].expr.length xd)) := hid ((blk (heap_alloc_new w _)).1 0 _ rfl)
  obtain ⟨v0, v1, v3⟩ := KB.out _ BV.out
  have v5 := CV.out
  have VLT : Hid (w.heap.size < (w.alloc (.cells #[.slice xb PX[k].expr.length xd] 222)).heap.size) := hid (by simp)
  obtain ⟨kd, hkd'⟩ : ∃ kd, PX[k].kind = kd := ⟨_, rfl⟩
  rw [hkd'] at c0 v0 hkd HTO ⊢
  have HKD := hid hkd'
  clear hr hm hlk hkp he h7 hkd' KB HR
  have hc : kd = 1 ∨ kd = 2 ∨ kd = 3 ∨ kd = 4 ∨ kd = 5 ∨ kd = 6 ∨ kd = 7 := by omega
  obtain ⟨tt, htt⟩ : ∃ tt, stmtTo (plL PX) k = tt := ⟨_, rfl⟩
  rw [htt] at HTO ⊢
  obtain ⟨nx, hnx⟩ : ∃ nx, nextZ (plL PX) k 0 = nx := ⟨_, rfl⟩
  rw [hnx] at HTO NX
  obtain ⟨eo, heo⟩ : ∃ eo, endOpen (plL PX) k = eo := ⟨_, rfl⟩
  rw [heo] at HTO BO H7 ⊢
  have KE := hid (fun W hb hek => KK.out W hb eo heo hek)
  clear htt hnx heo KK hkd
  rcases hc with rfl | rfl | rfl | rfl | rfl | rfl | rfl
  · go_enter Tryz.func192, Tryz.ntmps192
    go_wp2_with fail
    go_quiet (fail)
    go_wp2
    go_ret
    exact ⟨rfl, BV.out.trans (below_drewN (Below.refl _ _) nq |>.mono (Nat.le_of_lt VLT.out))⟩
  · go_enter Tryz.func192, Tryz.ntmps192
    go_wp2
    go_ret
    exact ⟨rfl, BV.out⟩
  · have HQ : Hid (nx = tt) := hid (by have h := HTO.out; simpa using h.symm)
    go_enter Tryz.func192, Tryz.ntmps192
    go_wp2_with fail
    go_region_held3 (fun w' => w'.cell? ⟨w.heap.size, 0, none⟩ = some (.slice xb PX[k].expr.length xd)) (first | exact v5 | with_reducible exact v5' ) (first
      | (go_at_call 198; (with_reducible refine (NX.out _ BV.out.drew).mono ?_); rintro e w1 ⟨rfl, b1⟩; have v5' := (b1.cell (p := ⟨w.heap.size, 0, none⟩) VLT.out).trans v5; have B2 : Hid (Below w.heap.size w w1) := hid (BV.out.drew.trans (b1.mono (Nat.le_of_lt VLT.out)))))
    go_wp2
    go_ret
    exact ⟨by rw [← HQ.out]; rfl, B2.out⟩
  · have HQ : Hid (nx = tt) := hid (by have h := HTO.out; simpa using h.symm)
    go_enter Tryz.func192, Tryz.ntmps192
    go_wp2_with (go_at_call 198; (with_reducible refine (NX.out _ BV.out).mono ?_); rintro e w1 ⟨rfl, b1⟩)
    go_ret
    exact ⟨by rw [← HQ.out]; rfl, BV.out.trans (b1.mono (Nat.le_of_lt VLT.out))⟩
  · have HQ : Hid (nx = tt) := hid (by have h := HTO.out; simpa using h.symm)
    go_enter Tryz.func192, Tryz.ntmps192
    go_wp2_with fail
    go_region_held3 (fun w' => w'.cell? ⟨w.heap.size, 0, none⟩ = some (.slice xb PX[k].expr.length xd)) (first | exact v5 | with_reducible exact v5' ) (first
      | (go_at_call 198; (with_reducible refine (NX.out _ BV.out.drew).mono ?_); rintro e w1 ⟨rfl, b1⟩; have v5' := (b1.cell (p := ⟨w.heap.size, 0, none⟩) VLT.out).trans v5; have B2 : Hid (Below w.heap.size w w1) := hid (BV.out.drew.trans (b1.mono (Nat.le_of_lt VLT.out)))))
    go_wp2
    go_ret
    exact ⟨by rw [← HQ.out]; rfl, B2.out⟩
  · go_enter Tryz.func192, Tryz.ntmps192
    go_wp2
    go_ret
    exact ⟨rfl, BV.out⟩
  · have HQ : Hid ((eo : Int) = tt) := hid (by have h := HTO.out; simpa using h.symm)
    have hek := H7.out HKD.out
    have BO2 : Hid (∀ W, Below w.heap.size w W → Calls Tryz.prog 199 #[.slice (some ⟨g, 0, none⟩) PX.length pc, .int .i64 (k : Int)] W fun e w' => e = .returned (.int .i64 (eo : Int)) ∧ Below W.heap.size W w') := hid (fun W hb => by
      have h := BO.out W hb
      rw [if_pos hek] at h
      exact h)
    obtain ⟨hel, _, hlk2⟩ := KE.out w (Below.refl _ _) hek
    have e0 : (0 : Int) ≤ (eo : Int) := by omega
    have e1 : (eo : Int) < (PX.length : Int) := by omega
    rw [hlk2]
    have KC : Hid (∀ W, Below w.heap.size w W → W.cell? ⟨g, eo * 4, none⟩ = some (.int .i64 PX[eo].kind)) := hid (fun W hb => (KE.out W hb hek).2.1)
    obtain ⟨ke, hke⟩ : ∃ ke, PX[eo].kind = ke := ⟨_, rfl⟩
    rw [hke] at KC ⊢
    clear hke hlk2
    have h3 : ke = 5 ∨ ke = 3 ∨ (ke ≠ 5 ∧ ke ≠ 3) := by omega
    rcases h3 with rfl | rfl | ⟨h5, h3⟩
    · go_enter Tryz.func192, Tryz.ntmps192
      go_wp2_with (go_at_call 199; (with_reducible refine (BO2.out _ BV.out).mono ?_); rintro e w1 ⟨rfl, b1⟩; have B2 : Hid (Below w.heap.size w w1) := hid (BV.out.trans (b1.mono (Nat.le_of_lt VLT.out))); have ck := KC.out _ B2.out)
      go_ret
      exact ⟨by rw [← HQ.out]; rfl, B2.out⟩
    · go_enter Tryz.func192, Tryz.ntmps192
      go_wp2_with (go_at_call 199; (with_reducible refine (BO2.out _ BV.out).mono ?_); rintro e w1 ⟨rfl, b1⟩; have B2 : Hid (Below w.heap.size w w1) := hid (BV.out.trans (b1.mono (Nat.le_of_lt VLT.out))); have ck := KC.out _ B2.out)
      go_ret
      exact ⟨rfl, B2.out⟩
    · have q5 : (ke == 5) = false := by simpa using h5
      have q3 : (ke == 3) = false := by simpa using h3
      have HF : Hid (stmtV 7 (.slice xb PX[k].expr.length xd) PX[k].name tt ke = .iface 235 (.agg #[])) := hid (by
        unfold stmtV
        rw [if_neg (by decide), if_neg (by decide), if_neg (by decide), if_neg (by decide), if_neg (by decide), if_neg h5, if_neg h3])
      rw [HF.out]
      clear h5 h3
      go_enter Tryz.func192, Tryz.ntmps192
      go_wp2_with (go_at_call 199; (with_reducible refine (BO2.out _ BV.out).mono ?_); rintro e w1 ⟨rfl, b1⟩; have B2 : Hid (Below w.heap.size w w1) := hid (BV.out.trans (b1.mono (Nat.le_of_lt VLT.out))); have ck := KC.out _ B2.out)
      go_ret
      exact ⟨rfl, B2.out⟩
end Go.Proofs.YtaplbefdijcceaaGreatDoor
