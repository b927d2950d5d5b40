/- SavedTokens, the model's and the program's. -/
import Derived.Test.YtcnnfhcpkbjolaaDoorFoldPP
import Derived.Test.YtcnnfhcpkbjolaaDoorPokI
import Derived.Deep.QuietTactic
import Derived.BigQuiet
namespace Go.Proofs.YtcnnfhcpkbjolaaDoor
open Go.RowKit Go.Lib

/-- By how many tokens the expressions are longer than the folded ones. -/
noncomputable def savZ (p : List PLine) : Int := if pokB p = true then (cntP p : Int) - (cntP (foldP p) : Int) else 0
theorem cntP_next (p : List PLine) (j : Nat) (h : j < p.length) : cntP (p.take (j + 1)) = cntP (p.take j) + p[j].expr.length := by
  unfold cntP
  rw [List.take_succ_eq_append_getElem h, List.map_append, List.sum_append]
  simp
theorem cntP_small (p : List PLine) (h : ∀ x ∈ p, x.expr.length ≤ 20) : cntP p ≤ 20 * p.length := by
  induction p with
  | nil => exact Nat.le_refl _
  | cons x r ih =>
    have h1 : cntP (x :: r) = x.expr.length + cntP r := by simp [cntP]
    have h2 := h x (List.mem_cons_self ..)
    have h3 := ih (fun y hy => h y (List.mem_cons_of_mem _ hy))
    rw [h1, List.length_cons]
    omega
theorem ok_small {p : List PLine} (h : OkI p) : p.length ≤ 60 ∧ ∀ x ∈ p, x.expr.length ≤ 20 :=
  ⟨h.1.1, fun x hx => (ef_small _ _ ((lineB_iff _).1 (h.1.2 x hx)).2.2.2).1⟩
theorem take_small {p : List PLine} (h : ∀ x ∈ p, x.expr.length ≤ 20) (hp : p.length ≤ 60) (j : Nat) : cntP (p.take j) ≤ 1200 := by
  have h1 := cntP_small (p.take j) (fun x hx => h x (List.mem_of_mem_take hx))
  have h2 : (p.take j).length ≤ p.length := by rw [List.length_take]; omega
  omega

theorem read_expr {TS TK : TypeId} {w : World} {a : Option Addr} {X : List LnL} (h : ReadL TS TK w a X) (j : Nat) (hj : j < X.length) : ∃ g xb xd, a = some ⟨g, 0, none⟩ ∧ g < w.heap.size ∧ w.cell? ⟨g, j * 4 + 3, none⟩ = some (.slice xb X[j].expr.length xd) := by
  obtain ⟨g, e, hg, ⟨_, _, _, c3⟩, hm⟩ := h j hj
  obtain ⟨_, xb, _, xd, _, ee, _⟩ := inMem_shape hm
  rw [ee] at c3
  exact ⟨g, xb, xd, e, hg, c3⟩
set_option maxRecDepth 100000 in
set_option maxHeartbeats 2000000 in
theorem s_saved (a : Option Addr) (cap : Nat) (X : List LnL) (w : World) (hl : X.length ≤ 1048576) (hr : ReadL 9 83 w a X) (hz : SzAl X) :
    Calls Tryd.prog 21 #[.slice a X.length cap] w fun e w' => e = .returned (.int .i64 (savZ (plL X))) ∧ Below w.heap.size w w' := by
  have HF := Lib.hid (s_foldProgram a cap X w hl hr hz)
  have HR := Lib.hid hr
  have hpl := plL_length X
  have HAT := Lib.hid (fun (j : Nat) (h : j < X.length) (h' : j < (plL X).length) => pl_at X j h h')
  clear hr hz
  obtain ⟨p, hp⟩ : ∃ p, plL X = p := ⟨_, rfl⟩
  rw [hp] at HF hpl
  have HATP : Hid (∀ (j : Nat) (h : j < X.length) (h' : j < p.length), p[j] = X[j].p) := Lib.hid (by subst hp; exact HAT.out)
  rw [hp]
  clear hp HAT
  obtain ⟨Z, hZ⟩ : ∃ Z, Z = savZ p := ⟨_, rfl⟩
  rw [← hZ]
  unfold savZ at hZ
  have HZ := Lib.hid hZ
  clear hZ
  obtain ⟨F, hF⟩ : ∃ F, F = if pokB p = true then foldP p else [] := ⟨_, rfl⟩
  rw [← hF] at HF
  have HFE := Lib.hid hF
  clear hF
  have HNUM : Hid (F.length ≤ X.length ∧ (∀ j, j ≤ F.length → (∀ h : 0 < F.length, cntP (p.take j) ≤ 1200 ∧ cntP (F.take j) ≤ 1200)) ∧ (Z = (cntP (p.take F.length) : Int) - (cntP (F.take F.length) : Int)) ∧ F.length ≤ 60) := Lib.hid (by
    have h1 := HFE.out
    have h2 := HZ.out
    split at h1
    · rename_i hb
      rw [if_pos hb] at h2
      have ho := (pokB_iff p).1 hb
      have hs := ok_small ho
      have hs' := ok_small (ok_fold ho)
      rw [h1, foldP_length]
      refine ⟨by omega, fun j hj _ => ⟨take_small hs.2 hs.1 j, take_small hs'.2 hs'.1 j⟩, ?_, hs.1⟩
      rw [List.take_length, List.take_of_length_le (by rw [foldP_length]; exact Nat.le_refl _)]
      exact h2
    · rename_i hb
      rw [if_neg hb] at h2
      rw [h1]
      exact ⟨Nat.zero_le _, fun j _ h => absurd h (by simp), by rw [h2]; simp [cntP], Nat.zero_le _⟩)
  go_enter Tryd.func21, Tryd.ntmps21
  go_wp2_with fail
  refine HF.out.mono ?_
  rintro e w1 ⟨v, Y, rfl, O1, M1, yp, b1⟩
  obtain ⟨fa, fc, rfl⟩ := owns3_shape O1
  have RY := Lib.hid (readL_of O1 M1.all)
  have HB1 := Lib.hid b1
  have HYL : Hid (Y.length = F.length) := Lib.hid (by rw [← yp, plL_length])
  have HYP : Hid (∀ (j : Nat) (h : j < Y.length) (h' : j < F.length), F[j] = Y[j].p) := Lib.hid (by subst yp; exact fun j h h' => pl_at Y j h h')
  clear b1 O1 M1 yp
  go_wp2_with fail
  go_loopw [4, 5] (fun n k wr => ∃ j : Nat, j ≤ Y.length ∧ k = .int .i64 (j : Int) ∧ n = .int .i64 ((cntP (p.take j) : Int) - (cntP (F.take j) : Int)) ∧ Below w.heap.size w wr ∧ Below w1.heap.size w1 wr) (fun _ k _ => Y.length - (RowKit.intOf k).toNat)
  case atStart => exact ⟨0, Nat.zero_le _, rfl, by rw [List.take_zero, List.take_zero]; simp [cntP], HB1.out, Below.refl _ _⟩
  case round =>
    obtain ⟨j, hj, rfl, rfl, hbel, hbel1⟩ := hrel
    have HB := Lib.hid hbel
    have HBB := Lib.hid hbel1
    by_cases hlt : j < Y.length
    · have hyl := HYL.out
      have hnum := HNUM.out
      have hjx : j < X.length := by omega
      have hjp : j < p.length := by omega
      have hjf : j < F.length := by omega
      obtain ⟨g, xb, xd, rfl, hg, c3⟩ := read_expr (HR.out.below hbel) j hjx
      obtain ⟨g', yb, yd, rfl, hg', c3'⟩ := read_expr (RY.out.below hbel1) j hlt
      have hb1 := (hnum.2.1 j (by omega) (by omega))
      have hb2 := (hnum.2.1 (j + 1) (by omega) (by omega))
      have hn1 := cntP_next p j hjp
      have hn2 := cntP_next F j hjf
      rw [HATP.out j hjx hjp] at hn1
      rw [HYP.out j hlt hjf] at hn2
      have hx : X[j].p.expr.length = X[j].expr.length := rfl
      have hy : Y[j].p.expr.length = Y[j].expr.length := rfl
      rw [hx] at hn1
      rw [hy] at hn2
      have k0 : (0 : Int) ≤ (j : Int) := by omega
      have k1 : (j : Int) < (X.length : Int) := by omega
      have k2 : (j : Int) < (Y.length : Int) := by omega
      generalize X[j].expr.length = n1 at *
      generalize Y[j].expr.length = n2 at *
      obtain ⟨A, hA⟩ : ∃ A, (cntP (p.take j) : Int) - (cntP (F.take j) : Int) = A := ⟨_, rfl⟩
      have hA1 : -1200 ≤ A ∧ A ≤ 1200 := by omega
      have hN : (cntP (p.take (j + 1)) : Int) - (cntP (F.take (j + 1)) : Int) = A + (n1 : Int) - (n2 : Int) := by omega
      have hs1 : n1 ≤ 1200 := by omega
      have hs2 : n2 ≤ 1200 := by omega
      have HN := Lib.hid hN
      rw [hA]
      clear hnum hbel hbel1 hb1 hb2 hn1 hn2 hx hy hA hN hjx hjp hjf hyl
      go_wp2_with fail
      have e1 : IntKind.i64.wrap (A + (n1 : Int)) = A + (n1 : Int) := IntWalk.i64_in _ (by omega)
      have e2 : IntKind.i64.wrap (A + (n1 : Int) - (n2 : Int)) = A + (n1 : Int) - (n2 : Int) := IntWalk.i64_in _ (by omega)
      go_quiet (fail)
      clear e1 e2
      go_wp2
      go_roundw
      case rel => exact ⟨j + 1, by omega, by go_num, by rw [HN.out], below_drewN HB.out _, below_drewN HBB.out _⟩
      case measure => simp [RowKit.intOf]; omega
    · have hjj : j = F.length := by have := HYL.out; omega
      have HV : Hid (Z = (cntP (p.take j) : Int) - (cntP (F.take j) : Int)) := Lib.hid (by rw [hjj]; exact HNUM.out.2.2.1)
      clear hjj hbel hbel1
      go_wp2
      go_ret
      exact ⟨by rw [HV.out]; rfl, HB.out⟩
set_option maxRecDepth 100000 in
set_option maxHeartbeats 2000000 in
theorem i_count (a : Option Addr) (cap : Nat) (X : List LnL) (p : List PLine) (w : World) (hr : ReadL 9 83 w a X) (hp : plL X = p) (h60 : p.length ≤ 60) (h20 : ∀ x ∈ p, x.expr.length ≤ 20) :
    Calls Tryd.prog 35 #[.slice a X.length cap] w fun e w' => e = .returned (.int .i64 (cntP p : Int)) ∧ Below w.heap.size w w' := by
  have HR := Lib.hid hr
  have hpl := plL_length X
  have HAT := Lib.hid (fun (j : Nat) (h : j < X.length) (h' : j < (plL X).length) => pl_at X j h h')
  rw [hp] at hpl
  have HATP : Hid (∀ (j : Nat) (h : j < X.length) (h' : j < p.length), p[j] = X[j].p) := Lib.hid (by subst hp; exact HAT.out)
  have HSM := Lib.hid (fun j => take_small h20 h60 j)
  clear hr hp HAT h20
  go_enter Tryd.func35, Tryd.ntmps35
  go_wp2_with fail
  go_loopw [3, 5, 8] (fun n _ k wr => ∃ j : Nat, j ≤ X.length ∧ k = .int .i64 (j : Int) ∧ n = .int .i64 (cntP (p.take j) : Int) ∧ Below w.heap.size w wr) (fun _ _ k _ => X.length - (RowKit.intOf k).toNat)
  case atStart => exact ⟨0, Nat.zero_le _, rfl, by rw [List.take_zero]; rfl, Below.refl _ _⟩
  case round =>
    obtain ⟨j, hj, rfl, rfl, hbel⟩ := hrel
    have HB := Lib.hid hbel
    have hB := hbel.size
    by_cases hlt : j < X.length
    · have hjp : j < p.length := by omega
      obtain ⟨g, rfl, hg, ⟨c0, c1, c2, c3⟩, hm⟩ := (HR.out.below hbel) j hlt
      obtain ⟨xa, xb, xc, xd, ea, ee, hrs, hrt, hcp, hnl⟩ := inMem_shape hm
      clear hrs hrt hcp hnl hm
      have hb1 := HSM.out j
      have hb2 := HSM.out (j + 1)
      have hn1 := cntP_next p j hjp
      rw [HATP.out j hlt hjp] at hn1
      have hx : X[j].p.expr.length = X[j].expr.length := rfl
      rw [hx] at hn1
      rw [ea] at c2
      rw [ee] at c3
      have k0 : (0 : Int) ≤ (j : Int) := by omega
      have k1 : (j : Int) < (X.length : Int) := by omega
      generalize X[j].kind = kd at *
      generalize X[j].name = nm at *
      generalize X[j].args.length = na at *
      generalize X[j].expr.length = ne at *
      obtain ⟨A, hA⟩ : ∃ A, cntP (p.take j) = A := ⟨_, rfl⟩
      rw [hA] at hb1 hn1 ⊢
      have hne : ne ≤ 1200 := by omega
      have HN := Lib.hid hn1
      have HBA : Hid (Below w.heap.size w (wr.alloc (.cells #[.int .i64 kd, .string nm, .slice xa na xc, .slice xb ne xd] 48))) := Lib.hid (HB.out.alloc hB _)
      clear hbel hx hA ea ee hn1 hb2 hjp
      go_wp2
      go_roundw
      case rel => exact ⟨j + 1, by omega, by go_num, by rw [HN.out]; go_num, HBA.out⟩
      case measure => simp [RowKit.intOf]; omega
    · have hjj : j = X.length := by omega
      have HV : Hid (cntP p = cntP (p.take j)) := Lib.hid (by rw [List.take_of_length_le (by omega)])
      clear hjj hbel
      go_wp2
      go_ret
      exact ⟨by rw [HV.out]; rfl, HB.out⟩
set_option maxRecDepth 100000 in
set_option maxHeartbeats 2000000 in
theorem i_saved (a : Option Addr) (cap : Nat) (X : List LnL) (w : World) (hl : X.length ≤ 1048576) (hcap : X.length ≤ cap) (hr : ReadL 9 83 w a X) (hz : SzAl X) (hsh : Shapes w) :
    Calls Tryd.prog 14 #[.slice a X.length cap] w fun e w' => e = .returned (.int .i64 (savZ (plL X))) ∧ Below w.heap.size w w' := by
  have S := Lib.hid (i_progOkB a cap X w hl hcap hr hz hsh)
  have HF := Lib.hid (fun W (hb : Below w.heap.size w W) => i_foldProgram a cap X W hl hcap (hr.below hb) hz (hsh.on hb))
  have HC := Lib.hid (fun W (hb : Below w.heap.size w W) => i_count a cap X (plL X) W (hr.below hb) rfl)
  clear hr hz hsh
  obtain ⟨Z, hZ⟩ : ∃ Z, Z = savZ (plL X) := ⟨_, rfl⟩
  rw [← hZ]
  unfold savZ at hZ
  obtain ⟨p, hp⟩ : ∃ p, plL X = p := ⟨_, rfl⟩
  rw [hp] at S HF HC hZ
  clear hp
  cases hb : pokB p with
  | false =>
    rw [hb] at S hZ
    have HZ : Hid (Z = 0) := Lib.hid hZ
    clear hb hZ HF HC
    go_enter Tryd.func14, Tryd.ntmps14
    go_wp2_with fail
    refine S.out.mono ?_
    rintro e w1 ⟨rfl, b1⟩
    have HB := Lib.hid b1
    clear b1
    go_wp2
    go_ret
    exact ⟨by rw [HZ.out]; rfl, HB.out⟩
  | true =>
    rw [hb] at S hZ HF
    have HZ : Hid (Z = (cntP p : Int) - (cntP (foldP p) : Int)) := Lib.hid hZ
    have ho := (pokB_iff p).1 hb
    have hs := ok_small ho
    have hs' := ok_small (ok_fold ho)
    have HC1 := Lib.hid (fun W hb => HC.out W hb hs.1 hs.2)
    have HC2 := Lib.hid (fun b d Y (hy : plL Y = foldP p) W h => i_count b d Y (foldP p) W h hy hs'.1 hs'.2)
    have hc1 : cntP p ≤ 1200 := by have := cntP_small p hs.2; omega
    have hc2 : cntP (foldP p) ≤ 1200 := by have := cntP_small (foldP p) hs'.2; omega
    obtain ⟨A, hA⟩ : ∃ A, cntP p = A := ⟨_, rfl⟩
    obtain ⟨B, hB⟩ : ∃ B, cntP (foldP p) = B := ⟨_, rfl⟩
    rw [hA] at HZ HC1 hc1
    rw [hB] at HZ HC2 hc2
    clear hb hZ HC ho hs hs' hA hB
    go_enter Tryd.func14, Tryd.ntmps14
    go_wp2_with fail
    refine S.out.mono ?_
    rintro e w1 ⟨rfl, b1⟩
    have HB1 := Lib.hid b1
    have z1 := b1.size
    clear b1
    go_wp2_with fail
    refine (HC1.out _ HB1.out).mono ?_
    rintro e w2 ⟨rfl, b2⟩
    have HB2 : Hid (Below w.heap.size w w2) := Lib.hid (HB1.out.trans (b2.mono z1))
    have z2 := HB2.out.size
    clear b2
    go_wp2_with fail
    refine (HF.out _ HB2.out).mono ?_
    rintro e w3 ⟨v, Y, rfl, O3, M3, yp, b3⟩
    obtain ⟨ya, yc, rfl⟩ := owns3_shape O3
    have HY := Lib.hid (HC2.out ya yc Y yp w3 (readL_of O3 M3.all))
    have HB3 : Hid (Below w.heap.size w w3) := Lib.hid (HB2.out.trans (b3.mono z2))
    have z3 := HB3.out.size
    clear b3 O3 M3 yp
    go_wp2_with fail
    refine HY.out.mono ?_
    rintro e w4 ⟨rfl, b4⟩
    have HB4 : Hid (Below w.heap.size w w4) := Lib.hid (HB3.out.trans (b4.mono z3))
    clear b4
    go_wp2
    go_ret
    exact ⟨by rw [HZ.out]; go_num, HB4.out⟩
end Go.Proofs.YtcnnfhcpkbjolaaDoor
