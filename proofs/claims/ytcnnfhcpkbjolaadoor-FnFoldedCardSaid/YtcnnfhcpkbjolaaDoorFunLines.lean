/- FunctionLines, the model's and the program's. -/
import Derived.Test.YtcnnfhcpkbjolaaDoorBeEnd
import Derived.Test.YtcnnfhcpkbjolaaDoorLocB
import Derived.Maps.AppendAt
import Derived.WalkSpells
namespace Go.Proofs.YtcnnfhcpkbjolaaDoor
open Go.RowKit Go.Lib

theorem infoI4 : (Tryd.prog.info? 3).map (fun i => (i.zero, i.size, i.bytes)) = some (some (.int .i64 0), 1, 8) := by kernel_rfl
/-- The indices of the functions, as numbers. -/
def funI (p : List PLine) : List Int := (funs p).map fun (k : Nat) => (k : Int)
theorem funI_next (p : List PLine) (k : Nat) (h : k < p.length) : funI (p.take (k + 1)) = if p[k].kind = 0 then funI (p.take k) ++ [(k : Int)] else funI (p.take k) := by
  unfold funI
  rw [funs_snoc p k h]
  split <;> simp
theorem funI_yes (X : List LnL) (k : Nat) (h : k < X.length) (h0 : X[k].kind = 0) : funI ((plL X).take (k + 1)) = funI ((plL X).take k) ++ [(k : Int)] := by
  have hq : k < (plL X).length := by rw [plL_length]; exact h
  rw [funI_next _ k hq, pl_at X k h, if_pos (show X[k].p.kind = 0 from h0)]
theorem funI_no (X : List LnL) (k : Nat) (h : k < X.length) (h0 : X[k].kind ≠ 0) : funI ((plL X).take (k + 1)) = funI ((plL X).take k) := by
  have hq : k < (plL X).length := by rw [plL_length]; exact h
  rw [funI_next _ k hq, pl_at X k h, if_neg (show ¬ X[k].p.kind = 0 from h0)]
theorem funI_all (X : List LnL) : funI ((plL X).take X.length) = funI (plL X) := by rw [List.take_of_length_le (by rw [plL_length]; exact Nat.le_refl _)]
theorem fun_mem (k : Int) : memI [0] k = decide (k = 0) := by
  unfold memI
  by_cases h : k = 0
  · subst h; rfl
  · rw [decide_eq_false h]; simp [h]
theorem below_app4 {B e n s : Nat} {w0 wr w1 : World} {X : Obj} {v : Value} {xs : List Value} (hown : wr.ownsRow B e s v n xs) (hbel : Below B w0 wr) (hB : B ≤ wr.heap.size)
    (hg : (wr.alloc X).grownBy w1 v.ownBlock) : Below B w0 w1 :=
  (hbel.alloc hB X).grown hg (by simp; omega) (fun k hk => (hown.lt k hk).1)

set_option maxRecDepth 100000 in
set_option maxHeartbeats 2000000 in
theorem s_funLines (a : Option Addr) (cap : Nat) (X : List LnL) (w : World) (hl : X.length ≤ 1048576) (hr : ReadL 9 83 w a X) :
    Calls Tryd.prog 24 #[.slice a X.length cap] w (Ints 3 w.heap.size (funI (plL X)) w) := by
  obtain ⟨i0, hi, hz0, hz1, hz2⟩ := info_parts infoI4
  have HR := Lib.hid hr
  clear hr
  go_enter Tryd.func24, Tryd.ntmps24
  go_wp2_with fail
  go_loopw [3, 4] (fun v i wr => ∃ (q : Nat) (P : List Int), q ≤ X.length ∧ i = .int .i64 (q : Int) ∧ Hid (P = funI ((plL X).take q)) ∧ P.length ≤ q ∧ wr.ownsRow w.heap.size 3 1 v P.length (intV P) ∧ Below w.heap.size w wr) (fun _ i _ => X.length - (RowKit.intOf i).toNat)
  case atStart => exact ⟨0, [], Nat.zero_le _, rfl, Lib.hid (by rw [List.take_zero]; rfl), Nat.le_refl _, World.ownsRow_lit w #[] 0 (Nat.le_refl _) (by decide) rfl, (Below.refl _ _).alloc (Nat.le_refl _) _⟩
  case round =>
    obtain ⟨q, P, hq, rfl, HP, hPq, hown, hbel⟩ := hrel
    have HB := Lib.hid hbel
    have hB := hbel.size
    by_cases hlt : q < X.length
    · obtain ⟨g, rfl, hg, ⟨c0, _, _, _⟩, _⟩ := (HR.out.below hbel) q hlt
      have HY := Lib.hid (funI_yes X q hlt)
      have HNO := Lib.hid (funI_no X q hlt)
      have k0 : (0 : Int) ≤ (q : Int) := by omega
      have k1 : (q : Int) < (X.length : Int) := by omega
      generalize X[q].kind = kd at *
      clear hbel
      by_cases hk : kd = 0
      · subst hk
        have HN : Hid (P ++ [(q : Int)] = funI ((plL X).take (q + 1))) := Lib.hid (by rw [HY.out rfl, HP.out])
        have h63 : P.length + 1 ≤ maxLen := by unfold maxLen; omega
        have hby : (P.length + 1) * 8 ≤ 140737488355328 := by omega
        clear HY HNO HP
        go_wp2_with (at_builtin; refine wpList_append_own _ rfl _ _ 28 rfl w.heap.size 3 i0 (.int .i64 0) 1 8 Tryd.underlying28 hi hz0 hz1 hz2 rfl (by decide) _ _ _ rfl (hown.alloc _) ⟨wr.heap.size, 0, none⟩ 1 1 [.int .i64 (q : Int)] rfl rfl ?c1 ?c2 h63 hby ?c5 ?_)
        case c1 => exact cell_one_new _ _ _
        case c2 => intro u hu; simp at hu; subst hu; rfl
        case c5 => simp; omega
        intro v' w3 hown1 hgrow _
        have HO4 := Lib.hid (owns_ints (l := P ++ [(q : Int)]) hown1 (by rw [intV_append]; rfl))
        have HB3 := Lib.hid (below_app4 hown HB.out hB hgrow)
        clear hown1 hgrow hown c0
        go_wp2
        go_roundw
        case rel => exact ⟨q + 1, P ++ [(q : Int)], by omega, by go_num, HN, by simp; omega, HO4.out, HB3.out⟩
        case measure => simp [RowKit.intOf]; omega
      · have HN : Hid (P = funI ((plL X).take (q + 1))) := Lib.hid (by rw [HNO.out hk, HP.out])
        have hd : (kd == 0) = false := by simpa using hk
        have HO := Lib.hid hown
        clear HY HNO HP hk hown
        go_wp2
        go_roundw
        case rel => exact ⟨q + 1, P, by omega, by go_num, HN, by omega, HO.out, HB.out⟩
        case measure => simp [RowKit.intOf]; omega
    · have hqq : q = X.length := by omega
      subst hqq
      have HV : Hid (P = funI (plL X)) := Lib.hid (by rw [HP.out, funI_all])
      have HO := Lib.hid hown
      clear hbel hown
      go_wp2
      go_ret
      exact ⟨_, rfl, by rw [← HV.out]; exact HO.out, HB.out⟩

set_option maxRecDepth 100000 in
set_option maxHeartbeats 2000000 in
theorem i_funLines (a : Option Addr) (cap : Nat) (X : List LnL) (w : World) (hl : X.length ≤ 1048576) (hr : ReadL 9 83 w a X) :
    Calls Tryd.prog 85 #[.slice a X.length cap] w (Ints 3 w.heap.size (funI (plL X)) w) := by
  obtain ⟨i0, hi, hz0, hz1, hz2⟩ := info_parts infoI4
  have HR := Lib.hid hr
  have hpl := plL_length X
  clear hr
  go_enter Tryd.func85, Tryd.ntmps85
  go_wp2_with fail
  go_loopw [3, 4, 7] (fun v _ i wr => ∃ (q : Nat) (P : List Int), q ≤ X.length ∧ i = .int .i64 (q : Int) ∧ Hid (P = funI ((plL X).take q)) ∧ P.length ≤ q ∧ wr.ownsRow w.heap.size 3 1 v P.length (intV P) ∧ Below w.heap.size w wr) (fun _ _ i _ => X.length - (RowKit.intOf i).toNat)
  case atStart => exact ⟨0, [], Nat.zero_le _, rfl, Lib.hid (by rw [List.take_zero]; rfl), Nat.le_refl _, World.ownsRow_nil _ _ _ _, Below.refl _ _⟩
  case round =>
    obtain ⟨q, P, hq, rfl, HP, hPq, hown, hbel⟩ := hrel
    have HB := Lib.hid hbel
    have hB := hbel.size
    by_cases hlt : q < X.length
    · have HY := Lib.hid (funI_yes X q hlt)
      have HNO := Lib.hid (funI_no X q hlt)
      have hqp : q < (plL X).length := by omega
      have hlk : lkZ (plL X) (q : Int) = X[q].kind := by rw [lkZ_at _ _ hqp, pl_kind X q hlt]
      have HB0 : Hid (Below wr.heap.size wr (wr.alloc (.cells #[.int .i64 0] 3))) := Lib.hid ((Below.refl _ _).alloc (Nat.le_refl _) _)
      have HI := Lib.hid (fun b d hk => i_lineIs a cap X q b d [0] (wr.alloc (.cells #[.int .i64 0] 3)) (by omega) ((HR.out.below hbel).below HB0.out) hk (by decide) (by decide))
      have HK : Hid (ReadI (wr.alloc (.cells #[.int .i64 0] 3)) (some ⟨wr.heap.size, 0, none⟩) [0]) := Lib.hid (readI_of (B := 0) (T := 3) (c := 1) (World.ownsRow_lit wr #[.int .i64 0] 1 (Nat.zero_le _) (by decide) rfl))
      rw [fun_mem, hlk] at HI
      have HI' := Lib.hid (HI.out _ 1 HK.out)
      have hz0' : (wr.alloc (.cells #[.int .i64 0] 3)).heap.size = wr.heap.size + 1 := by simp
      have k0 : (0 : Int) ≤ (q : Int) := by omega
      have k1 : (q : Int) < (X.length : Int) := by omega
      have HO := Lib.hid hown
      clear HI HK hlk
      generalize X[q].kind = kd at *
      clear hbel hown
      by_cases hk : kd = 0
      · have HN : Hid (P ++ [(q : Int)] = funI ((plL X).take (q + 1))) := Lib.hid (by rw [HY.out hk, HP.out])
        rw [decide_eq_true hk] at HI'
        have h63 : P.length + 1 ≤ maxLen := by unfold maxLen; omega
        have hby : (P.length + 1) * 8 ≤ 140737488355328 := by omega
        clear HY HNO HP hk
        go_wp2_with fail
        refine HI'.out.mono ?_
        rintro e w1 ⟨rfl, b1⟩
        have hown := owns3_below HO.out (HB0.out.trans (b1.mono (by omega)))
        have HB1 : Hid (Below w.heap.size w w1) := Lib.hid (HB.out.trans ((HB0.out.trans (b1.mono (by omega))).mono hB))
        have z1 := HB1.out.size
        clear b1
        go_wp2_with (at_builtin; refine wpList_append_own _ rfl _ _ 28 rfl w.heap.size 3 i0 (.int .i64 0) 1 8 Tryd.underlying28 hi hz0 hz1 hz2 rfl (by decide) _ _ _ rfl (hown.alloc _) ⟨w1.heap.size, 0, none⟩ 1 1 [.int .i64 (q : Int)] rfl rfl ?c1 ?c2 h63 hby ?c5 ?_)
        case c1 => exact cell_one_new _ _ _
        case c2 => intro u hu; simp at hu; subst hu; rfl
        case c5 => simp; omega
        intro v' w3 hown1 hgrow _
        have HO4 := Lib.hid (owns_ints (l := P ++ [(q : Int)]) hown1 (by rw [intV_append]; rfl))
        have HB3 := Lib.hid (below_app4 hown HB1.out z1 hgrow)
        clear hown1 hgrow hown
        go_wp2
        go_roundw
        case rel => exact ⟨q + 1, P ++ [(q : Int)], by omega, by go_num, HN, by simp; omega, HO4.out, HB3.out⟩
        case measure => simp [RowKit.intOf]; omega
      · have HN : Hid (P = funI ((plL X).take (q + 1))) := Lib.hid (by rw [HNO.out hk, HP.out])
        rw [decide_eq_false hk] at HI'
        clear HY HNO HP hk
        go_wp2_with fail
        refine HI'.out.mono ?_
        rintro e w1 ⟨rfl, b1⟩
        have HO1 := Lib.hid (owns3_below HO.out (HB0.out.trans (b1.mono (by omega))))
        have HB1 : Hid (Below w.heap.size w w1) := Lib.hid (HB.out.trans ((HB0.out.trans (b1.mono (by omega))).mono hB))
        clear b1
        go_wp2
        go_roundw
        case rel => exact ⟨q + 1, P, by omega, by go_num, HN, by omega, HO1.out, HB1.out⟩
        case measure => simp [RowKit.intOf]; omega
    · have hqq : q = X.length := by omega
      subst hqq
      have HV : Hid (P = funI (plL X)) := Lib.hid (by rw [HP.out, funI_all])
      have HO := Lib.hid hown
      clear hbel hown
      go_wp2
      go_ret
      exact ⟨_, rfl, by rw [← HV.out]; exact HO.out, HB.out⟩
end Go.Proofs.YtcnnfhcpkbjolaaDoor
