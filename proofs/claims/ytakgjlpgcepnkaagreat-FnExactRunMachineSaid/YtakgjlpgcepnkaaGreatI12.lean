/- ImageOk, the program's; Address spaces, the program's: SpaceOk, Locate; The program's bytes of a number, and the number of bytes: an array by value. -/
import Derived.Test.YtakgjlpgcepnkaaGreatI09
import Derived.Test.YtakgjlpgcepnkaaGreatI11
import Derived.Test.YtakgjlpgcepnkaaGreatI07
import Derived.Maps.OwnSet
import Derived.Maps.OwnOps
import Derived.FnLit
import Derived.Deep.WholeRow
import Derived.Deep.Cut
/-! ImageOk, the program's -/
namespace Go.Proofs.YtakgjlpgcepnkaaGreat
open Go.RowKit Go.Lib Go.Maps

def kNm (n : ByteArray) : Lit := .string n.data.toList
def zBo : DataW Unit := .lit (.bool false)
theorem keySm : Keyed Tryz.prog 9 := string_keyed Tryz.underlying9
theorem zerBo (w : World) : (zeroValue 4).run Tryz.prog w = .ok (.bool false) w := by kernel_rfl
theorem kNm_ne {n m : ByteArray} (h : n ≠ m) : kNm n ≠ kNm m := fun e => h (by
  unfold kNm at e
  injection e with e
  exact ByteArray.ext (Array.ext' e))
theorem kNm_lit (n : ByteArray) : WideAt.IsKeyLit (kNm n) := by unfold kNm WideAt.IsKeyLit; trivial
/-- The map says which names there were. -/
def SeenD (D : DataW Unit) (seen : List ByteArray) : Prop := ∀ nm, D.atKey (kNm nm) zBo = .lit (.bool (seen.any fun n => decide (n = nm)))
theorem SeenD.nil : SeenD (.map []) [] := fun nm => rfl
theorem SeenD.put {D : DataW Unit} {seen : List ByteArray} (h : SeenD D seen) (hD : IsMap D) (x : ByteArray) : SeenD (D.put (kNm x) (.lit (.bool true))) (x :: seen) := fun nm => by
  by_cases e : x = nm
  · subst e
    rw [atKey_put_same hD (kNm_lit _) _ _]
    simp
  · rw [atKey_put_other (kNm_ne (fun e' => e e'.symm)), h nm]
    simp [e]
set_option maxRecDepth 100000 in
/-- What a look at the map comes to. -/
theorem seen_look {w : World} {mb n : Nat} {D : DataW Unit} {seen : List ByteArray} (h : w.ownsMap (H := Unit) Tryz.prog 9 (plainElem Tryz.prog 4) mb n D) (hS : SeenD D seen) (nm : ByteArray) (hn : nm.size ≤ maxLen) :
    (Instr.lookup 112 (.map (some mb)) (.string nm) false).run Tryz.prog w = .ok (.bool (seen.any fun m => decide (m = nm))) w := by
  obtain ⟨v, ps, hrun, hv⟩ := h.lookup keySm Tryz.underlying112 (zerBo w) (plainElem_bool Tryz.underlying4 false) (Go.WideMaps.keyOf_string_mk Tryz.underlying9 hn)
  have hs := hS nm
  unfold kNm zBo at hs
  rw [hs] at hv
  rw [hrun]
  cases v with
  | bool b =>
    rw [plainElem_bool Tryz.underlying4] at hv
    have h1 : (DataW.lit (.bool b) : DataW Unit) = .lit (.bool (seen.any fun m => decide (m = nm))) := congrArg Prod.fst (Option.some.inj hv)
    injection h1 with h1
    injection h1 with h1
    rw [h1]
  | _ => simp [plainElem, Tryz.underlying4] at hv

set_option maxRecDepth 100000 in
set_option maxHeartbeats 4000000 in
theorem i_imageOk (s : ByteArray) (a : Option Addr) (cap : Nat) (X : List SyL) (w : World) (hs : s.size ≤ 1048576) (hl : X.length ≤ 1048576) (hn : ∀ x ∈ X, x.name.size ≤ 1048576) (hr : ReadSy w a X) :
    Calls Tryz.prog 45 #[.agg #[.string s, .slice a X.length cap]] w fun e w' => e = .returned (.bool (imgB s.data.toList X)) ∧ Below w.heap.size w w' := by
  have HR := Lib.hid hr
  have HNZ := Lib.hid hn
  have HBX : Hid (Below w.heap.size w (w.alloc (.cells #[.string s, .slice a X.length cap] 65))) := Lib.hid ((Below.refl _ _).alloc (Nat.le_refl _) _)
  have hmm := @run_makeMap Tryz.prog
  by_cases hbig : 1000000 < s.size
  · have HV := Lib.hid (imgB_big s X hbig)
    have hb2 : (1000000 : Int) < (s.size : Int) := by omega
    clear hr hn hbig
    go_enter Tryz.func45, Tryz.ntmps45
    go_wp2
    go_ret
    exact ⟨ret_b HV.out.symm, HBX.out⟩
  have hb2 : ¬ (1000000 : Int) < (s.size : Int) := by omega
  have T2 := Lib.hid (two_new w (.cells #[.string s, .slice a X.length cap] 65) (.map #[] 0))
  obtain ⟨w0, hw0⟩ : ∃ W, (w.alloc (.cells #[.string s, .slice a X.length cap] 65)).alloc (.map #[] 0) = W := ⟨_, rfl⟩
  have HM0 : Hid (w0.ownsMap (H := Unit) Tryz.prog 9 (plainElem Tryz.prog 4) (w.heap.size + 1) 0 (.map [])) := Lib.hid (by
    have h := World.ownsMap_made (H := Unit) (w.alloc (.cells #[.string s, .slice a X.length cap] 65)) Tryz.prog 9 (plainElem Tryz.prog 4)
    rw [hw0] at h
    simpa using h)
  rw [hw0] at T2
  have HW0 := Lib.hid hw0
  have HC1 : Hid (∀ W, w0.grownBy W (some (w.heap.size + 1)) → W.cell? ⟨w.heap.size, 0, none⟩ = some (.string s) ∧ W.cell? ⟨w.heap.size, 1, none⟩ = some (.slice a X.length cap)) := Lib.hid (fun W hb => by
    have h := (hb.block w.heap.size (by have := T2.out.2.2.1; omega) (by intro e; injection e; omega)).trans T2.out.1
    exact ⟨(blk h).1 0 _ rfl, (blk h).1 1 _ rfl⟩)
  have HBG : Hid (∀ W, w0.grownBy W (some (w.heap.size + 1)) → Below w.heap.size w W) := Lib.hid (fun W hb => T2.out.2.2.2.grown hb (by have := T2.out.2.2.1; omega) (fun k hk => by injection hk; omega))
  have HSN : Hid (s.size ≤ 1000000) := Lib.hid (by omega)
  clear hr hn hw0 hbig
  go_enter Tryz.func45, Tryz.ntmps45
  go_upto_region 5 with fail
  rw [HW0.out]
  obtain ⟨cA, cB⟩ := HC1.out w0 (World.grownBy.refl _ _)
  go_wp2_with fail
  clear cA cB
  go_loopw [3, 6, 17] (fun rs _ i wr => ∃ (q p n : Nat) (r : ByteArray) (D : DataW Unit), q ≤ X.length ∧ i = .int .i64 (q : Int) ∧ rs = .string r ∧ Hid (r.data.toList = s.data.toList.drop p) ∧ r.size + p = s.size ∧ Hid (IOk s X q p) ∧ n ≤ q ∧ Hid (wr.ownsMap (H := Unit) Tryz.prog 9 (plainElem Tryz.prog 4) (w.heap.size + 1) n D) ∧ Hid (SeenD D (seenL X q)) ∧ Hid (w0.grownBy wr (some (w.heap.size + 1)))) (fun _ _ i _ => X.length - (RowKit.intOf i).toNat)
  case atStart => exact ⟨0, 0, 0, s, .map [], Nat.zero_le _, rfl, rfl, Lib.hid rfl, rfl, Lib.hid (IOk.start s X), Nat.le_refl _, HM0, Lib.hid SeenD.nil, Lib.hid (World.grownBy.refl _ _)⟩
  case round =>
    obtain ⟨q, p, n, r, D, hq, rfl, rfl, HRL, hrs, HE, hnq, HM, HSD, HG⟩ := hrel
    obtain ⟨cA, cB⟩ := HC1.out wr HG.out
    have HBW := Lib.hid (HBG.out wr HG.out)
    have hz := HG.out.size
    have hz0 := T2.out.2.2.1
    by_cases hlt : q < X.length
    · obtain ⟨g, hga, hg, c0, c1, c2⟩ := (HR.out.below HBW.out) q hlt
      have k0 : (0 : Int) ≤ (q : Int) := by omega
      have k1 : (q : Int) < (X.length : Int) := by omega
      have N1 := Lib.hid (HE.out.bad1 hlt)
      have N2 := Lib.hid (HE.out.bad2 hlt)
      have N3 := Lib.hid (HE.out.bad3 hlt)
      have N4 := Lib.hid (HE.out.bad4 hlt)
      have N5 := Lib.hid (HE.out.bad5 hlt)
      have N6 := Lib.hid (HE.out.bad6 hlt)
      have NX := Lib.hid (HE.out.next hlt)
      have hnz := HNZ.out _ (List.getElem_mem hlt)
      have HSS := Lib.hid (seenL_succ X q hlt)
      generalize X[q] = xx at *
      obtain ⟨nm, st, sz⟩ := xx
      dsimp only at c0 c1 c2 N1 N2 N3 N4 N5 N6 NX hnz HSS
      subst hga
      have NM := Lib.hid (fun W => i_name7n nm W (by unfold maxLen; omega))
      have usub : IntKind.i64.wrap ((s.size : Int) - (r.size : Int)) = (p : Int) := by rw [IntWalk.i64_in _ (by omega)]; omega
      obtain ⟨wy, hwy⟩ : ∃ W, wr.alloc (.cells #[.string nm, .int .i64 st, .int .i64 sz] 70) = W := ⟨_, rfl⟩
      have HP : Hid (wy.heap[wr.heap.size]? = some (.cells #[.string nm, .int .i64 st, .int .i64 sz] 70 (0, 0))) := Lib.hid (by rw [← hwy]; exact heap_alloc_new wr _)
      have HGY : Hid (w0.grownBy wy (some (w.heap.size + 1))) := Lib.hid (by rw [← hwy]; exact grown_alloc HG.out _)
      have HMY : Hid (wy.ownsMap (H := Unit) Tryz.prog 9 (plainElem Tryz.prog 4) (w.heap.size + 1) n D) := Lib.hid (by rw [← hwy]; exact HM.out.alloc _)
      have HWY := Lib.hid hwy
      have HBW2 := Lib.hid (HBG.out wy HGY.out)
      clear hwy
      go_upto_region 8 with fail
      rw [HWY.out]
      obtain ⟨cy0, cy1⟩ := HC1.out wy HGY.out
      have p0 := (blk HP.out).1 0 _ rfl
      have p1 := (blk HP.out).1 1 _ rfl
      have p2 := (blk HP.out).1 2 _ rfl
      clear cA cB c0 c1 c2 HWY
      by_cases h1 : st = (p : Int)
      · subst h1
        by_cases h2 : sz < 1
        · have HV := Lib.hid (imgB_no s X (N2.out h2))
          clear N1 N2 N3 N4 N5 N6 NX NM
          go_wp2
          go_ret
          exact ⟨ret_b HV.out.symm, HBW2.out⟩
        by_cases h3 : (r.size : Int) < sz
        · have HV := Lib.hid (imgB_no s X (N3.out (by omega)))
          clear N1 N2 N3 N4 N5 N6 NX NM
          go_wp2
          go_ret
          exact ⟨ret_b HV.out.symm, HBW2.out⟩
        cases h4 : nameB nm with
        | false =>
          have HV := Lib.hid (imgB_no s X (N4.out h4))
          rw [h4] at NM
          clear N1 N2 N3 N4 N5 N6 NX h4
          go_wp2_with fail
          refine (NM.out _).mono ?_
          rintro e w' ⟨rfl, rfl⟩
          go_wp2
          go_ret
          exact ⟨ret_b HV.out.symm, HBW2.out⟩
        | true =>
          rw [h4] at NM
          have H4 := Lib.hid h4
          have LK := seen_look HMY.out HSD.out nm (by unfold maxLen; omega)
          clear h4
          cases h5 : (seenL X q).any fun m => decide (m = nm) with
          | true =>
            have HV := Lib.hid (imgB_no s X (N5.out h5))
            rw [h5] at LK
            clear N1 N2 N3 N4 N5 N6 NX h5
            go_wp2_with fail
            refine (NM.out _).mono ?_
            rintro e w' ⟨rfl, rfl⟩
            go_wp2
            go_ret
            exact ⟨ret_b HV.out.symm, HBW2.out⟩
          | false =>
            have H5 := Lib.hid h5
            rw [h5] at LK
            clear h5
            obtain ⟨m, hm⟩ := Int.eq_ofNat_of_zero_le (show 0 ≤ sz by omega)
            subst hm
            have HXX : Hid ((r.extract 0 m).data.toList = (s.data.toList.drop p).take m) := Lib.hid (by rw [ext_toList, List.drop_zero, Nat.sub_zero, HRL.out])
            have HXL : Hid ((r.extract 0 m).size ≤ 1048576) := Lib.hid (by rw [ByteArray.size_extract]; omega)
            have HYY : Hid ((r.extract m r.size).data.toList = s.data.toList.drop (p + m)) := Lib.hid (by rw [from_list, HRL.out, List.drop_drop])
            have HYZ : Hid ((r.extract m r.size).size = r.size - m) := Lib.hid (from_size r m)
            have DS := Lib.hid (fun W => i_can (r.extract 0 m) W HXL.out)
            rw [HXX.out] at DS
            have hsl : ∀ W : World, (Instr.slice 9 (.string r) none (some (.int .i64 (m : Int))) none).run Tryz.prog W = .ok (.string (r.extract 0 m)) W := fun W => by
              rw [run_slice_string_to_if W _ r .i64 _ Tryz.underlying9, if_pos ⟨by omega, by omega⟩, Int.toNat_natCast]
            have hsl2 : ∀ W : World, (Instr.slice 9 (.string r) (some (.int .i64 (m : Int))) none none).run Tryz.prog W = .ok (.string (r.extract m r.size)) W := fun W => by
              rw [run_slice_string_from_if W _ r .i64 _ Tryz.underlying9, if_pos ⟨by omega, by omega⟩, Int.toNat_natCast]
            generalize r.extract 0 m = xs at *
            obtain ⟨rs2, hrs2⟩ : ∃ x, r.extract m r.size = x := ⟨_, rfl⟩
            rw [hrs2] at HYY HYZ hsl2
            obtain ⟨db, hdb⟩ : ∃ b, disB ((s.data.toList.drop p).take m) = b := ⟨_, rfl⟩
            rw [hdb] at DS
            have HPN := Lib.hid (show (1 : Int) ≤ (m : Int) ∧ (m : Int) ≤ (s.size : Int) - (p : Int) from ⟨by omega, by omega⟩)
            clear hrs2 HXX HXL
            go_wp2_with fail
            refine (NM.out _).mono ?_
            rintro e w' ⟨rfl, rfl⟩
            go_wp2_with fail
            refine (DS.out _).mono ?_
            rintro e w4 ⟨rfl, b4⟩
            have HG4 : Hid (w0.grownBy w4 (some (w.heap.size + 1))) := Lib.hid (HGY.out.trans (grown_of_below b4 _))
            have HBW4 := Lib.hid (HBG.out w4 HG4.out)
            have HP4 := Lib.hid ((b4.block _ (blk HP.out).2.2).trans HP.out)
            have HM4 : Hid (w4.ownsMap (H := Unit) Tryz.prog 9 (plainElem Tryz.prog 4) (w.heap.size + 1) n D) := Lib.hid (HMY.out.kept (grown_of_below b4 none) (by simp))
            have p42 := (blk HP4.out).1 2 _ rfl
            have p40 := (blk HP4.out).1 0 _ rfl
            clear b4 p0 p1 p2 cy0 cy1 LK
            cases db with
            | false =>
              have HV := Lib.hid (imgB_no s X (N6.out hdb))
              clear N1 N2 N3 N4 N5 N6 NX NM hdb
              go_wp2
              go_ret
              exact ⟨ret_b HV.out.symm, HBW4.out⟩
            | true =>
              have HNX := Lib.hid (NX.out (by first | trivial | rfl) HPN.out.1 HPN.out.2 H4.out H5.out hdb)
              clear N1 N2 N3 N4 N5 N6 NX NM hdb
              obtain ⟨w5, hrun, hM5, hg5⟩ := HM4.out.update keySm Tryz.underlying112 (by unfold maxLen; omega) (Go.WideMaps.keyOf_string_mk Tryz.underlying9 (show nm.size ≤ maxLen by unfold maxLen; omega)) (val := .bool true) (plainElem_bool Tryz.underlying4 true)
              have HM5 := Lib.hid hM5
              have HG5 : Hid (w0.grownBy w5 (some (w.heap.size + 1))) := Lib.hid (HG4.out.trans hg5)
              have HS5 : Hid (SeenD (D.put (kNm nm) (.lit (.bool true))) (seenL X (q + 1))) := Lib.hid (by rw [HSS.out]; exact HSD.out.put HM4.out.isMap nm)
              clear hM5 hg5
              go_wp2
              go_roundw
              case rel => exact ⟨q + 1, p + m, n + 1, rs2, _, by omega, by go_num, rfl, HYY, by have := HYZ.out; omega, HNX, by omega, HM5, HS5, HG5⟩
              case measure => simp [RowKit.intOf]; omega
      · have HV := Lib.hid (imgB_no s X (N1.out h1))
        clear N1 N2 N3 N4 N5 N6 NX NM
        go_wp2
        go_ret
        exact ⟨ret_b HV.out.symm, HBW2.out⟩
    · have hqq : q = X.length := by omega
      have HD := Lib.hid (imgB_is s X _ (HE.out.done hqq))
      have k1 : ¬ (q : Int) < (X.length : Int) := by omega
      clear hqq
      by_cases h1 : r.size = 0
      · have HV : Hid (imgB s.data.toList X = true) := Lib.hid (by rw [HD.out, decide_eq_true HSN.out, decide_eq_true (show p = s.size by omega)]; rfl)
        have hre : r = ⟨#[]⟩ := ByteArray.ext (Array.eq_empty_of_size_eq_zero h1)
        clear HD
        subst hre
        go_wp2
        go_ret
        exact ⟨ret_b HV.out.symm, HBW.out⟩
      · have HV : Hid (imgB s.data.toList X = false) := Lib.hid (by rw [HD.out, decide_eq_false (show ¬ p = s.size by omega)]; simp)
        have hne : r ≠ ⟨#[]⟩ := fun e => h1 (by rw [e]; rfl)
        have hdd := str_ne _ _ hne
        have HEM : Hid (r.toList.isEmpty = false) := Lib.hid (by
          rw [ByteArray.toList_eq]
          cases hr : r.data.toList with
          | nil => exact absurd (by rw [← list_len, hr]; rfl) h1
          | cons x t => rfl)
        clear HD h1 hne
        go_wp2
        go_ret
        exact ⟨ret_b (HEM.out.trans HV.out.symm), HBW.out⟩
end Go.Proofs.YtakgjlpgcepnkaaGreat

/-! Address spaces, the program's: SpaceOk, Locate -/
namespace Go.Proofs.YtakgjlpgcepnkaaGreat
open Go.RowKit Go.Lib

theorem run_neq_spot (i j o p : Int) (W : World) : (binOp .neq 84 (.agg #[.int .i64 i, .int .i64 o]) (.agg #[.int .i64 j, .int .i64 p])).run Tryz.prog W = .ok (.bool (!(decide (i = j) && decide (o = p)))) W := by
  have hu : Tryz.prog.underlying 84 = some (.struct (Tryz.prog.fieldsOf 84)) := by kernel_rfl
  rw [run_neq_struct, run_equalIn_struct W 9999 84 _ _ hu (by kernel_rfl)]
  simp [Program.fieldsOf, Tryz.underlying84, Tryz.underlying3, Op.eqFields, go_sem]
  by_cases h1 : i = j <;> by_cases h2 : o = p <;> simp [h1, h2]
/-- The cells of a space in memory. -/
def SpCells (W : World) (c : Nat) (v0 v1 v2 : Value) : Prop := W.cell? ⟨c, 0, none⟩ = some v0 ∧ W.cell? ⟨c, 1, none⟩ = some v1 ∧ W.cell? ⟨c, 2, none⟩ = some v2
theorem SpCells.below {w W : World} {c : Nat} {v0 v1 v2 : Value} (h : SpCells w c v0 v1 v2) (hc : c < w.heap.size) (hb : Below w.heap.size w W) : SpCells W c v0 v1 v2 := ⟨(hb.cell (p := ⟨c, 0, none⟩) hc).trans h.1, (hb.cell (p := ⟨c, 1, none⟩) hc).trans h.2.1, (hb.cell (p := ⟨c, 2, none⟩) hc).trans h.2.2⟩
/-- The first element for which a question is answered with yes. -/
def ixP (p : Int → Bool) : Nat → List Int → Int
  | _, [] => -1
  | k, x :: r => if p x = true then (k : Int) else ixP p (k + 1) r
theorem ixP_yes (p : Int → Bool) (E : List Int) (k : Nat) (h : k < E.length) (hp : p E[k] = true) : ixP p k (E.drop k) = (k : Int) := by rw [List.drop_eq_getElem_cons h, ixP, if_pos hp]
theorem ixP_no (p : Int → Bool) (E : List Int) (k : Nat) (h : k < E.length) (hp : p E[k] = false) : ixP p k (E.drop k) = ixP p (k + 1) (E.drop (k + 1)) := by rw [List.drop_eq_getElem_cons h, ixP, if_neg (by rw [hp]; decide)]
theorem ixP_out (p : Int → Bool) (E : List Int) (k : Nat) (h : E.length ≤ k) : ixP p k (E.drop k) = -1 := by rw [List.drop_eq_nil_of_le h]; rfl
theorem ixP_any (p : Int → Bool) : ∀ (E : List Int) (k : Nat), decide (0 ≤ ixP p k E) = E.any p
  | [], k => by rw [ixP]; rfl
  | x :: r, k => by
    rw [ixP, List.any_cons]
    cases hp : p x with
    | true => rw [if_pos rfl, Bool.true_or]; exact decide_eq_true (by omega)
    | false => rw [if_neg (by decide), Bool.false_or]; exact ixP_any p r (k + 1)

set_option maxRecDepth 100000 in
set_option maxHeartbeats 4000000 in
theorem i_ent (x0 x1 : ImA) (b0 b1 e : Int) (a0 a1 a2 : Option Addr) (c0 c1 c2 n2 c : Nat) (w : World) (hI : ReadIms w a0 [x0, x1]) (hB : ReadI w a1 [b0, b1]) (hc : SpCells w c (.slice a0 2 c0) (.slice a1 2 c1) (.slice a2 n2 c2)) (hcl : c < w.heap.size) (SP : SpIs x0 x1 b0 b1 []) (hs0 : SmallI x0) (hs1 : SmallI x1) :
    Calls Tryz.prog 48 #[.int .i64 e, .pointer (some ⟨c, 0, none⟩)] w fun ee w' => ee = .returned (.bool (!entB x0 x1 b0 b1 e)) ∧ Below w.heap.size w w' := by
  have SO := Lib.hid (fun W (hb : Below w.heap.size w W) => i_spot x0 x1 b0 b1 e a0 a1 a2 c0 c1 c2 n2 W (hI.below hb) (hB.below hb) SP.l0 SP.u0 SP.l1 SP.u1 hs0.1 hs1.1)
  have S0 := Lib.hid (fun W (hb : Below w.heap.size w W) po => i_start0 x0 x1 po a0 a1 a2 c0 c1 c2 2 n2 W (hI.below hb) hs0.2.1)
  have S1 := Lib.hid (fun W (hb : Below w.heap.size w W) po => i_start1 x0 x1 po a0 a1 a2 c0 c1 c2 2 n2 W (hI.below hb) hs1.2.1)
  have HC := Lib.hid (fun W (hb : Below w.heap.size w W) => hc.below hcl hb)
  have EN := Lib.hid (@ent_neg x0 x1 b0 b1 e)
  have EI := Lib.hid (fun i o => @ent_is x0 x1 b0 b1 e i o)
  have SC := spot_cases b0 x0.s.size b1 x1.s.size e
  have SS := Lib.hid (fun i o => @SpIs.spot x0 x1 b0 b1 [] SP e i o)
  change (spA x0 x1 b0 b1 e = _ ∧ _) ∨ (spA x0 x1 b0 b1 e = _ ∧ _) ∨ (spA x0 x1 b0 b1 e = _ ∧ _) at SC
  obtain ⟨e0, e1, e2⟩ := hc
  have HS0 : Hid (symsOf x0 x1 0 = x0.l ∧ symsOf x0 x1 1 = x1.l) := Lib.hid ⟨rfl, rfl⟩
  obtain ⟨en, hen⟩ : ∃ b, entB x0 x1 b0 b1 e = b := ⟨_, rfl⟩
  rw [hen] at EN EI ⊢
  obtain ⟨⟨pi, po⟩, hpp⟩ : ∃ p, spA x0 x1 b0 b1 e = p := ⟨_, rfl⟩
  rw [hpp] at SO EN EI SC SS
  clear hI hB SP hs0 hs1 hen hpp
  rcases SC with ⟨h0, h1, h2⟩ | ⟨h0, h1, h2, h3⟩ | ⟨h0, h1, h2⟩
  · obtain ⟨hpi, hpo⟩ := Prod.mk.inj h0
    subst hpi
    obtain ⟨_, ky, hky, hy, hst0, hst1⟩ := SS.out 0 po rfl (by omega)
    have EI2 := Lib.hid (EI.out 0 po rfl (by omega))
    rw [HS0.out.1] at hy
    have hky' : ky < x0.l.length := by rw [← HS0.out.1]; exact hky
    have HE : Hid (en = decide ((x0.l[ky]).start = po)) := Lib.hid (by rw [EI2.out, HS0.out.1, begZ_at hky' hy])
    have SQ := Lib.hid (fun W (hb : Below w.heap.size w W) => S0.out W hb po ky hky' hy)
    have SOV : Hid (∀ W, Below w.heap.size w W → Calls Tryz.prog 49 #[.agg #[.slice a0 2 c0, .slice a1 2 c1, .slice a2 n2 c2], .int .i64 e] W fun e w' => e = .returned (.tuple #[.agg #[.int .i64 0, .int .i64 po], .bool true]) ∧ Below W.heap.size W w') := Lib.hid (fun W hb => by have h := SO.out W hb; rw [spotV_yes (show ¬ (0 : Int) < 0 by omega)] at h; exact h)
    generalize (x0.l[ky]).start = st at *
    clear h0 h1 h2 hpo EN EI EI2 SO S0 S1 SS hy hst0 hst1 hky hky' HS0
    go_enter Tryz.func48, Tryz.ntmps48
    go_wp2_with fail
    refine (SOV.out _ (Below.refl _ _)).mono ?_
    rintro e w1 ⟨rfl, b1⟩
    have HB1 := Lib.hid b1
    obtain ⟨e3, e4, e5⟩ := HC.out _ b1
    clear b1
    obtain ⟨W1, hW1⟩ : ∃ W, w1.alloc (.cells #[.int .i64 0, .int .i64 po] 84) = W := ⟨_, rfl⟩
    have B2 : Hid (Below w1.heap.size w1 W1) := Lib.hid (hW1 ▸ (Below.refl _ _).alloc (Nat.le_refl _) _)
    have P2 : Hid (W1.heap[w1.heap.size]? = some (.cells #[.int .i64 0, .int .i64 po] 84 (0, 0))) := Lib.hid (by rw [← hW1]; exact heap_alloc_new w1 _)
    have Z1 := HB1.out.size
    have HBW : Hid (∀ W, Below W1.heap.size W1 W → Below w.heap.size w W) := Lib.hid (fun W hb => HB1.out.trans ((B2.out.trans (hb.mono (B2.out.size))).mono Z1))
    have KP : Hid (∀ W, Below W1.heap.size W1 W → (W.cell? ⟨c, 0, none⟩ = some (.slice a0 2 c0) ∧ W.cell? ⟨c, 1, none⟩ = some (.slice a1 2 c1) ∧ W.cell? ⟨c, 2, none⟩ = some (.slice a2 n2 c2)) ∧ (W.cell? ⟨w1.heap.size, 0, none⟩ = some (.int .i64 0) ∧ W.cell? ⟨w1.heap.size, 1, none⟩ = some (.int .i64 po))) := Lib.hid (fun W hb => by
      have h := (hb.block _ (blk P2.out).2.2).trans P2.out
      exact ⟨HC.out W (HBW.out W hb), (blk h).1 0 _ rfl, (blk h).1 1 _ rfl⟩)
    have HW1 := Lib.hid hW1
    clear hW1
    go_upto_region 2 with fail
    rw [HW1.out]
    clear e0 e1 e2 e3 e4 e5
    have hbin := fun W => run_neq_spot 0 0 st po W
    go_region_held3 (fun W => (W.cell? ⟨c, 0, none⟩ = some (.slice a0 2 c0) ∧ W.cell? ⟨c, 1, none⟩ = some (.slice a1 2 c1) ∧ W.cell? ⟨c, 2, none⟩ = some (.slice a2 n2 c2)) ∧ (W.cell? ⟨w1.heap.size, 0, none⟩ = some (.int .i64 0) ∧ W.cell? ⟨w1.heap.size, 1, none⟩ = some (.int .i64 po)))
      (first | exact KP.out _ (Below.refl W1.heap.size W1).drew | exact KP.out _ (undrew b5))
      (first
        | (go_at_call 50; (with_reducible refine (SQ.out _ ?_).mono ?_); exact HBW.out _ (Below.refl W1.heap.size W1).drew; rintro e w5 ⟨rfl, b5⟩))
    all_goals
      have HB5 := Lib.hid (HBW.out _ (undrew b5))
      clear b5
      by_cases hst : st = po
      · have HV : Hid (en = true) := Lib.hid (by rw [HE.out, decide_eq_true hst])
        subst hst
        go_wp2
        go_ret
        exact ⟨by rw [HV.out]; simp, HB5.out⟩
      · have HV : Hid (en = false) := Lib.hid (by rw [HE.out, decide_eq_false hst])
        go_wp2
        go_ret
        exact ⟨by rw [HV.out]; simp [hst], HB5.out⟩
  · obtain ⟨hpi, hpo⟩ := Prod.mk.inj h0
    subst hpi
    obtain ⟨_, ky, hky, hy, hst0, hst1⟩ := SS.out 1 po rfl (by omega)
    have EI2 := Lib.hid (EI.out 1 po rfl (by omega))
    rw [HS0.out.2] at hy
    have hky' : ky < x1.l.length := by rw [← HS0.out.2]; exact hky
    have HE : Hid (en = decide ((x1.l[ky]).start = po)) := Lib.hid (by rw [EI2.out, HS0.out.2, begZ_at hky' hy])
    have SQ := Lib.hid (fun W (hb : Below w.heap.size w W) => S1.out W hb po ky hky' hy)
    have SOV : Hid (∀ W, Below w.heap.size w W → Calls Tryz.prog 49 #[.agg #[.slice a0 2 c0, .slice a1 2 c1, .slice a2 n2 c2], .int .i64 e] W fun e w' => e = .returned (.tuple #[.agg #[.int .i64 1, .int .i64 po], .bool true]) ∧ Below W.heap.size W w') := Lib.hid (fun W hb => by have h := SO.out W hb; rw [spotV_yes (show ¬ (1 : Int) < 0 by omega)] at h; exact h)
    generalize (x1.l[ky]).start = st at *
    clear h0 h1 h2 hpo h3 EN EI EI2 SO S0 S1 SS hy hst0 hst1 hky hky' HS0
    go_enter Tryz.func48, Tryz.ntmps48
    go_wp2_with fail
    refine (SOV.out _ (Below.refl _ _)).mono ?_
    rintro e w1 ⟨rfl, b1⟩
    have HB1 := Lib.hid b1
    obtain ⟨e3, e4, e5⟩ := HC.out _ b1
    clear b1
    obtain ⟨W1, hW1⟩ : ∃ W, w1.alloc (.cells #[.int .i64 1, .int .i64 po] 84) = W := ⟨_, rfl⟩
    have B2 : Hid (Below w1.heap.size w1 W1) := Lib.hid (hW1 ▸ (Below.refl _ _).alloc (Nat.le_refl _) _)
    have P2 : Hid (W1.heap[w1.heap.size]? = some (.cells #[.int .i64 1, .int .i64 po] 84 (0, 0))) := Lib.hid (by rw [← hW1]; exact heap_alloc_new w1 _)
    have Z1 := HB1.out.size
    have HBW : Hid (∀ W, Below W1.heap.size W1 W → Below w.heap.size w W) := Lib.hid (fun W hb => HB1.out.trans ((B2.out.trans (hb.mono (B2.out.size))).mono Z1))
    have KP : Hid (∀ W, Below W1.heap.size W1 W → (W.cell? ⟨c, 0, none⟩ = some (.slice a0 2 c0) ∧ W.cell? ⟨c, 1, none⟩ = some (.slice a1 2 c1) ∧ W.cell? ⟨c, 2, none⟩ = some (.slice a2 n2 c2)) ∧ (W.cell? ⟨w1.heap.size, 0, none⟩ = some (.int .i64 1) ∧ W.cell? ⟨w1.heap.size, 1, none⟩ = some (.int .i64 po))) := Lib.hid (fun W hb => by
      have h := (hb.block _ (blk P2.out).2.2).trans P2.out
      exact ⟨HC.out W (HBW.out W hb), (blk h).1 0 _ rfl, (blk h).1 1 _ rfl⟩)
    have HW1 := Lib.hid hW1
    clear hW1
    go_upto_region 2 with fail
    rw [HW1.out]
    clear e0 e1 e2 e3 e4 e5
    have hbin := fun W => run_neq_spot 1 1 st po W
    go_region_held3 (fun W => (W.cell? ⟨c, 0, none⟩ = some (.slice a0 2 c0) ∧ W.cell? ⟨c, 1, none⟩ = some (.slice a1 2 c1) ∧ W.cell? ⟨c, 2, none⟩ = some (.slice a2 n2 c2)) ∧ (W.cell? ⟨w1.heap.size, 0, none⟩ = some (.int .i64 1) ∧ W.cell? ⟨w1.heap.size, 1, none⟩ = some (.int .i64 po)))
      (first | exact KP.out _ (Below.refl W1.heap.size W1).drew | exact KP.out _ (undrew b5))
      (first
        | (go_at_call 50; (with_reducible refine (SQ.out _ ?_).mono ?_); exact HBW.out _ (Below.refl W1.heap.size W1).drew; rintro e w5 ⟨rfl, b5⟩))
    all_goals
      have HB5 := Lib.hid (HBW.out _ (undrew b5))
      clear b5
      by_cases hst : st = po
      · have HV : Hid (en = true) := Lib.hid (by rw [HE.out, decide_eq_true hst])
        subst hst
        go_wp2
        go_ret
        exact ⟨by rw [HV.out]; simp, HB5.out⟩
      · have HV : Hid (en = false) := Lib.hid (by rw [HE.out, decide_eq_false hst])
        go_wp2
        go_ret
        exact ⟨by rw [HV.out]; simp [hst], HB5.out⟩
  · have HV : Hid (en = false) := Lib.hid (EN.out h0)
    obtain ⟨hpi, hpo⟩ := Prod.mk.inj h0
    subst hpi hpo
    have SOV : Hid (∀ W, Below w.heap.size w W → Calls Tryz.prog 49 #[.agg #[.slice a0 2 c0, .slice a1 2 c1, .slice a2 n2 c2], .int .i64 e] W fun e w' => e = .returned (.tuple #[.agg #[.int .i64 0, .int .i64 0], .bool false]) ∧ Below W.heap.size W w') := Lib.hid (fun W hb => by have h := SO.out W hb; rw [spotV_no (show (-1 : Int) < 0 by omega)] at h; exact h)
    clear h0 h1 h2 EN EI SO S0 S1 SS HS0
    go_enter Tryz.func48, Tryz.ntmps48
    go_wp2_with fail
    refine (SOV.out _ (Below.refl _ _)).mono ?_
    rintro e w1 ⟨rfl, b1⟩
    have HB1 := Lib.hid b1
    have HB2 : Hid (Below w.heap.size w (w1.alloc (.cells #[.int .i64 0, .int .i64 0] 84))) := Lib.hid (b1.alloc b1.size _)
    obtain ⟨e3, e4, e5⟩ := HC.out _ b1
    clear b1
    go_wp2_with fail
    go_quiet (fail)
    go_wp2
    go_ret
    exact ⟨by rw [HV.out]; rfl, drewN_b HB2.out _⟩


set_option maxRecDepth 100000 in
set_option maxHeartbeats 2000000 in
theorem i_ixEnt (p : Int → Bool) (a2 : Option Addr) (c2 : Nat) (E : List Int) (c : Nat) (w : World) (hl : E.length ≤ 1048576) (hE : ReadI w a2 E)
    (hp : ∀ W, Below w.heap.size w W → ∀ e ∈ E, Calls Tryz.prog 48 #[.int .i64 e, .pointer (some ⟨c, 0, none⟩)] W fun ee w' => ee = .returned (.bool (p e)) ∧ Below W.heap.size W w') :
    Calls Tryz.prog 72 #[.slice a2 E.length c2, .func (.func 48) #[] #[.pointer (some ⟨c, 0, none⟩)]] w fun ee w' => ee = .returned (.int .i64 (ixP p 0 E)) ∧ Below w.heap.size w w' := by
  have HR := Lib.hid hE
  have HP := Lib.hid hp
  clear hE hp
  obtain ⟨r, hr⟩ : ∃ r, ixP p 0 E = r := ⟨_, rfl⟩
  rw [hr]
  have HRR : Hid (ixP p 0 (E.drop 0) = r) := Lib.hid hr
  clear hr
  go_enter Tryz.func72, Tryz.ntmps72
  go_wp2_with fail
  go_loopw [4, 5, 8] (fun _ _ i wr => ∃ q : Nat, q ≤ E.length ∧ i = .int .i64 (q : Int) ∧ Hid (ixP p q (E.drop q) = r) ∧ Below w.heap.size w wr) (fun _ _ i _ => E.length - (RowKit.intOf i).toNat)
  case atStart => exact ⟨0, Nat.zero_le _, rfl, HRR, Below.refl _ _⟩
  case round =>
    obtain ⟨q, hq, rfl, HE, hbel⟩ := hrel
    have HB := Lib.hid hbel
    have hB := hbel.size
    by_cases hlt : q < E.length
    · obtain ⟨g, rfl, hg, cE⟩ := (HR.out.below hbel) q hlt
      have HY := Lib.hid (ixP_yes p E q hlt)
      have HNO := Lib.hid (ixP_no p E q hlt)
      have HF := Lib.hid (HP.out wr hbel _ (List.getElem_mem hlt))
      have k0 : (0 : Int) ≤ (q : Int) := by omega
      have k1 : (q : Int) < (E.length : Int) := by omega
      generalize E[q] = x at *
      clear hbel
      cases hb : p x with
      | true =>
        have HN := Lib.hid ((HY.out hb).symm.trans HE.out)
        rw [hb] at HF
        clear HY HNO hb
        go_wp2_with fail
        refine HF.out.mono ?_
        rintro e w1 ⟨rfl, b1⟩
        have HB1 : Hid (Below w.heap.size w w1) := Lib.hid (HB.out.trans (b1.mono hB))
        clear b1 cE
        go_wp2
        go_ret
        exact ⟨by rw [← HN.out]; rfl, HB1.out⟩
      | false =>
        have HN := Lib.hid ((HNO.out hb).symm.trans HE.out)
        rw [hb] at HF
        clear HY HNO hb
        go_wp2_with fail
        refine HF.out.mono ?_
        rintro e w1 ⟨rfl, b1⟩
        have HB1 : Hid (Below w.heap.size w w1) := Lib.hid (HB.out.trans (b1.mono hB))
        clear b1 cE
        go_wp2
        go_roundw
        case rel => exact ⟨q + 1, by omega, by go_num, HN, HB1.out⟩
        case measure => simp [RowKit.intOf]; omega
    · have hqq : q = E.length := by omega
      subst hqq
      have HN : Hid (-1 = r) := Lib.hid (by rw [← HE.out, ixP_out _ _ _ (by omega)])
      clear hbel
      go_wp2
      go_ret
      exact ⟨by rw [← HN.out]; rfl, HB.out⟩

set_option maxRecDepth 100000 in
set_option maxHeartbeats 2000000 in
theorem i_anyEnt (p : Int → Bool) (a2 : Option Addr) (c2 : Nat) (E : List Int) (c : Nat) (w : World) (hl : E.length ≤ 1048576) (hE : ReadI w a2 E)
    (hp : ∀ W, Below w.heap.size w W → ∀ e ∈ E, Calls Tryz.prog 48 #[.int .i64 e, .pointer (some ⟨c, 0, none⟩)] W fun ee w' => ee = .returned (.bool (p e)) ∧ Below W.heap.size W w') :
    Calls Tryz.prog 47 #[.slice a2 E.length c2, .func (.func 48) #[] #[.pointer (some ⟨c, 0, none⟩)]] w fun ee w' => ee = .returned (.bool (E.any p)) ∧ Below w.heap.size w w' := by
  have IX := Lib.hid (i_ixEnt p a2 c2 E c w hl hE hp)
  have HA := Lib.hid (ixP_any p E 0)
  clear hE hp
  generalize ixP p 0 E = r at *
  go_enter Tryz.func47, Tryz.ntmps47
  go_wp2_with fail
  refine IX.out.mono ?_
  rintro e w1 ⟨rfl, b1⟩
  have HB := Lib.hid b1
  clear b1
  go_wp2
  go_ret
  exact ⟨by rw [← HA.out]; rfl, HB.out⟩

theorem all_not (en : Int → Bool) (E : List Int) : (!(E.any fun e => !en e)) = E.all en := by
  induction E with
  | nil => rfl
  | cons x r ih => rw [List.any_cons, List.all_cons, ← ih]; cases en x <;> simp
set_option maxRecDepth 100000 in
set_option maxHeartbeats 4000000 in
theorem i_space2 (x0 x1 : ImA) (b0 b1 : Int) (E : List Int) (a0 a1 a2 : Option Addr) (c0 c1 c2 : Nat) (w : World) (hI : ReadIms w a0 [x0, x1]) (hB : ReadI w a1 [b0, b1]) (hE : ReadI w a2 E) (he1 : 1 ≤ E.length) (he6 : E.length ≤ 6) (hs : SmlSp x0 x1 E) :
    Calls Tryz.prog 27 #[.agg #[.slice a0 2 c0, .slice a1 2 c1, .slice a2 E.length c2]] w fun e w' => e = .returned (.bool (sp2B x0 x1 b0 b1 E)) ∧ Below w.heap.size w w' := by
  have SI0 := Lib.hid (fun W h => i_imageOk x0.s x0.a x0.c x0.l W hs.1.1 hs.1.2.1 hs.1.2.2 h)
  have SI1 := Lib.hid (fun W h => i_imageOk x1.s x1.a x1.c x1.l W hs.2.1.1 hs.2.1.2.1 hs.2.1.2.2 h)
  have OVL := Lib.hid (fun W (hb : Below w.heap.size w W) h1 h2 h3 h4 => i_ovl x0 x1 b0 b1 a0 a1 a2 c0 c1 c2 E.length W (hI.below hb) (hB.below hb) h1 h2 h3 h4 hs.1.1 hs.2.1.1)
  have ANY := Lib.hid (fun (W : World) c (hb : Below w.heap.size w W) (h1 : SpCells W c (.slice a0 2 c0) (.slice a1 2 c1) (.slice a2 E.length c2)) (h2 : c < W.heap.size) (SP : SpIs x0 x1 b0 b1 []) =>
    i_anyEnt (fun e => !entB x0 x1 b0 b1 e) a2 c2 E c W (by omega) (hE.below hb) (fun W2 hb2 e _ => i_ent x0 x1 b0 b1 e a0 a1 a2 c0 c1 c2 E.length c W2 (hI.below (hb.trans (hb2.mono hb.size))) (hB.below (hb.trans (hb2.mono hb.size))) (h1.below h2 hb2) (by have := hb2.size; omega) SP hs.1 hs.2.1))
  have MK := Lib.hid (fun h1 h2 h3 h4 h5 h6 h7 => (⟨h1, h2, h3, h4, h5, h6, h7, fun e he => by simp at he⟩ : SpIs x0 x1 b0 b1 []))
  have B0 := Lib.hid (@sp2_bad0 x0 x1 b0 b1 E)
  have B1 := Lib.hid (@sp2_bad1 x0 x1 b0 b1 E)
  have BO := Lib.hid (@sp2_ov x0 x1 b0 b1 E)
  have BV : Hid (okIB x0 b0 = true → okIB x1 b1 = true → ovB x0 x1 b0 b1 = false → sp2B x0 x1 b0 b1 E = (!(E.any fun e => !entB x0 x1 b0 b1 e))) := Lib.hid (fun h0 h1 h2 => by rw [all_not]; unfold sp2B; rw [h0, h1, h2]; simp)
  have K0 := Lib.hid (show okIB x0 b0 = (imgB x0.s.data.toList x0.l && (decide (1 ≤ b0) && decide (b0 ≤ 1000000))) from rfl)
  have K1 := Lib.hid (show okIB x1 b1 = (imgB x1.s.data.toList x1.l && (decide (1 ≤ b1) && decide (b1 ≤ 1000000))) from rfl)
  have HII := Lib.hid hI
  obtain ⟨g, rfl, hg, HI, HR0, HR1⟩ := readIms2 hI
  obtain ⟨k, rfl, hk, HB1, HB2⟩ := readI2 hB
  have HR0 := Lib.hid HR0
  have HR1 := Lib.hid HR1
  obtain ⟨V, hV⟩ : ∃ V, sp2B x0 x1 b0 b1 E = V := ⟨_, rfl⟩
  rw [hV] at B0 B1 BO BV ⊢
  obtain ⟨ov, hov⟩ : ∃ f, ovB x0 x1 b0 b1 = f := ⟨_, rfl⟩
  rw [hov] at BO OVL MK BV
  obtain ⟨ay, hay⟩ : ∃ f, (E.any fun e => !entB x0 x1 b0 b1 e) = f := ⟨_, rfl⟩
  rw [hay] at ANY BV
  obtain ⟨k0, hk0⟩ : ∃ f, okIB x0 b0 = f := ⟨_, rfl⟩
  obtain ⟨k1, hk1⟩ : ∃ f, okIB x1 b1 = f := ⟨_, rfl⟩
  rw [hk0] at B0 BV K0
  rw [hk1] at B1 BV K1
  have hle6 : ¬ (6 : Int) < (E.length : Int) := by omega
  have hle1 : ¬ (E.length : Int) < 1 := by omega
  obtain ⟨m0, hm0⟩ : ∃ b, imgB x0.s.data.toList x0.l = b := ⟨_, rfl⟩
  obtain ⟨m1, hm1⟩ : ∃ b, imgB x1.s.data.toList x1.l = b := ⟨_, rfl⟩
  rw [hm0] at SI0 K0 MK
  rw [hm1] at SI1 K1 MK
  clear hI hB hE hs hV hov hay hk0 hk1 hm0 hm1
  obtain ⟨s0, L0, y0, d0⟩ := x0
  obtain ⟨s1, L1, y1, d1⟩ := x1
  dsimp only at *
  have HX : Hid (∀ W, Below (w.heap.size + 1) (w.alloc (.cells #[.slice (some ⟨g, 0, none⟩) 2 c0, .slice (some ⟨k, 0, none⟩) 2 c1, .slice a2 E.length c2] 34)) W → (W.cell? ⟨w.heap.size, 0, none⟩ = some (.slice (some ⟨g, 0, none⟩) 2 c0) ∧ W.cell? ⟨w.heap.size, 1, none⟩ = some (.slice (some ⟨k, 0, none⟩) 2 c1) ∧ W.cell? ⟨w.heap.size, 2, none⟩ = some (.slice a2 E.length c2)) ∧ (W.cell? ⟨g, 0, none⟩ = some (.string s0) ∧ W.cell? ⟨g, 1, none⟩ = some (.slice y0 L0.length d0) ∧ W.cell? ⟨g, 2, none⟩ = some (.string s1) ∧ W.cell? ⟨g, 3, none⟩ = some (.slice y1 L1.length d1)) ∧ (W.cell? ⟨k, 0, none⟩ = some (.int .i64 b0) ∧ W.cell? ⟨k, 1, none⟩ = some (.int .i64 b1)) ∧ Below w.heap.size w W) := Lib.hid (fun W hb => by
    have b' : Below w.heap.size w W := ((Below.refl w.heap.size w).alloc (Nat.le_refl _) _).trans (hb.mono (by omega))
    have hn := (hb.block w.heap.size (by omega)).trans (heap_alloc_new w _)
    exact ⟨⟨(blk hn).1 0 _ rfl, (blk hn).1 1 _ rfl, (blk hn).1 2 _ rfl⟩, ⟨(b'.cell (p := ⟨g, 0, none⟩) hg).trans HI.1, (b'.cell (p := ⟨g, 1, none⟩) hg).trans HI.2.1, (b'.cell (p := ⟨g, 2, none⟩) hg).trans HI.2.2.1, (b'.cell (p := ⟨g, 3, none⟩) hg).trans HI.2.2.2⟩, ⟨(b'.cell (p := ⟨k, 0, none⟩) hk).trans HB1, (b'.cell (p := ⟨k, 1, none⟩) hk).trans HB2⟩, b'⟩)
  clear HI HB1 HB2 hg hk HII
  go_enter Tryz.func27, Tryz.ntmps27
  go_wp2_with fail
  go_loopw [2, 3, 4, 30] (fun _ _ _ i wr => ∃ q : Nat, q ≤ 2 ∧ i = .int .i64 (q : Int) ∧ Hid (1 ≤ q → m0 = true ∧ 1 ≤ b0 ∧ b0 ≤ 1000000) ∧ Hid (2 ≤ q → m1 = true ∧ 1 ≤ b1 ∧ b1 ≤ 1000000) ∧ Hid (Below (w.heap.size + 1) (w.alloc (.cells #[.slice (some ⟨g, 0, none⟩) 2 c0, .slice (some ⟨k, 0, none⟩) 2 c1, .slice a2 E.length c2] 34)) wr)) (fun _ _ _ i _ => 2 - (RowKit.intOf i).toNat)
  case atStart => exact ⟨0, by omega, rfl, Lib.hid (fun h => by omega), Lib.hid (fun h => by omega), Lib.hid (Below.refl _ _)⟩
  case round =>
    obtain ⟨q, hq, rfl, N0, N1, HB⟩ := hrel
    obtain ⟨⟨e0, e1, e2⟩, ⟨i0, i1, i2, i3⟩, ⟨p0, p1⟩, HBW⟩ := HX.out _ HB.out
    have HBW := Lib.hid HBW
    have hz := HB.out.size
    have hzz : w.heap.size + 1 ≤ wr.heap.size := by simpa using hz
    clear hz
    match q, hq with
    | 0, _ =>
      by_cases h1 : b0 < 1
      · have HV : Hid (V = false) := Lib.hid (B0.out (by rw [K0.out, decide_eq_false (show ¬ 1 ≤ b0 by omega)]; simp))
        go_wp2
        go_ret
        exact ⟨ret_bs HV.out.symm, HBW.out⟩
      by_cases h2 : 1000000 < b0
      · have HV : Hid (V = false) := Lib.hid (B0.out (by rw [K0.out, decide_eq_false (show ¬ b0 ≤ 1000000 by omega)]; simp))
        go_wp2
        go_ret
        exact ⟨ret_bs HV.out.symm, HBW.out⟩
      have SIq := Lib.hid (SI0.out wr (HR0.out.below HBW.out))
      have HQ : Hid (1 ≤ b0 ∧ b0 ≤ 1000000) := Lib.hid ⟨by omega, by omega⟩
      cases m0 with
      | false =>
        have HV : Hid (V = false) := Lib.hid (B0.out (by rw [K0.out]; rfl))
        go_wp2_with fail
        refine SIq.out.mono ?_
        rintro e w1 ⟨rfl, b1⟩
        have HBX : Hid (Below w.heap.size w w1) := Lib.hid (HBW.out.trans (b1.mono (by omega)))
        clear b1 SIq
        go_wp2
        go_ret
        exact ⟨ret_bs HV.out.symm, HBX.out⟩
      | true =>
        go_wp2_with fail
        refine SIq.out.mono ?_
        rintro e w1 ⟨rfl, b1⟩
        have HB1 : Hid (Below (w.heap.size + 1) (w.alloc (.cells #[.slice (some ⟨g, 0, none⟩) 2 c0, .slice (some ⟨k, 0, none⟩) 2 c1, .slice a2 E.length c2] 34)) w1) := Lib.hid (HB.out.trans (b1.mono (by omega)))
        clear e0 e1 e2 i0 i1 i2 i3 p0 p1 b1 SIq HBW
        go_wp2
        go_roundw
        case rel => exact ⟨1, by omega, by go_num, Lib.hid (fun _ => ⟨by first | trivial | rfl, HQ.out⟩), Lib.hid (fun h => by omega), HB1⟩
        case measure => simp [RowKit.intOf]
    | 1, _ =>
      by_cases h1 : b1 < 1
      · have HV : Hid (V = false) := Lib.hid (B1.out (by rw [K1.out, decide_eq_false (show ¬ 1 ≤ b1 by omega)]; simp))
        go_wp2
        go_ret
        exact ⟨ret_bs HV.out.symm, HBW.out⟩
      by_cases h2 : 1000000 < b1
      · have HV : Hid (V = false) := Lib.hid (B1.out (by rw [K1.out, decide_eq_false (show ¬ b1 ≤ 1000000 by omega)]; simp))
        go_wp2
        go_ret
        exact ⟨ret_bs HV.out.symm, HBW.out⟩
      have SIq := Lib.hid (SI1.out wr (HR1.out.below HBW.out))
      have HQ : Hid (1 ≤ b1 ∧ b1 ≤ 1000000) := Lib.hid ⟨by omega, by omega⟩
      cases m1 with
      | false =>
        have HV : Hid (V = false) := Lib.hid (B1.out (by rw [K1.out]; rfl))
        go_wp2_with fail
        refine SIq.out.mono ?_
        rintro e w1 ⟨rfl, b1⟩
        have HBX : Hid (Below w.heap.size w w1) := Lib.hid (HBW.out.trans (b1.mono (by omega)))
        clear b1 SIq
        go_wp2
        go_ret
        exact ⟨ret_bs HV.out.symm, HBX.out⟩
      | true =>
        go_wp2_with fail
        refine SIq.out.mono ?_
        rintro e w1 ⟨rfl, b1⟩
        have HB1 : Hid (Below (w.heap.size + 1) (w.alloc (.cells #[.slice (some ⟨g, 0, none⟩) 2 c0, .slice (some ⟨k, 0, none⟩) 2 c1, .slice a2 E.length c2] 34)) w1) := Lib.hid (HB.out.trans (b1.mono (by omega)))
        clear e0 e1 e2 i0 i1 i2 i3 p0 p1 b1 SIq HBW
        go_wp2
        go_roundw
        case rel => exact ⟨2, by omega, by go_num, Lib.hid (fun _ => N0.out (by omega)), Lib.hid (fun _ => ⟨by first | trivial | rfl, HQ.out⟩), HB1⟩
        case measure => simp [RowKit.intOf]
    | 2, _ =>
      obtain ⟨g0, l0, u0⟩ := N0.out (by omega)
      obtain ⟨g1, l1, u1⟩ := N1.out (by omega)
      have OV2 := Lib.hid (OVL.out wr HBW.out l0 u0 l1 u1)
      have HK0 : Hid (k0 = true) := Lib.hid (by rw [K0.out, g0, decide_eq_true l0, decide_eq_true u0]; rfl)
      have HK1 : Hid (k1 = true) := Lib.hid (by rw [K1.out, g1, decide_eq_true l1, decide_eq_true u1]; rfl)
      have MK2 := Lib.hid (fun h => MK.out g0 g1 l0 u0 l1 u1 h)
      clear N0 N1 g0 g1 l0 u0 l1 u1 MK OVL K0 K1 SI0 SI1
      cases ov with
      | true =>
        have HV : Hid (V = false) := Lib.hid (BO.out rfl)
        go_wp2_with fail
        refine OV2.out.mono ?_
        rintro e w1 ⟨rfl, b1⟩
        have HBX : Hid (Below w.heap.size w w1) := Lib.hid (HBW.out.trans (b1.mono (by omega)))
        clear b1 OV2
        go_wp2
        go_ret
        exact ⟨ret_bs HV.out.symm, HBX.out⟩
      | false =>
        have HV := Lib.hid (BV.out HK0.out HK1.out rfl)
        have SPX := Lib.hid (MK2.out rfl)
        go_wp2_with fail
        refine OV2.out.mono ?_
        rintro e w1 ⟨rfl, b1⟩
        have HB1 : Hid (Below (w.heap.size + 1) (w.alloc (.cells #[.slice (some ⟨g, 0, none⟩) 2 c0, .slice (some ⟨k, 0, none⟩) 2 c1, .slice a2 E.length c2] 34)) w1) := Lib.hid (HB.out.trans (b1.mono (by omega)))
        clear e0 e1 e2 i0 i1 i2 i3 p0 p1 b1 OV2 HBW
        obtain ⟨⟨e0, e1, e2⟩, ⟨i0, i1, i2, i3⟩, ⟨p0, p1⟩, HBW⟩ := HX.out _ HB1.out
        have HBW := Lib.hid HBW
        have hz1 : w.heap.size + 1 ≤ w1.heap.size := by have := HB1.out.size; simpa using this
        have AN := Lib.hid (ANY.out w1 w.heap.size HBW.out ⟨e0, e1, e2⟩ (by omega) SPX.out)
        clear i0 i1 i2 i3 p0 p1 BV BO B0 B1 MK2 SPX ANY
        go_wp2_with fail
        refine AN.out.mono ?_
        rintro e w2 ⟨rfl, b2⟩
        have HB2 : Hid (Below w.heap.size w w2) := Lib.hid (HBW.out.trans (b2.mono (by omega)))
        clear b2 AN
        go_wp2
        go_ret
        exact ⟨by rw [HV.out]; rfl, HB2.out⟩

set_option maxRecDepth 100000 in
set_option maxHeartbeats 2000000 in
theorem i_space_len (n m k : Nat) (a0 a1 a2 : Option Addr) (c0 c1 c2 : Nat) (w : World) (hn : n ≤ 1048576) (hm : m ≤ 1048576) (hk : k ≤ 1048576) (h : lenB n m k = false) :
    Calls Tryz.prog 27 #[.agg #[.slice a0 n c0, .slice a1 m c1, .slice a2 k c2]] w fun e w' => e = .returned (.bool false) ∧ Below w.heap.size w w' := by
  have HBX : Hid (Below w.heap.size w (w.alloc (.cells #[.slice a0 n c0, .slice a1 m c1, .slice a2 k c2] 34))) := Lib.hid ((Below.refl _ _).alloc (Nat.le_refl _) _)
  by_cases h1 : n = 2
  · subst h1
    by_cases h2 : m = 2
    · subst h2
      by_cases h3 : (k : Int) < 1
      · clear h
        go_enter Tryz.func27, Tryz.ntmps27
        go_wp2
        all_goals go_ret
        all_goals exact ⟨rfl, HBX.out⟩
      · have h4 : 6 < (k : Int) := by
          unfold lenB at h
          by_cases hk6 : k ≤ 6
          · rw [decide_eq_true (show 1 ≤ k by omega), decide_eq_true hk6] at h; cases h
          · omega
        clear h
        go_enter Tryz.func27, Tryz.ntmps27
        go_wp2
        all_goals go_ret
        all_goals exact ⟨rfl, HBX.out⟩
    · have hne : ((m : Int) != 2) = true := bne_iff_ne.2 (by omega)
      clear h
      go_enter Tryz.func27, Tryz.ntmps27
      go_wp2
      all_goals go_ret
      all_goals exact ⟨rfl, HBX.out⟩
  · have hne : ((n : Int) != 2) = true := bne_iff_ne.2 (by omega)
    clear h
    go_enter Tryz.func27, Tryz.ntmps27
    go_wp2
    all_goals go_ret
    all_goals exact ⟨rfl, HBX.out⟩
theorem i_spaceOk (I : List ImA) (B E : List Int) (a0 a1 a2 : Option Addr) (c0 c1 c2 : Nat) (w : World) (hI : ReadIms w a0 I) (hB : ReadI w a1 B) (hE : ReadI w a2 E) (hs : SmlI I B E) :
    Calls Tryz.prog 27 #[.agg #[.slice a0 I.length c0, .slice a1 B.length c1, .slice a2 E.length c2]] w fun e w' => e = .returned (.bool (spB I B E)) ∧ Below w.heap.size w w' := by
  cases hl : lenB I.length B.length E.length with
  | false => rw [spB_len hl]; exact i_space_len _ _ _ a0 a1 a2 c0 c1 c2 w hs.1 hs.2.1 hs.2.2.1 hl
  | true =>
    obtain ⟨h1, h2, h3, h4⟩ := lenB_is hl
    obtain ⟨x0, x1, rfl⟩ := list2 h1
    obtain ⟨b0, b1, rfl⟩ := list2 h2
    rw [spB_two h3 h4]
    exact i_space2 x0 x1 b0 b1 E a0 a1 a2 c0 c1 c2 w hI hB hE h3 h4 ⟨hs.2.2.2.1 _ (by simp), hs.2.2.2.1 _ (by simp), hs.2.2.1, hs.2.2.2.2⟩
end Go.Proofs.YtakgjlpgcepnkaaGreat

/-! The program's bytes of a number, and the number of bytes: an array by value -/
namespace Go.Proofs.YtakgjlpgcepnkaaGreat
open Go.RowKit Go.Lib

/-- The cells of an array of bytes. -/
def arrC (l : List UInt8) : Array Value := (byteCells l).toArray
theorem arrC_at (l : List UInt8) (k : Nat) (h : k < l.length) : (arrC l)[k]? = some (.int .u8 (l[k].toNat : Int)) := by
  simp [arrC, byteCells, List.getElem?_eq_getElem h]
/-- Eight cells, one by one. -/
theorem arr8 (l : List UInt8) (h : l.length = 8) : ∃ x0 x1 x2 x3 x4 x5 x6 x7 : Int, arrC l = #[.int .u8 x0, .int .u8 x1, .int .u8 x2, .int .u8 x3, .int .u8 x4, .int .u8 x5, .int .u8 x6, .int .u8 x7] := by
  match l, h with
  | [a, b, c, d, e, f, g, i], _ => exact ⟨_, _, _, _, _, _, _, _, rfl⟩

theorem toNat_wrap64 (x : Int) : ((BitVec.ofInt 64 (wrap64 x)).toNat : Int) = x % 18446744073709551616 := by
  have e : (2 : Nat) ^ 64 = 18446744073709551616 := by decide
  rw [BitVec.toNat_ofInt, e]
  have : wrap64 x % ((18446744073709551616 : Nat) : Int) = x % 18446744073709551616 := by
    unfold wrap64
    omega
  rw [this]
  omega
/-- One byte more, joined by 'or': the lower bytes and the byte do not meet. -/
theorem or_byte (v b k : Nat) (hk : k < 8) (hv : v < 256 ^ k) (hb : b < 256) : bits .or .i64 (wrap64 (v : Int)) (wrap64 ((b : Int) * 2 ^ (8 * k))) = wrap64 ((v + b * 256 ^ k : Nat) : Int) := by
  have hp : (256 : Nat) ^ k = 2 ^ (8 * k) := by rw [Nat.pow_mul]
  have hpi : ((b : Int) * 2 ^ (8 * k)) = ((b * 2 ^ (8 * k) : Nat) : Int) := by rw [Int.natCast_mul, Int.natCast_pow]; rfl
  rw [hpi, hp]
  rw [hp] at hv
  have h8 : (2 : Nat) ^ (8 * k) * 256 ≤ 2 ^ 64 := by
    rw [show (256 : Nat) = 2 ^ 8 from rfl, ← Nat.pow_add]
    exact Nat.pow_le_pow_right (by decide) (by omega)
  have e64 : (2 : Nat) ^ 64 = 18446744073709551616 := by decide
  rw [e64] at h8
  have hb2 : b * 2 ^ (8 * k) + 2 ^ (8 * k) ≤ 2 ^ (8 * k) * 256 := by
    have : (b + 1) * 2 ^ (8 * k) ≤ 256 * 2 ^ (8 * k) := Nat.mul_le_mul_right _ (by omega)
    rw [Nat.add_mul, Nat.one_mul] at this
    omega
  obtain ⟨P, hP⟩ : ∃ P, (2 : Nat) ^ (8 * k) = P := ⟨_, rfl⟩
  have h1 : (BitVec.ofInt 64 (wrap64 (v : Int))).toNat = v := by
    have := toNat_wrap64 (v : Int)
    omega
  have h2 : (BitVec.ofInt 64 (wrap64 ((b * 2 ^ (8 * k) : Nat) : Int))).toNat = b * 2 ^ (8 * k) := by
    have := toNat_wrap64 ((b * 2 ^ (8 * k) : Nat) : Int)
    omega
  have h3 : v ||| b * 2 ^ (8 * k) = v + b * 2 ^ (8 * k) := by
    rw [← Nat.shiftLeft_eq, Nat.or_comm, ← Nat.shiftLeft_add_eq_or_of_lt hv, Nat.add_comm]
  show IntKind.i64.wrap ((BitVec.ofInt 64 (wrap64 (v : Int)) ||| BitVec.ofInt 64 (wrap64 ((b * 2 ^ (8 * k) : Nat) : Int))).toNat : Int) = _
  rw [BitVec.toNat_or, h1, h2, h3]
  unfold wrap64
  rw [IntKind.wrap_i64]

set_option maxHeartbeats 1000000 in
theorem i_number (l : List UInt8) (w : World) (hl : l.length = 8) :
    Calls Tryz.prog 102 #[.agg (arrC l)] w fun e w' => e = .returned (.int .i64 (wrap64 (valB l : Int))) ∧ Below w.heap.size w w' := by
  have HL := Lib.hid hl
  clear hl
  have HV := Lib.hid (show wrap64 (valB (l.take 0) : Int) = 0 from by rw [List.take_zero]; show wrap64 ((0 : Nat) : Int) = 0; unfold wrap64; omega)
  go_enter Tryz.func102, Tryz.ntmps102
  go_wp2_with fail
  go_loopw [3, 4, 5] (fun n _ x wr => ∃ k : Nat, k ≤ 8 ∧ x = .int .i64 (k : Int) ∧ n = .int .i64 (wrap64 (valB (l.take k) : Int)) ∧ wr = w.alloc (.cells (arrC l) 127))
    (fun _ _ x _ => 8 - (intOf x).toNat)
  case atStart => exact ⟨0, by omega, rfl, by rw [HV.out], rfl⟩
  case round =>
    obtain ⟨k, hk, rfl, rfl, rfl⟩ := hrel
    by_cases hlt : k < 8
    · have hcc := arrC_at l k (by rw [HL.out]; omega)
      have hlk : k < l.length := by rw [HL.out]; omega
      obtain ⟨b, hb⟩ : ∃ b, l[k] = b := ⟨_, rfl⟩
      rw [hb] at hcc
      have HO : Hid (bits .or .i64 (wrap64 (valB (l.take k) : Int)) (wrap64 ((b.toNat : Int) * 2 ^ (8 * k))) = wrap64 (valB (l.take (k + 1)) : Int)) := Lib.hid (by
        have hv : valB (l.take k) < 256 ^ k := by have := valB_lt (l.take k); rwa [List.length_take, show min k l.length = k from by omega] at this
        rw [or_byte _ _ k hlt hv b.toNat_lt, valB_take l k hlk, hb])
      obtain ⟨v, hv⟩ : ∃ v, wrap64 (valB (l.take k) : Int) = v := ⟨_, rfl⟩
      rw [hv] at HO ⊢
      have HVV := Lib.hid hv
      have HB := Lib.hid hb
      clear hv hb
      obtain ⟨F, hF⟩ : ∃ F, arrC l = F := ⟨_, rfl⟩
      rw [hF] at hcc ⊢
      have HF := Lib.hid hF
      clear hF
      have b0 : b.toNat < 256 := b.toNat_lt
      have b1 : (b.toNat : Int) < 256 := by omega
      have k0 : (0 : Int) ≤ (k : Int) := by omega
      have k1 : (k : Int) < 8 := by omega
      go_wp2_with fail
      go_roundw
      case rel => exact ⟨k + 1, by omega, by go_num, by rw [HO.out], trivial⟩
      case measure => simp [intOf]; omega
    · have hk8 : k = 8 := by omega
      have HF : Hid (valB l = valB (l.take k)) := Lib.hid (by rw [hk8, List.take_of_length_le (by rw [HL.out]; omega)])
      have k1 : ¬ (k : Int) < 8 := by omega
      clear hk8
      go_wp2_with fail
      go_ret
      rw [HF.out]
      exact ⟨rfl, (Below.refl _ _).alloc (Nat.le_refl _) _⟩
end Go.Proofs.YtakgjlpgcepnkaaGreat
