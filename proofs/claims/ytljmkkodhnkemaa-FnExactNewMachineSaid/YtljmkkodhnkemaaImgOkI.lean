/- ImageOk, the program's. -/
import Derived.Test.YtljmkkodhnkemaaImgOkS
import Derived.Test.YtljmkkodhnkemaaOpCanI
import Derived.Maps.OwnSet
import Derived.Maps.OwnOps
namespace Go.Proofs.Ytljmkkodhnkemaa
open Go.RowKit Go.Lib Go.Maps

def kNm (n : ByteArray) : Lit := .string n.data.toList
def zBo : DataW Unit := .lit (.bool false)
theorem keySm : Keyed Try.prog 9 := string_keyed Try.underlying9
theorem zerBo (w : World) : (zeroValue 4).run Try.prog w = .ok (.bool false) w := by kernel_rfl
theorem kNm_ne {n m : ByteArray} (h : n ≠ m) : kNm n ≠ kNm m := fun e => h (by
  unfold kNm at e
  injection e with e
  exact ByteArray.ext (Array.ext' e))
theorem kNm_lit (n : ByteArray) : WideAt.IsKeyLit (kNm n) := by unfold kNm WideAt.IsKeyLit; trivial
/-- The map says which names there were. -/
def SeenD (D : DataW Unit) (seen : List ByteArray) : Prop := ∀ nm, D.atKey (kNm nm) zBo = .lit (.bool (seen.any fun n => decide (n = nm)))
theorem SeenD.nil : SeenD (.map []) [] := fun nm => rfl
theorem SeenD.put {D : DataW Unit} {seen : List ByteArray} (h : SeenD D seen) (hD : IsMap D) (x : ByteArray) : SeenD (D.put (kNm x) (.lit (.bool true))) (x :: seen) := fun nm => by
  by_cases e : x = nm
  · subst e
    rw [atKey_put_same hD (kNm_lit _) _ _]
    simp
  · rw [atKey_put_other (kNm_ne (fun e' => e e'.symm)), h nm]
    simp [e]
set_option maxRecDepth 100000 in
/-- What a look at the map comes to. -/
theorem seen_look {w : World} {mb n : Nat} {D : DataW Unit} {seen : List ByteArray} (h : w.ownsMap (H := Unit) Try.prog 9 (plainElem Try.prog 4) mb n D) (hS : SeenD D seen) (nm : ByteArray) (hn : nm.size ≤ maxLen) :
    (Instr.lookup 85 (.map (some mb)) (.string nm) false).run Try.prog w = .ok (.bool (seen.any fun m => decide (m = nm))) w := by
  obtain ⟨v, ps, hrun, hv⟩ := h.lookup keySm Try.underlying85 (zerBo w) (plainElem_bool Try.underlying4 false) (Go.WideMaps.keyOf_string_mk Try.underlying9 hn)
  have hs := hS nm
  unfold kNm zBo at hs
  rw [hs] at hv
  rw [hrun]
  cases v with
  | bool b =>
    rw [plainElem_bool Try.underlying4] at hv
    have h1 : (DataW.lit (.bool b) : DataW Unit) = .lit (.bool (seen.any fun m => decide (m = nm))) := congrArg Prod.fst (Option.some.inj hv)
    injection h1 with h1
    injection h1 with h1
    rw [h1]
  | _ => simp [plainElem, Try.underlying4] at hv

set_option maxRecDepth 100000 in
set_option maxHeartbeats 4000000 in
theorem i_imageOk (s : ByteArray) (a : Option Addr) (cap : Nat) (X : List SyL) (w : World) (hs : s.size ≤ 1048576) (hl : X.length ≤ 1048576) (hn : ∀ x ∈ X, x.name.size ≤ 1048576) (hr : ReadSy w a X) :
    Calls Try.prog 35 #[.agg #[.string s, .slice a X.length cap]] w fun e w' => e = .returned (.bool (imgB s.data.toList X)) ∧ Below w.heap.size w w' := by
  have HR := Lib.hid hr
  have HNZ := Lib.hid hn
  have HBX : Hid (Below w.heap.size w (w.alloc (.cells #[.string s, .slice a X.length cap] 61))) := Lib.hid ((Below.refl _ _).alloc (Nat.le_refl _) _)
  have hmm := @run_makeMap Try.prog
  by_cases hbig : 1000000 < s.size
  · have HV := Lib.hid (imgB_big s X hbig)
    have hb2 : (1000000 : Int) < (s.size : Int) := by omega
    clear hr hn hbig
    go_enter Try.func35, Try.ntmps35
    go_wp2
    go_ret
    exact ⟨ret_b HV.out.symm, HBX.out⟩
  have hb2 : ¬ (1000000 : Int) < (s.size : Int) := by omega
  have T2 := Lib.hid (two_new w (.cells #[.string s, .slice a X.length cap] 61) (.map #[] 0))
  obtain ⟨w0, hw0⟩ : ∃ W, (w.alloc (.cells #[.string s, .slice a X.length cap] 61)).alloc (.map #[] 0) = W := ⟨_, rfl⟩
  have HM0 : Hid (w0.ownsMap (H := Unit) Try.prog 9 (plainElem Try.prog 4) (w.heap.size + 1) 0 (.map [])) := Lib.hid (by
    have h := World.ownsMap_made (H := Unit) (w.alloc (.cells #[.string s, .slice a X.length cap] 61)) Try.prog 9 (plainElem Try.prog 4)
    rw [hw0] at h
    simpa using h)
  rw [hw0] at T2
  have HW0 := Lib.hid hw0
  have HC1 : Hid (∀ W, w0.grownBy W (some (w.heap.size + 1)) → W.cell? ⟨w.heap.size, 0, none⟩ = some (.string s) ∧ W.cell? ⟨w.heap.size, 1, none⟩ = some (.slice a X.length cap)) := Lib.hid (fun W hb => by
    have h := (hb.block w.heap.size (by have := T2.out.2.2.1; omega) (by intro e; injection e; omega)).trans T2.out.1
    exact ⟨(blk h).1 0 _ rfl, (blk h).1 1 _ rfl⟩)
  have HBG : Hid (∀ W, w0.grownBy W (some (w.heap.size + 1)) → Below w.heap.size w W) := Lib.hid (fun W hb => T2.out.2.2.2.grown hb (by have := T2.out.2.2.1; omega) (fun k hk => by injection hk; omega))
  have HSN : Hid (s.size ≤ 1000000) := Lib.hid (by omega)
  clear hr hn hw0 hbig
  go_enter Try.func35, Try.ntmps35
  go_upto_region 5 with fail
  rw [HW0.out]
  obtain ⟨cA, cB⟩ := HC1.out w0 (World.grownBy.refl _ _)
  go_wp2_with fail
  clear cA cB
  go_loopw [3, 6, 17] (fun rs _ i wr => ∃ (q p n : Nat) (r : ByteArray) (D : DataW Unit), q ≤ X.length ∧ i = .int .i64 (q : Int) ∧ rs = .string r ∧ Hid (r.data.toList = s.data.toList.drop p) ∧ r.size + p = s.size ∧ Hid (IOk s X q p) ∧ n ≤ q ∧ Hid (wr.ownsMap (H := Unit) Try.prog 9 (plainElem Try.prog 4) (w.heap.size + 1) n D) ∧ Hid (SeenD D (seenL X q)) ∧ Hid (w0.grownBy wr (some (w.heap.size + 1)))) (fun _ _ i _ => X.length - (RowKit.intOf i).toNat)
  case atStart => exact ⟨0, 0, 0, s, .map [], Nat.zero_le _, rfl, rfl, Lib.hid rfl, rfl, Lib.hid (IOk.start s X), Nat.le_refl _, HM0, Lib.hid SeenD.nil, Lib.hid (World.grownBy.refl _ _)⟩
  case round =>
    obtain ⟨q, p, n, r, D, hq, rfl, rfl, HRL, hrs, HE, hnq, HM, HSD, HG⟩ := hrel
    obtain ⟨cA, cB⟩ := HC1.out wr HG.out
    have HBW := Lib.hid (HBG.out wr HG.out)
    have hz := HG.out.size
    have hz0 := T2.out.2.2.1
    by_cases hlt : q < X.length
    · obtain ⟨g, hga, hg, c0, c1, c2⟩ := (HR.out.below HBW.out) q hlt
      have k0 : (0 : Int) ≤ (q : Int) := by omega
      have k1 : (q : Int) < (X.length : Int) := by omega
      have N1 := Lib.hid (HE.out.bad1 hlt)
      have N2 := Lib.hid (HE.out.bad2 hlt)
      have N3 := Lib.hid (HE.out.bad3 hlt)
      have N4 := Lib.hid (HE.out.bad4 hlt)
      have N5 := Lib.hid (HE.out.bad5 hlt)
      have N6 := Lib.hid (HE.out.bad6 hlt)
      have NX := Lib.hid (HE.out.next hlt)
      have hnz := HNZ.out _ (List.getElem_mem hlt)
      have HSS := Lib.hid (seenL_succ X q hlt)
      generalize X[q] = xx at *
      obtain ⟨nm, st, sz⟩ := xx
      dsimp only at c0 c1 c2 N1 N2 N3 N4 N5 N6 NX hnz HSS
      subst hga
      have NM := Lib.hid (fun W => i_name7n nm W (by unfold maxLen; omega))
      have usub : IntKind.i64.wrap ((s.size : Int) - (r.size : Int)) = (p : Int) := by rw [IntWalk.i64_in _ (by omega)]; omega
      obtain ⟨wy, hwy⟩ : ∃ W, wr.alloc (.cells #[.string nm, .int .i64 st, .int .i64 sz] 66) = W := ⟨_, rfl⟩
      have HP : Hid (wy.heap[wr.heap.size]? = some (.cells #[.string nm, .int .i64 st, .int .i64 sz] 66 (0, 0))) := Lib.hid (by rw [← hwy]; exact heap_alloc_new wr _)
      have HGY : Hid (w0.grownBy wy (some (w.heap.size + 1))) := Lib.hid (by rw [← hwy]; exact grown_alloc HG.out _)
      have HMY : Hid (wy.ownsMap (H := Unit) Try.prog 9 (plainElem Try.prog 4) (w.heap.size + 1) n D) := Lib.hid (by rw [← hwy]; exact HM.out.alloc _)
      have HWY := Lib.hid hwy
      have HBW2 := Lib.hid (HBG.out wy HGY.out)
      clear hwy
      go_upto_region 8 with fail
      rw [HWY.out]
      obtain ⟨cy0, cy1⟩ := HC1.out wy HGY.out
      have p0 := (blk HP.out).1 0 _ rfl
      have p1 := (blk HP.out).1 1 _ rfl
      have p2 := (blk HP.out).1 2 _ rfl
      clear cA cB c0 c1 c2 HWY
      by_cases h1 : st = (p : Int)
      · subst h1
        by_cases h2 : sz < 1
        · have HV := Lib.hid (imgB_no s X (N2.out h2))
          clear N1 N2 N3 N4 N5 N6 NX NM
          go_wp2
          go_ret
          exact ⟨ret_b HV.out.symm, HBW2.out⟩
        by_cases h3 : (r.size : Int) < sz
        · have HV := Lib.hid (imgB_no s X (N3.out (by omega)))
          clear N1 N2 N3 N4 N5 N6 NX NM
          go_wp2
          go_ret
          exact ⟨ret_b HV.out.symm, HBW2.out⟩
        cases h4 : nameB nm with
        | false =>
          have HV := Lib.hid (imgB_no s X (N4.out h4))
          rw [h4] at NM
          clear N1 N2 N3 N4 N5 N6 NX h4
          go_wp2_with fail
          refine (NM.out _).mono ?_
          rintro e w' ⟨rfl, rfl⟩
          go_wp2
          go_ret
          exact ⟨ret_b HV.out.symm, HBW2.out⟩
        | true =>
          rw [h4] at NM
          have H4 := Lib.hid h4
          have LK := seen_look HMY.out HSD.out nm (by unfold maxLen; omega)
          clear h4
          cases h5 : (seenL X q).any fun m => decide (m = nm) with
          | true =>
            have HV := Lib.hid (imgB_no s X (N5.out h5))
            rw [h5] at LK
            clear N1 N2 N3 N4 N5 N6 NX h5
            go_wp2_with fail
            refine (NM.out _).mono ?_
            rintro e w' ⟨rfl, rfl⟩
            go_wp2
            go_ret
            exact ⟨ret_b HV.out.symm, HBW2.out⟩
          | false =>
            have H5 := Lib.hid h5
            rw [h5] at LK
            clear h5
            obtain ⟨m, hm⟩ := Int.eq_ofNat_of_zero_le (show 0 ≤ sz by omega)
            subst hm
            have HXX : Hid ((r.extract 0 m).data.toList = (s.data.toList.drop p).take m) := Lib.hid (by rw [ext_toList, List.drop_zero, Nat.sub_zero, HRL.out])
            have HXL : Hid ((r.extract 0 m).size ≤ 1048576) := Lib.hid (by rw [ByteArray.size_extract]; omega)
            have HYY : Hid ((r.extract m r.size).data.toList = s.data.toList.drop (p + m)) := Lib.hid (by rw [from_list, HRL.out, List.drop_drop])
            have HYZ : Hid ((r.extract m r.size).size = r.size - m) := Lib.hid (from_size r m)
            have DS := Lib.hid (fun W => i_can (r.extract 0 m) W HXL.out)
            rw [HXX.out] at DS
            have hsl : ∀ W : World, (Instr.slice 9 (.string r) none (some (.int .i64 (m : Int))) none).run Try.prog W = .ok (.string (r.extract 0 m)) W := fun W => by
              rw [run_slice_string_to_if W _ r .i64 _ Try.underlying9, if_pos ⟨by omega, by omega⟩, Int.toNat_natCast]
            have hsl2 : ∀ W : World, (Instr.slice 9 (.string r) (some (.int .i64 (m : Int))) none none).run Try.prog W = .ok (.string (r.extract m r.size)) W := fun W => by
              rw [run_slice_string_from_if W _ r .i64 _ Try.underlying9, if_pos ⟨by omega, by omega⟩, Int.toNat_natCast]
            generalize r.extract 0 m = xs at *
            obtain ⟨rs2, hrs2⟩ : ∃ x, r.extract m r.size = x := ⟨_, rfl⟩
            rw [hrs2] at HYY HYZ hsl2
            obtain ⟨db, hdb⟩ : ∃ b, disB ((s.data.toList.drop p).take m) = b := ⟨_, rfl⟩
            rw [hdb] at DS
            have HPN := Lib.hid (show (1 : Int) ≤ (m : Int) ∧ (m : Int) ≤ (s.size : Int) - (p : Int) from ⟨by omega, by omega⟩)
            clear hrs2 HXX HXL
            go_wp2_with fail
            refine (NM.out _).mono ?_
            rintro e w' ⟨rfl, rfl⟩
            go_wp2_with fail
            refine (DS.out _).mono ?_
            rintro e w4 ⟨rfl, b4⟩
            have HG4 : Hid (w0.grownBy w4 (some (w.heap.size + 1))) := Lib.hid (HGY.out.trans (grown_of_below b4 _))
            have HBW4 := Lib.hid (HBG.out w4 HG4.out)
            have HP4 := Lib.hid ((b4.block _ (blk HP.out).2.2).trans HP.out)
            have HM4 : Hid (w4.ownsMap (H := Unit) Try.prog 9 (plainElem Try.prog 4) (w.heap.size + 1) n D) := Lib.hid (HMY.out.kept (grown_of_below b4 none) (by simp))
            have p42 := (blk HP4.out).1 2 _ rfl
            have p40 := (blk HP4.out).1 0 _ rfl
            clear b4 p0 p1 p2 cy0 cy1 LK
            cases db with
            | false =>
              have HV := Lib.hid (imgB_no s X (N6.out hdb))
              clear N1 N2 N3 N4 N5 N6 NX NM hdb
              go_wp2
              go_ret
              exact ⟨ret_b HV.out.symm, HBW4.out⟩
            | true =>
              have HNX := Lib.hid (NX.out (by first | trivial | rfl) HPN.out.1 HPN.out.2 H4.out H5.out hdb)
              clear N1 N2 N3 N4 N5 N6 NX NM hdb
              obtain ⟨w5, hrun, hM5, hg5⟩ := HM4.out.update keySm Try.underlying85 (by unfold maxLen; omega) (Go.WideMaps.keyOf_string_mk Try.underlying9 (show nm.size ≤ maxLen by unfold maxLen; omega)) (val := .bool true) (plainElem_bool Try.underlying4 true)
              have HM5 := Lib.hid hM5
              have HG5 : Hid (w0.grownBy w5 (some (w.heap.size + 1))) := Lib.hid (HG4.out.trans hg5)
              have HS5 : Hid (SeenD (D.put (kNm nm) (.lit (.bool true))) (seenL X (q + 1))) := Lib.hid (by rw [HSS.out]; exact HSD.out.put HM4.out.isMap nm)
              clear hM5 hg5
              go_wp2
              go_roundw
              case rel => exact ⟨q + 1, p + m, n + 1, rs2, _, by omega, by go_num, rfl, HYY, by have := HYZ.out; omega, HNX, by omega, HM5, HS5, HG5⟩
              case measure => simp [RowKit.intOf]; omega
      · have HV := Lib.hid (imgB_no s X (N1.out h1))
        clear N1 N2 N3 N4 N5 N6 NX NM
        go_wp2
        go_ret
        exact ⟨ret_b HV.out.symm, HBW2.out⟩
    · have hqq : q = X.length := by omega
      have HD := Lib.hid (imgB_is s X _ (HE.out.done hqq))
      have k1 : ¬ (q : Int) < (X.length : Int) := by omega
      clear hqq
      by_cases h1 : r.size = 0
      · have HV : Hid (imgB s.data.toList X = true) := Lib.hid (by rw [HD.out, decide_eq_true HSN.out, decide_eq_true (show p = s.size by omega)]; rfl)
        have hre : r = ⟨#[]⟩ := ByteArray.ext (Array.eq_empty_of_size_eq_zero h1)
        clear HD
        subst hre
        go_wp2
        go_ret
        exact ⟨ret_b HV.out.symm, HBW.out⟩
      · have HV : Hid (imgB s.data.toList X = false) := Lib.hid (by rw [HD.out, decide_eq_false (show ¬ p = s.size by omega)]; simp)
        have hne : r ≠ ⟨#[]⟩ := fun e => h1 (by rw [e]; rfl)
        have hdd := str_ne _ _ hne
        have HEM : Hid (r.toList.isEmpty = false) := Lib.hid (by
          rw [ByteArray.toList_eq]
          cases hr : r.data.toList with
          | nil => exact absurd (by rw [← list_len, hr]; rfl) h1
          | cons x t => rfl)
        clear HD h1 hne
        go_wp2
        go_ret
        exact ⟨ret_b (HEM.out.trans HV.out.symm), HBW.out⟩
end Go.Proofs.Ytljmkkodhnkemaa
