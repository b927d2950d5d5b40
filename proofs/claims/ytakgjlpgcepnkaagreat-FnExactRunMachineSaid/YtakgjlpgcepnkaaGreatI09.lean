/- ImageOk, the model's. -/
import Derived.Test.YtakgjlpgcepnkaaGreatI04
import Derived.Test.YtakgjlpgcepnkaaGreatI02
import Derived.Test.YtakgjlpgcepnkaaGreatI08
import Derived.Deep.QuietTactic
import Derived.BigQuiet
import Derived.Laws.DeepStrings4
namespace Go.Proofs.YtakgjlpgcepnkaaGreat
open Go.RowKit Go.Lib

theorem drewN_b {B : Nat} {w w' : World} (h : Below B w w') (n : Nat) : Below B w (w'.drewN n) := ⟨h.os, h.tape, h.output, h.size, h.block⟩
/-- The names of the first symbols. -/
def seenL (l : List SyL) (k : Nat) : List ByteArray := ((l.take k).map (·.name)).reverse
theorem seenL_succ (l : List SyL) (k : Nat) (h : k < l.length) : seenL l (k + 1) = l[k].name :: seenL l k := by
  unfold seenL
  rw [List.take_succ_eq_append_getElem h, List.map_append, List.reverse_append]; rfl
theorem seen_has (l : List SyL) (k : Nat) (n : ByteArray) : ((seenL l k).any fun m => decide (m = n)) = true ↔ ∃ i, ∃ h : i < l.length, i < k ∧ l[i].name = n := by
  unfold seenL
  rw [List.any_reverse, List.any_eq_true]
  constructor
  · rintro ⟨m, hm, e⟩
    obtain ⟨x, hx, rfl⟩ := List.mem_map.1 hm
    obtain ⟨i, hi, e2⟩ := List.mem_iff_getElem.1 hx
    rw [List.getElem_take] at e2
    rw [List.length_take] at hi
    exact ⟨i, by omega, by omega, by rw [e2]; exact of_decide_eq_true e⟩
  · rintro ⟨i, h, hk, e⟩
    refine ⟨n, List.mem_map.2 ⟨l[i], ?_, e⟩, by simp⟩
    have hlt : i < (l.take k).length := by rw [List.length_take]; omega
    have e2 : (l.take k)[i] = l[i] := List.getElem_take
    rw [← e2]
    exact List.getElem_mem _
/-- How far a look at the symbols has come. -/
def IOk (s : ByteArray) (l : List SyL) (k a : Nat) : Prop := imgF s.data.toList [] 0 l = imgF s.data.toList (seenL l k) a (l.drop k) ∧ a ≤ s.size
theorem IOk.start (s : ByteArray) (l : List SyL) : IOk s l 0 0 := ⟨rfl, Nat.zero_le _⟩
theorem IOk.step {s : ByteArray} {l : List SyL} {k a : Nat} (h : IOk s l k a) (hk : k < l.length) : imgF s.data.toList [] 0 l =
    ((decide (l[k].start = (a : Int)) && (decide (1 ≤ l[k].size) && decide (l[k].size ≤ (s.size : Int) - (a : Int)))) && (nameB l[k].name && (!((seenL l k).any fun n => decide (n = l[k].name)) && ((disZ ((s.data.toList.drop a).take l[k].size.toNat)).isSome && imgF s.data.toList (seenL l (k + 1)) (a + l[k].size.toNat) (l.drop (k + 1)))))) := by
  rw [h.1, List.drop_eq_getElem_cons hk, imgF, list_len, seenL_succ l k hk]
theorem IOk.bad1 {s : ByteArray} {l : List SyL} {k a : Nat} (h : IOk s l k a) (hk : k < l.length) (hb : l[k].start ≠ (a : Int)) : imgF s.data.toList [] 0 l = false := by rw [h.step hk, decide_eq_false hb]; rfl
theorem IOk.bad2 {s : ByteArray} {l : List SyL} {k a : Nat} (h : IOk s l k a) (hk : k < l.length) (hb : l[k].size < 1) : imgF s.data.toList [] 0 l = false := by rw [h.step hk, decide_eq_false (show ¬ 1 ≤ l[k].size by omega)]; simp
theorem IOk.bad3 {s : ByteArray} {l : List SyL} {k a : Nat} (h : IOk s l k a) (hk : k < l.length) (hb : (s.size : Int) - (a : Int) < l[k].size) : imgF s.data.toList [] 0 l = false := by rw [h.step hk, decide_eq_false (show ¬ l[k].size ≤ (s.size : Int) - (a : Int) by omega)]; simp
theorem IOk.bad4 {s : ByteArray} {l : List SyL} {k a : Nat} (h : IOk s l k a) (hk : k < l.length) (hb : nameB l[k].name = false) : imgF s.data.toList [] 0 l = false := by rw [h.step hk, hb]; simp
theorem IOk.bad5 {s : ByteArray} {l : List SyL} {k a : Nat} (h : IOk s l k a) (hk : k < l.length) (hb : ((seenL l k).any fun n => decide (n = l[k].name)) = true) : imgF s.data.toList [] 0 l = false := by rw [h.step hk, hb]; simp
theorem IOk.bad6 {s : ByteArray} {l : List SyL} {k a : Nat} (h : IOk s l k a) (hk : k < l.length) (hb : (disZ ((s.data.toList.drop a).take l[k].size.toNat)).isSome = false) : imgF s.data.toList [] 0 l = false := by rw [h.step hk, hb]; simp
theorem IOk.next {s : ByteArray} {l : List SyL} {k a : Nat} (h : IOk s l k a) (hk : k < l.length) (h1 : l[k].start = (a : Int)) (h2 : 1 ≤ l[k].size) (h3 : l[k].size ≤ (s.size : Int) - (a : Int)) (h4 : nameB l[k].name = true) (h5 : ((seenL l k).any fun n => decide (n = l[k].name)) = false) (h6 : (disZ ((s.data.toList.drop a).take l[k].size.toNat)).isSome = true) : IOk s l (k + 1) (a + l[k].size.toNat) := by
  refine ⟨?_, by omega⟩
  rw [h.step hk, decide_eq_true h1, decide_eq_true h2, decide_eq_true h3, h4, h5, h6]
  simp
theorem IOk.done {s : ByteArray} {l : List SyL} {k a : Nat} (h : IOk s l k a) (hk : k = l.length) : imgF s.data.toList [] 0 l = decide (a = s.size) := by
  rw [h.1, hk, List.drop_length, imgF, list_len]
theorem imgB_big (s : ByteArray) (l : List SyL) (h : 1000000 < s.size) : imgB s.data.toList l = false := by unfold imgB; rw [list_len, decide_eq_false (by omega)]; rfl
theorem imgB_is (s : ByteArray) (l : List SyL) (b : Bool) (h : imgF s.data.toList [] 0 l = b) : imgB s.data.toList l = (decide (s.size ≤ 1000000) && b) := by unfold imgB; rw [list_len, h]
theorem imgB_no (s : ByteArray) (l : List SyL) (h : imgF s.data.toList [] 0 l = false) : imgB s.data.toList l = false := by rw [imgB_is s l _ h]; simp

set_option maxRecDepth 100000 in
set_option maxHeartbeats 4000000 in
theorem s_imageOk (s : ByteArray) (a : Option Addr) (cap : Nat) (X : List SyL) (w : World) (hs : s.size ≤ 1048576) (hl : X.length ≤ 1048576) (hn : ∀ x ∈ X, x.name.size ≤ 1048576) (hr : ReadSy w a X) :
    Calls Tryz.prog 37 #[.agg #[.string s, .slice a X.length cap]] w fun e w' => e = .returned (.bool (imgB s.data.toList X)) ∧ Below w.heap.size w w' := by
  have HR := Lib.hid hr
  have HNZ := Lib.hid hn
  have HBX : Hid (Below w.heap.size w (w.alloc (.cells #[.string s, .slice a X.length cap] 65))) := Lib.hid ((Below.refl _ _).alloc (Nat.le_refl _) _)
  have HXS : Hid ((w.alloc (.cells #[.string s, .slice a X.length cap] 65)).heap.size = w.heap.size + 1) := Lib.hid (by simp)
  have HC1 : Hid (∀ W, Below (w.heap.size + 1) (w.alloc (.cells #[.string s, .slice a X.length cap] 65)) W → W.cell? ⟨w.heap.size, 0, none⟩ = some (.string s) ∧ W.cell? ⟨w.heap.size, 1, none⟩ = some (.slice a X.length cap)) := Lib.hid (fun W hb => ⟨(hb.cell (p := ⟨w.heap.size, 0, none⟩) (by show w.heap.size < w.heap.size + 1; omega)).trans ((blk (heap_alloc_new w _)).1 0 _ rfl), (hb.cell (p := ⟨w.heap.size, 1, none⟩) (by show w.heap.size < w.heap.size + 1; omega)).trans ((blk (heap_alloc_new w _)).1 1 _ rfl)⟩)
  clear hr hn
  go_enter Tryz.func37, Tryz.ntmps37
  go_wp2_with fail
  go_loopw [3, 4, 5, 6, 7, 8] (fun at_ i _ _ _ _ wr => ∃ q p : Nat, q ≤ X.length ∧ i = .int .i64 (q : Int) ∧ at_ = .int .i64 (p : Int) ∧ Hid (IOk s X q p) ∧ Hid (Below (w.heap.size + 1) (w.alloc (.cells #[.string s, .slice a X.length cap] 65)) wr)) (fun _ i _ _ _ _ _ => X.length - (RowKit.intOf i).toNat)
  case atStart => exact ⟨0, 0, Nat.zero_le _, rfl, rfl, Lib.hid (IOk.start s X), Lib.hid (Below.refl _ _)⟩
  case round =>
    obtain ⟨q, p, hq, rfl, rfl, HE, HB⟩ := hrel
    rename World => wb
    have HBW : Hid (Below w.heap.size w wb) := Lib.hid (HBX.out.trans (HB.out.mono (by omega)))
    obtain ⟨c00, c01⟩ := HC1.out wb HB.out
    have hp := HE.out.2
    by_cases hlt : q < X.length
    · obtain ⟨g, hga, hg, c0, c1, c2⟩ := (HR.out.below HBW.out) q hlt
      have k0 : (0 : Int) ≤ (q : Int) := by omega
      have k1 : (q : Int) < (X.length : Int) := by omega
      have N1 := Lib.hid (HE.out.bad1 hlt)
      have N2 := Lib.hid (HE.out.bad2 hlt)
      have N3 := Lib.hid (HE.out.bad3 hlt)
      have N4 := Lib.hid (HE.out.bad4 hlt)
      have N5 := Lib.hid (HE.out.bad5 hlt)
      have N6 := Lib.hid (HE.out.bad6 hlt)
      have NX := Lib.hid (HE.out.next hlt)
      have hnz := HNZ.out _ (List.getElem_mem hlt)
      have HSE := Lib.hid (seen_has X q X[q].name)
      generalize X[q] = xx at *
      obtain ⟨nm, st, sz⟩ := xx
      dsimp only at c0 c1 c2 N1 N2 N3 N4 N5 N6 NX hnz HSE
      subst hga
      have hz := HB.out.size
      rw [HXS.out] at hz
      have HB2 : Hid (Below (w.heap.size + 1) (w.alloc (.cells #[.string s, .slice (some ⟨g, 0, none⟩) X.length cap] 65)) (wb.alloc (.cells #[.string nm, .int .i64 st, .int .i64 sz] 70))) := Lib.hid (HB.out.alloc hz _)
      have HBW2 : Hid (Below w.heap.size w (wb.alloc (.cells #[.string nm, .int .i64 st, .int .i64 sz] 70))) := Lib.hid (HBX.out.trans (HB2.out.mono (by omega)))
      have NM := Lib.hid (fun W => s_name7n nm W (by unfold maxLen; omega))
      have usub : IntKind.i64.wrap ((s.size : Int) - (p : Int)) = (s.size : Int) - (p : Int) := IntWalk.i64_in _ (by omega)
      obtain ⟨wy, hwy⟩ : ∃ W, wb.alloc (.cells #[.string nm, .int .i64 st, .int .i64 sz] 70) = W := ⟨_, rfl⟩
      have HP : Hid (wy.heap[wb.heap.size]? = some (.cells #[.string nm, .int .i64 st, .int .i64 sz] 70 (0, 0))) := Lib.hid (by rw [← hwy]; exact heap_alloc_new wb _)
      rw [hwy] at HB2 HBW2
      have HWY := Lib.hid hwy
      have HRY := Lib.hid (HR.out.below HBW2.out)
      clear hwy
      go_upto_region 6 with fail
      rw [HWY.out]
      obtain ⟨cy0, cy1⟩ := HC1.out wy HB2.out
      have p0 := (blk HP.out).1 0 _ rfl
      have p1 := (blk HP.out).1 1 _ rfl
      have p2 := (blk HP.out).1 2 _ rfl
      clear c00 c01 c0 c1 c2 HWY
      by_cases h1 : st = (p : Int)
      · subst h1
        by_cases h2 : sz < 1
        · have HV := Lib.hid (imgB_no s X (N2.out h2))
          clear N1 N2 N3 N4 N5 N6 NX NM
          go_wp2
          go_ret
          exact ⟨ret_b HV.out.symm, HBW2.out⟩
        by_cases h3 : (s.size : Int) - (p : Int) < sz
        · have HV := Lib.hid (imgB_no s X (N3.out h3))
          clear N1 N2 N3 N4 N5 N6 NX NM
          go_wp2
          go_ret
          exact ⟨ret_b HV.out.symm, HBW2.out⟩
        cases h4 : nameB nm with
        | false =>
          have HV := Lib.hid (imgB_no s X (N4.out h4))
          rw [h4] at NM
          clear N1 N2 N3 N4 N5 N6 NX h4
          go_wp2_with fail
          refine (NM.out _).mono ?_
          rintro e w' ⟨rfl, rfl⟩
          go_wp2
          go_ret
          exact ⟨ret_b HV.out.symm, HBW2.out⟩
        | true =>
          rw [h4] at NM
          have H4 := Lib.hid h4
          clear h4
          go_wp2_with fail
          refine (NM.out _).mono ?_
          rintro e w' ⟨rfl, rfl⟩
          go_wp2_with fail
          go_loopw [6] (fun j wr2 => ∃ i : Nat, i ≤ q ∧ j = .int .i64 (i : Int) ∧ Hid (∀ t, ∀ h : t < X.length, t < i → X[t].name ≠ nm) ∧ Hid (Below wy.heap.size wy wr2)) (fun j _ => q - (RowKit.intOf j).toNat)
          case atStart => exact ⟨0, Nat.zero_le _, rfl, Lib.hid (fun t _ h => by omega), Lib.hid (Below.refl _ _)⟩
          case round =>
            obtain ⟨i, hi, rfl, HNO, HYR⟩ := hrel
            have zy := HB2.out.size
            rw [HXS.out] at zy
            have HB3 : Hid (Below (w.heap.size + 1) (w.alloc (.cells #[.string s, .slice (some ⟨g, 0, none⟩) X.length cap] 65)) wr) := Lib.hid (HB2.out.trans (HYR.out.mono zy))
            have HBW3 : Hid (Below w.heap.size w wr) := Lib.hid (HBX.out.trans (HB3.out.mono (by omega)))
            have HP3 := Lib.hid ((HYR.out.block _ (blk HP.out).2.2).trans HP.out)
            obtain ⟨cy0, cy1⟩ := HC1.out wr HB3.out
            have p0 := (blk HP3.out).1 0 _ rfl
            have p2 := (blk HP3.out).1 2 _ rfl
            by_cases hil : i < q
            · have hix : i < X.length := by omega
              obtain ⟨g', hga, hg', d0, d1, d2⟩ := (HRY.out.below HYR.out) i hix
              injection hga with hga
              injection hga with hga
              subst hga
              have j0 : (0 : Int) ≤ (i : Int) := by omega
              have j1 : (i : Int) < (q : Int) := by omega
              have j2 : (i : Int) < (X.length : Int) := by omega
              have HNN : Hid (X[i].name ≠ nm → ∀ t, ∀ h : t < X.length, t < i + 1 → X[t].name ≠ nm) := Lib.hid (fun hne t h hti => by
                by_cases e : t = i
                · subst e; exact hne
                · exact HNO.out t h (by omega))
              have HYY : Hid (X[i].name = nm → ((seenL X q).any fun n => decide (n = nm)) = true) := Lib.hid (fun e => HSE.out.2 ⟨i, hix, hil, e⟩)
              generalize X[i].name = ni at *
              by_cases hne : ni = nm
              · subst hne
                have HV := Lib.hid (imgB_no s X (N5.out (HYY.out rfl)))
                clear N1 N2 N3 N4 N5 N6 NX NM HYY HNN
                go_wp2_with fail
                go_quiet (fail)
                go_wp2
                go_ret
                exact ⟨ret_b HV.out.symm, drewN_b HBW3.out _⟩
              · have hdd := str_ne _ _ hne
                have HN3 := Lib.hid (HNN.out hne)
                clear hne HNN HYY
                go_wp2_with fail
                go_quiet (fail)
                go_wp2
                go_roundw
                case rel => exact ⟨i + 1, by omega, by go_num, HN3, Lib.hid (drewN_b HYR.out _)⟩
                case measure => simp [RowKit.intOf]; omega
            · have hiq : i = q := by omega
              have HS5 : Hid (((seenL X q).any fun n => decide (n = nm)) = false) := Lib.hid (by
                cases hc : (seenL X q).any fun n => decide (n = nm) with
                | false => rfl
                | true =>
                  obtain ⟨t, h, hti, e⟩ := HSE.out.1 hc
                  exact absurd e (HNO.out t h (by omega)))
              have j1 : ¬ (i : Int) < (q : Int) := by omega
              obtain ⟨n, hn⟩ := Int.eq_ofNat_of_zero_le (show 0 ≤ sz by omega)
              subst hn
              have HXX : Hid ((s.extract p (p + n)).data.toList = (s.data.toList.drop p).take n) := Lib.hid (by rw [ext_toList, Nat.add_sub_cancel_left])
              have HXL : Hid ((s.extract p (p + n)).size ≤ 1048576) := Lib.hid (by rw [ByteArray.size_extract]; omega)
              have usum : IntKind.i64.wrap ((p : Int) + (n : Int)) = (p : Int) + (n : Int) := IntWalk.i64_in _ (by omega)
              have DS := Lib.hid (fun W => s_dis (s.extract p (p + n)) W HXL.out)
              rw [HXX.out] at DS
              have hsl : ∀ W : World, (Instr.slice 9 (.string s) (some (.int .i64 (p : Int))) (some (.int .i64 ((p : Int) + (n : Int)))) none).run Tryz.prog W = .ok (.string (s.extract p (p + n))) W := fun W => by
                rw [run_slice_string_if W _ s .i64 .i64 _ _ Tryz.underlying9, if_pos ⟨by omega, by omega⟩, if_pos ⟨by omega, by omega⟩, show ((p : Int) + (n : Int)).toNat = p + n from by omega, Int.toNat_natCast]
              generalize s.extract p (p + n) = xs at *
              obtain ⟨db, hdb⟩ : ∃ b, disB ((s.data.toList.drop p).take n) = b := ⟨_, rfl⟩
              rw [hdb] at DS
              clear HNO hiq HXX HXL
              have HPN := Lib.hid (show (1 : Int) ≤ (n : Int) ∧ (n : Int) ≤ (s.size : Int) - (p : Int) from ⟨by omega, by omega⟩)
              go_wp2_with fail
              refine (DS.out _).mono ?_
              rintro e w4 ⟨dv, rfl, _, b4⟩
              have HB4 : Hid (Below (w.heap.size + 1) (w.alloc (.cells #[.string s, .slice (some ⟨g, 0, none⟩) X.length cap] 65)) w4) := Lib.hid (HB3.out.trans (b4.mono (by have := HB3.out.size; rw [HXS.out] at this; exact this)))
              have HBW4 : Hid (Below w.heap.size w w4) := Lib.hid (HBX.out.trans (HB4.out.mono (by omega)))
              have HP4 := Lib.hid ((b4.block _ (blk HP3.out).2.2).trans HP3.out)
              have p42 := (blk HP4.out).1 2 _ rfl
              clear b4 p0 p2 cy0 cy1
              cases db with
              | false =>
                have HV := Lib.hid (imgB_no s X (N6.out hdb))
                clear N1 N2 N3 N4 N5 N6 NX NM hdb
                go_wp2
                go_ret
                exact ⟨ret_b HV.out.symm, HBW4.out⟩
              | true =>
                have HNX := Lib.hid (NX.out (by first | trivial | rfl) HPN.out.1 HPN.out.2 H4.out HS5.out hdb)
                clear N1 N2 N3 N4 N5 N6 NX NM hdb
                go_wp2
                go_roundw
                case rel => exact ⟨q + 1, p + n, by omega, by go_num, by go_num, HNX, HB4⟩
                case measure => simp [RowKit.intOf]; omega
      · have HV := Lib.hid (imgB_no s X (N1.out h1))
        clear N1 N2 N3 N4 N5 N6 NX NM
        go_wp2
        go_ret
        exact ⟨ret_b HV.out.symm, HBW2.out⟩
    · have hqq : q = X.length := by omega
      have HD := Lib.hid (imgB_is s X _ (HE.out.done hqq))
      have k1 : ¬ (q : Int) < (X.length : Int) := by omega
      clear hqq
      by_cases h1 : p = s.size
      · by_cases h2 : s.size ≤ 1000000
        · have HV : Hid (imgB s.data.toList X = true) := Lib.hid (by rw [HD.out, decide_eq_true h1, decide_eq_true h2]; rfl)
          clear HD
          subst h1
          go_wp2
          go_ret
          exact ⟨ret_b (by rw [HV.out]; first | rfl | exact decide_eq_true (by omega)), HBW.out⟩
        · have HV : Hid (imgB s.data.toList X = false) := Lib.hid (by rw [HD.out, decide_eq_false h2]; rfl)
          clear HD
          subst h1
          go_wp2
          go_ret
          exact ⟨ret_b (by rw [HV.out]; first | rfl | exact decide_eq_false (by omega)), HBW.out⟩
      · have HV : Hid (imgB s.data.toList X = false) := Lib.hid (by rw [HD.out, decide_eq_false h1]; simp)
        have h1' : ¬ (p : Int) = (s.size : Int) := by omega
        clear HD h1
        go_wp2
        go_ret
        exact ⟨ret_b HV.out.symm, HBW.out⟩
end Go.Proofs.YtakgjlpgcepnkaaGreat
