/- The law on the texts of programs, walked. -/
import Derived.Test.YthmllcpldgbbcaaGreatDoorDrawProgram
import Derived.Test.YthmllcpldgbbcaaGreatDoorBig
import Derived.Test.YthmllcpldgbbcaaGreatDoorFpgImpl
import Derived.Test.YthmllcpldgbbcaaGreatDoorLokImpl
import Derived.Test.YthmllcpldgbbcaaGreatDoorSameLs
import Derived.Test.YthmllcpldgbbcaaGreatDoorPprImpl
import Derived.Deep.DeepCutAuto
namespace Go.Proofs.YthmllcpldgbbcaaGreatDoor.fnProgramText
open Go.RowKit Go.Lib

theorem own_formT {B T n s : Nat} {w : World} {v : Value} {xs : List Value} (h : w.ownsRow B T s v n xs) (hn : 0 < n) : ∃ g cp, v = .slice (some ⟨g, 0, none⟩) n cp := by
  rcases h.2 with ⟨_, h0⟩ | ⟨g, cap, cur, rfl, _⟩
  · omega
  · exact ⟨g, cap, rfl⟩
theorem all_lines {X : List LnL} (h : ∀ x ∈ X, LnOk x) : (plL X).all lineB = true := by
  rw [List.all_eq_true]
  intro p hp
  obtain ⟨x, hx, rfl⟩ := List.mem_map.1 hp
  exact (h x hx).line
theorem prB_pos (p : List PLine) (h : 0 < p.length) (ha : p.all lineB = true) : 0 < (prB p).length := by
  cases p with
  | nil => simp at h
  | cons x r =>
    rw [List.all_cons, Bool.and_eq_true] at ha
    have := lineT_nil x ha.1
    simp only [prB, List.flatMap_cons, List.length_append] at *
    have h10 : ([10] : List UInt8).length = 1 := rfl
    omega
theorem own_capT {B T n s m c : Nat} {a : Option Addr} {w : World} {xs : List Value} (h : w.ownsRow B T s (.slice a m c) n xs) : n ≤ c ∧ c ≤ maxLen := by
  rcases h.2 with ⟨e, h0⟩ | ⟨g, cap, cur, e, _, _, hn, hc, _⟩
  · injection e with _ _ e3
    subst e3
    exact ⟨by omega, Nat.zero_le _⟩
  · injection e with _ _ e3
    subst e3
    exact ⟨hn, hc⟩
theorem size_pr (l : List UInt8) : (⟨l.toArray⟩ : ByteArray).size = l.length := by
  show l.toArray.size = l.length
  simp

set_option maxRecDepth 100000 in
set_option maxHeartbeats 8000000 in
theorem walk0 (a0 : Option Addr) (len0 cap0 : Nat) (z0 : List Int) (p : Addr) (w : World) (w0 : IsRow .u8 w a0 len0 cap0 z0) (hE : Env w) (hT : Table w) (hS : Shapes w) (hN : NoL p w) :
    Calls Tryz.prog 3 #[.slice a0 len0 cap0] w fun e w' => e = .returned (.bool true) ∧ Below w.heap.size w w' := by
  have HC := Lib.hid w0
  have IP := Lib.hid (fun (W : World) (x : ByteArray) (hx : x.size ≤ maxLen) (hb : Below w.heap.size w W) => i_pline x p W hx (hE.on hb) (hT.on hb) (hS.on hb) (hN.on hb))
  have IPP := Lib.hid (fun (W : World) (x : ByteArray) (hx : x.size ≤ 1048576) (hb : Below w.heap.size w W) => i_pprog x p W hx (hE.on hb) (hT.on hb) (hS.on hb) (hN.on hb))
  have HSH := Lib.hid (fun (W : World) (hb : Below w.heap.size w W) => hS.on hb)
  have HTB := Lib.hid (fun (W : World) (hb : Below w.heap.size w W) => pow_on hE.2 hb)
  have hlen : len0 ≤ 9223372036854775807 := by
    rcases w0 with ⟨_, rfl, _, _⟩ | ⟨x, _, h1, h2, _⟩
    · omega
    · unfold maxLen at h2; omega
  clear w0 hE hT hS hN
  by_cases hb : 1048576 < len0
  · go_enter Tryz.func3, Tryz.ntmps3
    go_wp2_with fail
    refine (big_yes a0 len0 cap0 _ hb hlen).mono ?_
    rintro e w' ⟨rfl, rfl⟩
    go_wp2
    go_ret
    exact ⟨rfl, Below.refl _ _⟩
  go_enter Tryz.func3, Tryz.ntmps3
  go_wp2_with fail
  refine (big_no a0 len0 cap0 _ (by omega)).mono ?_
  rintro e w' ⟨rfl, rfl⟩
  go_wp2_with fail
  refine (d_program a0 len0 cap0 z0 _ HC.out (by omega)).mono ?_
  rintro e w1 ⟨v, X, rfl, O1, hne, A1, ok1, x0, x1, b1⟩
  obtain ⟨g, cp, rfl⟩ := own_formT O1 x0
  have R1 := Lib.hid (readL_of O1 A1)
  have HOK := Lib.hid ok1
  have HB1 := Lib.hid b1
  have hs1 := b1.size
  have HSM : Hid (∀ x ∈ X, SmallL x.p) := Lib.hid (fun x hx => line_small _ (ok1 x hx).line)
  have IF := Lib.hid (i_fprog (some ⟨g, 0, none⟩) cp X w1 (by omega) R1.out HSM.out (HSH.out w1 b1) (HTB.out w1 b1))
  have hpl := plL_length X
  clear O1 A1 ok1 b1 hne
  by_cases hbig : 60 < X.length
  · have HT0 : Hid (progT (plL X) = ⟨#[]⟩) := Lib.hid (progT_long _ (by omega))
    rw [HT0.out] at IF
    have hd : decide (60 < (X.length : Int)) = true := decide_eq_true (by omega)
    clear hpl
    go_wp2_with fail
    refine IF.out.mono ?_
    rintro e w2 ⟨rfl, b2⟩
    have HB2 : Hid (Below w.heap.size w w2) := Lib.hid (HB1.out.trans (b2.mono hs1))
    have hs2 := HB2.out.size
    clear b2
    go_wp2_with fail
    refine (IPP.out _ _ (by decide) HB2.out).mono ?_
    rintro e w3 ⟨v3, X3, rfl, _, _, _, b3⟩
    have HB3 : Hid (Below w.heap.size w w3) := Lib.hid (HB2.out.trans (b3.mono hs2))
    clear b3
    go_wp2
    go_ret
    exact ⟨rfl, HB3.out⟩
  have hall := all_lines HOK.out
  have HTY : Hid (progT (plL X) = ⟨(prB (plL X)).toArray⟩) := Lib.hid (progT_yes _ (by omega) hall)
  have HPA : Hid (ppZ (progT (plL X)) = (plL X, true)) := Lib.hid (pp_again _ (by omega) hall)
  have hsz : (progT (plL X)).size ≤ 1048576 := by
    rw [HTY.out, size_pr]
    have := prB_take_len (plL X) (plL X).length
    rw [List.take_length] at this
    omega
  have hpos : 0 < (progT (plL X)).size := by
    rw [HTY.out, size_pr]
    exact prB_pos _ (by omega) hall
  have IPT := Lib.hid (fun (W : World) (hb : Below w.heap.size w W) => HPA.out ▸ IPP.out W _ hsz hb)
  have hd : decide (60 < (X.length : Int)) = false := decide_eq_false (by omega)
  obtain ⟨t, ht⟩ : ∃ t, progT (plL X) = t := ⟨_, rfl⟩
  have IF2 : Hid (∀ (X2 : List LnL) (a2 : Option Addr) (c2 : Nat) (W : World), plL X2 = plL X → ReadL 9 66 W a2 X2 → Below w.heap.size w W → Calls Tryz.prog 7 #[.slice a2 X2.length c2] W fun e w' => e = .returned (.string t) ∧ Below W.heap.size W w') := Lib.hid (fun X2 a2 c2 W hp hr hb => by
    have h2 : X2.length = X.length := by have := congrArg List.length hp; simpa [plL] using this
    have := i_fprog a2 c2 X2 W (by omega) hr (fun x hx => by
      have hm : x.p ∈ plL X := by rw [← hp]; exact List.mem_map_of_mem hx
      obtain ⟨y, hy, e⟩ := List.mem_map.1 hm
      rw [← e]
      exact HSM.out y hy) (HSH.out W hb) (HTB.out W hb)
    rw [hp, ht] at this
    exact this)
  rw [ht] at IF hsz hpos IPT
  have hdt : decide (0 < (t.size : Int)) = true := decide_eq_true (by omega)
  clear HTY HPA ht hpl hall
  go_wp2_with fail
  refine IF.out.mono ?_
  rintro e w2 ⟨rfl, b2⟩
  have R2 := Lib.hid (R1.out.below b2)
  have HB2 : Hid (Below w.heap.size w w2) := Lib.hid (HB1.out.trans (b2.mono hs1))
  have hs2 := HB2.out.size
  clear b2
  go_wp2_with fail
  refine (IPT.out _ HB2.out).mono ?_
  rintro e w3 ⟨v3, X3, rfl, P3, O3, M3, b3⟩
  obtain ⟨a3, c3, rfl⟩ := owns3_shape O3
  dsimp only at P3 ⊢
  have HP3 := Lib.hid P3
  have R3 := Lib.hid (readL_of O3 M3.all)
  have RX3 := Lib.hid (R2.out.below b3)
  have HB3 : Hid (Below w.heap.size w w3) := Lib.hid (HB2.out.trans (b3.mono hs2))
  have hs3 := HB3.out.size
  clear b3 O3 M3 P3
  go_wp2_with fail
  go_loopw [7, 8, 9] (fun k _ _ wr => ∃ j : Nat, j ≤ X.length ∧ k = .int .i64 (j : Int) ∧ Below w3.heap.size w3 wr) (fun k _ _ _ => X.length - (RowKit.intOf k).toNat)
  case atStart => exact ⟨0, Nat.zero_le _, rfl, Below.refl _ _⟩
  case round =>
    rename World => wr
    obtain ⟨j, hj, rfl, hbel⟩ := hrel
    have HBL := Lib.hid hbel
    have hB := hbel.size
    have HBR : Hid (Below w.heap.size w wr) := Lib.hid (HB3.out.trans (hbel.mono hs3))
    by_cases hlt : j < X.length
    · have hsm := HSM.out _ (List.getElem_mem hlt)
      have hlb := (HOK.out _ (List.getElem_mem hlt)).line
      obtain ⟨g', hga, hg', ⟨c0, c1, c2, c3⟩, hm⟩ := (RX3.out.below hbel) j hlt
      injection hga with hga
      injection hga with hga
      subst hga
      obtain ⟨x, hx⟩ : ∃ x, X[j] = x := ⟨_, rfl⟩
      rw [hx] at c0 c1 c2 c3 hm hsm hlb
      obtain ⟨xa, xb, xc, xd, ea, ee, rs, rt, hcap, hnil⟩ := inMem_shape hm
      rw [ea] at c2
      rw [ee] at c3
      obtain ⟨z1, z2, z3, z4, z5⟩ := hsm
      have HZO : Hid (∀ c, x.args.length ≤ c → c ≤ maxLen → SzOk x.p c) := Lib.hid (fun c h1 h2 => ⟨by have := z2; omega, h1, h2, fun s hs => small_max (z3 s hs), small_max z1, z4, fun i hi => small_max (z5 _ (List.getElem_mem hi))⟩)
      have HF := Lib.hid (i_fline x.p xa xb xc xd wr rs rt (HZO.out xc hcap.1 hcap.2) (HSH.out wr HBR.out) (HTB.out wr HBR.out) hnil)
      have HPL : Hid (∀ W, Below w.heap.size w W → Calls Tryz.prog 9 #[.string (lineT x.p)] W (PlRes 9 66 W.heap.size (x.p, true) W)) := Lib.hid (fun W hb => by
        have h1 := lineT_size x.p
        have := IP.out W (lineT x.p) (by unfold maxLen; omega) hb
        rw [pl_again x.p hlb] at this
        exact this)
      have HRS := Lib.hid (fun (W : World) (hb : Below wr.heap.size wr W) => rs.below hb)
      have HRT := Lib.hid (fun (W : World) (hb : Below wr.heap.size wr W) => rt.below hb)
      have hgs := z2
      have hes := z4
      have HLB := Lib.hid hlb
      obtain ⟨kk, nm, gs, ex, va, ve⟩ := x
      dsimp only [LnL.p] at c0 c1 c2 c3 HF HPL HZO HRS HRT hgs hes HLB
      obtain ⟨tl, htl⟩ : ∃ s, lineT ⟨kk, nm, gs, ex⟩ = s := ⟨_, rfl⟩
      rw [htl] at HF HPL
      have k0 : (0 : Int) ≤ (j : Int) := by omega
      have k1 : (j : Int) < (X.length : Int) := by omega
      have HCC := Lib.hid (And.intro c0 (And.intro c1 (And.intro c2 c3)))
      clear hx hm rs rt hcap hnil ea ee z1 z2 z3 z4 z5 htl hlb hbel hd
      go_wp2_with fail
      refine HF.out.mono ?_
      rintro e w4 ⟨rfl, b4⟩
      have HBR4 : Hid (Below w.heap.size w w4) := Lib.hid (HBR.out.trans (b4.mono (by omega)))
      have HW4 := Lib.hid b4
      have z4 := b4.size
      clear b4 c0 c1 c2 c3
      go_wp2_with fail
      refine (HPL.out _ HBR4.out).mono ?_
      rintro e w5 ⟨va5, ve5, rfl, OA, OE, b5⟩
      obtain ⟨ya, yc, rfl⟩ := owns_shape OA
      obtain ⟨yb, yd, rfl⟩ := owns3_shape OE
      dsimp only at OA OE ⊢
      have hycap := own_capT OA
      have HW5 : Hid (Below wr.heap.size wr w5) := Lib.hid (HW4.out.trans (b5.mono z4))
      have RA := Lib.hid (reads_of OA)
      have RE := Lib.hid (readT_of OE)
      clear b5 OA OE
      have z5 := HW5.out.size
      have HN0 := Lib.hid ((Below.refl w5.heap.size w5).alloc (Nat.le_refl _) (.cells #[.int .i64 kk, .string nm, .slice ya gs.length yc, .slice yb ex.length yd] 32))
      have X6 := Lib.hid (heap_alloc_new w5 (.cells #[.int .i64 kk, .string nm, .slice ya gs.length yc, .slice yb ex.length yd] 32))
      have tz : (w5.alloc (.cells #[.int .i64 kk, .string nm, .slice ya gs.length yc, .slice yb ex.length yd] 32)).heap.size = w5.heap.size + 1 := by simp
      obtain ⟨W6, hW6⟩ : ∃ W, w5.alloc (.cells #[.int .i64 kk, .string nm, .slice ya gs.length yc, .slice yb ex.length yd] 32) = W := ⟨_, rfl⟩
      rw [hW6] at HN0 X6 tz
      have HW6 := Lib.hid hW6
      have RA6 := Lib.hid (RA.out.below HN0.out)
      have RE6 := Lib.hid (RE.out.below HN0.out)
      have HB6 : Hid (Below wr.heap.size wr W6) := Lib.hid (HW5.out.trans (HN0.out.mono z5))
      have SL : Hid (∀ W, Below W6.heap.size W6 W → Calls Tryz.prog 11 #[.agg #[.int .i64 kk, .string nm, .slice ya gs.length yc, .slice yb ex.length yd], .agg #[.int .i64 kk, .string nm, .slice xa gs.length xc, .slice xb ex.length xd]] W fun e w' => e = .returned (.bool true) ∧ Below W.heap.size W w') := Lib.hid (fun W hb => by
        have hb2 : Below wr.heap.size wr W := HB6.out.trans (hb.mono HB6.out.size)
        have := i_sameLine ⟨kk, nm, gs, ex⟩ ⟨kk, nm, gs, ex⟩ ya xa yb xb yc xc yd xd W (RA6.out.below hb) (HRS.out W hb2) (RE6.out.below hb) (HRT.out W hb2) (by dsimp only; omega) (by dsimp only; omega) (by dsimp only; omega) (by dsimp only; omega)
        rw [sameLB_self] at this
        exact this)
      have LK : Hid (∀ W, Below W6.heap.size W6 W → Calls Tryz.prog 12 #[.agg #[.int .i64 kk, .string nm, .slice ya gs.length yc, .slice yb ex.length yd]] W fun e w' => e = .returned (.bool true) ∧ Below W.heap.size W w') := Lib.hid (fun W hb => by
        have := i_lineok ⟨kk, nm, gs, ex⟩ ya yb yc yd W (RA6.out.below hb) (RE6.out.below hb) (HZO.out yc hycap.1 hycap.2) (HSH.out W (HBR.out.trans ((HB6.out.trans (hb.mono HB6.out.size)).mono (by omega))))
        rw [HLB.out] at this
        exact this)
      have e0 := (blk X6.out).1 0 _ rfl
      have e1 := (blk X6.out).1 1 _ rfl
      have e2 := (blk X6.out).1 2 _ rfl
      have e3 := (blk X6.out).1 3 _ rfl
      have m6 := (blk X6.out).2.2
      have HEE := Lib.hid (And.intro e0 (And.intro e1 (And.intro e2 e3)))
      have hg6 : g < W6.heap.size := by omega
      have d0 : W6.cell? ⟨g, j * 4, none⟩ = some (.int .i64 kk) := (HB6.out.cell (p := ⟨g, _, none⟩) hg').trans HCC.out.1
      have d1 : W6.cell? ⟨g, j * 4 + 1, none⟩ = some (.string nm) := (HB6.out.cell (p := ⟨g, _, none⟩) hg').trans HCC.out.2.1
      have d2 : W6.cell? ⟨g, j * 4 + 2, none⟩ = some (.slice xa gs.length xc) := (HB6.out.cell (p := ⟨g, _, none⟩) hg').trans HCC.out.2.2.1
      have d3 : W6.cell? ⟨g, j * 4 + 3, none⟩ = some (.slice xb ex.length xd) := (HB6.out.cell (p := ⟨g, _, none⟩) hg').trans HCC.out.2.2.2
      have HDD := Lib.hid (And.intro d0 (And.intro d1 (And.intro d2 d3)))
      have KEEP : Hid (∀ W, Below W6.heap.size W6 W → (W.cell? ⟨w5.heap.size, 0, none⟩ = some (.int .i64 kk) ∧ W.cell? ⟨w5.heap.size, 1, none⟩ = some (.string nm) ∧ W.cell? ⟨w5.heap.size, 2, none⟩ = some (.slice ya gs.length yc) ∧ W.cell? ⟨w5.heap.size, 3, none⟩ = some (.slice yb ex.length yd)) ∧ (W.cell? ⟨g, j * 4, none⟩ = some (.int .i64 kk) ∧ W.cell? ⟨g, j * 4 + 1, none⟩ = some (.string nm) ∧ W.cell? ⟨g, j * 4 + 2, none⟩ = some (.slice xa gs.length xc) ∧ W.cell? ⟨g, j * 4 + 3, none⟩ = some (.slice xb ex.length xd))) := Lib.hid (fun W hb =>
        ⟨⟨(hb.cell (p := ⟨w5.heap.size, _, none⟩) m6).trans HEE.out.1, (hb.cell (p := ⟨w5.heap.size, _, none⟩) m6).trans HEE.out.2.1, (hb.cell (p := ⟨w5.heap.size, _, none⟩) m6).trans HEE.out.2.2.1, (hb.cell (p := ⟨w5.heap.size, _, none⟩) m6).trans HEE.out.2.2.2⟩,
         ⟨(hb.cell (p := ⟨g, _, none⟩) hg6).trans HDD.out.1, (hb.cell (p := ⟨g, _, none⟩) hg6).trans HDD.out.2.1, (hb.cell (p := ⟨g, _, none⟩) hg6).trans HDD.out.2.2.1, (hb.cell (p := ⟨g, _, none⟩) hg6).trans HDD.out.2.2.2⟩⟩)
      clear hW6
      go_upto_region 12 with fail
      rw [HW6.out]
      go_region_held3 (fun w' => (w'.cell? ⟨w5.heap.size, 0, none⟩ = some (.int .i64 kk) ∧ w'.cell? ⟨w5.heap.size, 1, none⟩ = some (.string nm) ∧ w'.cell? ⟨w5.heap.size, 2, none⟩ = some (.slice ya gs.length yc) ∧ w'.cell? ⟨w5.heap.size, 3, none⟩ = some (.slice yb ex.length yd)) ∧ (w'.cell? ⟨g, j * 4, none⟩ = some (.int .i64 kk) ∧ w'.cell? ⟨g, j * 4 + 1, none⟩ = some (.string nm) ∧ w'.cell? ⟨g, j * 4 + 2, none⟩ = some (.slice xa gs.length xc) ∧ w'.cell? ⟨g, j * 4 + 3, none⟩ = some (.slice xb ex.length xd)))
        (first | go_keep | exact KEEP.out _ (undrew b1) | exact KEEP.out _ ((undrew b1).trans (b2.mono (undrew b1).size)))
        (first
          | (go_at_call 11; refine (SL.out _ ?_).mono ?_; exact (Below.refl W6.heap.size W6).drew; rintro e w7 ⟨rfl, b1⟩)
          | (go_at_call 12; refine (LK.out _ ?_).mono ?_; exact (undrew b1); rintro e w8 ⟨rfl, b2⟩))
      all_goals
        have HB8 : Hid (Below w3.heap.size w3 w8) := Lib.hid (HBL.out.trans ((HB6.out.trans (((undrew b1).trans (b2.mono (undrew b1).size)).mono HB6.out.size)).mono hB))
        clear b1 b2 e0 e1 e2 e3 d0 d1 d2 d3 HEE HDD KEEP SL LK
        go_wp2
        go_roundw
        case rel => exact ⟨j + 1, by omega, by go_num, HB8.out⟩
        case measure => simp [RowKit.intOf]; omega
    · have hjj : j = X.length := by omega
      have RW := Lib.hid (RX3.out.below hbel)
      have R3W := Lib.hid (R3.out.below hbel)
      have SLS := Lib.hid (l_sameLines (some ⟨g, 0, none⟩) a3 cp c3 X X3 wr RW.out R3W.out HP3.out.symm (by omega) HSM.out)
      have IF3 := Lib.hid (fun (W : World) hr hb => IF2.out X3 a3 c3 W HP3.out hr hb)
      clear hbel hlt
      subst hjj
      go_wp2_with fail
      refine SLS.out.mono ?_
      rintro e w9 ⟨rfl, b9⟩
      have R39 := Lib.hid (R3W.out.below b9)
      have HB9 : Hid (Below w.heap.size w w9) := Lib.hid (HBR.out.trans (b9.mono (by omega)))
      have z9 := HB9.out.size
      clear b9
      go_wp2_with fail
      refine (IF3.out _ R39.out HB9.out).mono ?_
      rintro e w10 ⟨rfl, b10⟩
      have HB10 : Hid (Below w.heap.size w w10) := Lib.hid (HB9.out.trans (b10.mono z9))
      clear b10
      go_wp2
      go_ret
      exact ⟨rfl, HB10.out⟩
end Go.Proofs.YthmllcpldgbbcaaGreatDoor.fnProgramText
