/- The program's known, and the library's ContainsFunc over tokens. -/
import Derived.Test.YthmllcpldgbbcaaDoorPokA
import Derived.Test.YthmllcpldgbbcaaDoorPokC
namespace Go.Proofs.YthmllcpldgbbcaaDoor
open Go.RowKit Go.Lib

/-- A token names what there is. -/
def knownB (p : List PLine) (v : List ByteArray) (t : TokL) : Bool :=
  if t.kind = 1 then memB v t.name else if t.kind = 7 then decide (0 ≤ findZ p t.name) && decide (((argsZ p (findZ p t.name)).length : Int) = t.num) else true
theorem knownB_iff (p : List PLine) (v : List ByteArray) (t : TokL) : knownB p v t = true ↔ knownP p v t := by
  unfold knownB knownP
  by_cases h1 : t.kind = 1
  · rw [if_pos h1, memB_iff]
    exact ⟨fun h => ⟨fun _ => h, fun h7 => by omega⟩, fun h => h.1 h1⟩
  · rw [if_neg h1]
    by_cases h7 : t.kind = 7
    · rw [if_pos h7, Bool.and_eq_true, decide_eq_true_eq, decide_eq_true_eq]
      exact ⟨fun h => ⟨fun h' => absurd h' h1, fun _ => h⟩, fun h => h.2 h7⟩
    · rw [if_neg h7]
      exact ⟨fun _ => ⟨fun h => absurd h h1, fun h => absurd h h7⟩, fun _ => rfl⟩
theorem below_drewN {B : Nat} {w w' : World} (h : Below B w w') (n : Nat) : Below B w (w'.drewN n) := ⟨h.os, h.tape, h.output, h.size, h.block⟩
theorem findF_bd (n : ByteArray) (l : List PLine) : ∀ i : Nat, findF n i l = -1 ∨ ((i : Int) ≤ findF n i l ∧ findF n i l < (i : Int) + (l.length : Int)) := by
  induction l with
  | nil => intro i; exact .inl rfl
  | cons x r ih =>
    intro i
    unfold findF
    rw [List.length_cons]
    split
    · exact .inr ⟨Int.le_refl _, by omega⟩
    · rcases ih (i + 1) with h | h
      · exact .inl h
      · exact .inr ⟨by omega, by omega⟩
theorem findZ_bd (p : List PLine) (n : ByteArray) : findZ p n = -1 ∨ (0 ≤ findZ p n ∧ findZ p n < (p.length : Int)) := by
  rcases findF_bd n p 0 with h | h
  · exact .inl h
  · refine .inr ⟨?_, ?_⟩
    · have := h.1; unfold findZ; omega
    · have := h.2; unfold findZ; omega

set_option maxRecDepth 100000 in
set_option maxHeartbeats 4000000 in
theorem i_known (a : Option Addr) (cap : Nat) (X : List LnL) (av : Option Addr) (cv : Nat) (v : List ByteArray) (t : TokL) (w : World) (hl : X.length ≤ 1048576) (hv : v.length ≤ 3000000) (hr : ReadL 9 70 w a X) (hrv : ReadS w av v) :
    Calls Tryd.prog 50 #[.slice a X.length cap, .slice av v.length cv, .agg #[.int .i64 t.kind, .int .i64 t.num, .string t.name]] w fun e w' => e = .returned (.bool (knownB (plL X) v t)) ∧ Below w.heap.size w w' := by
  have hb0 := (Below.refl w.heap.size w).alloc (Nat.le_refl _) (.cells #[.int .i64 t.kind, .int .i64 t.num, .string t.name] 70)
  have X0 := Lib.hid (heap_alloc_new w (.cells #[.int .i64 t.kind, .int .i64 t.num, .string t.name] 70))
  have HCS := Lib.hid (x_containsS av cv v t.name _ (hrv.below hb0) hv)
  have HFF := Lib.hid (i_findFn a cap X t.name _ (by omega) (hr.below hb0))
  have HR := Lib.hid (hr.below hb0)
  have HB0 := Lib.hid hb0
  have hpl := plL_length X
  have hz : (w.alloc (.cells #[.int .i64 t.kind, .int .i64 t.num, .string t.name] 70)).heap.size = w.heap.size + 1 := by simp
  clear hb0 hr hrv
  obtain ⟨k, num, nm⟩ := t
  dsimp only at X0 HCS HFF HR HB0 hz ⊢
  by_cases h1 : k = 1
  · subst h1
    have HV : Hid (knownB (plL X) v ⟨1, num, nm⟩ = memB v nm) := Lib.hid rfl
    generalize memB v nm = b at *
    clear HFF HR hpl
    go_enter Tryd.func50, Tryd.ntmps50
    go_wp2_with fail
    refine HCS.out.mono ?_
    rintro e w1 ⟨rfl, b1⟩
    have HB1 : Hid (Below w.heap.size w w1) := Lib.hid (HB0.out.trans (b1.mono (by omega)))
    clear b1
    go_wp2
    go_ret
    exact ⟨by rw [HV.out]; rfl, HB1.out⟩
  have a1 : (k == 1) = false := by simpa using h1
  by_cases h7 : k = 7
  · subst h7
    have HV : Hid (knownB (plL X) v ⟨7, num, nm⟩ = (decide (0 ≤ findZ (plL X) nm) && decide (((argsZ (plL X) (findZ (plL X) nm)).length : Int) = num))) := Lib.hid rfl
    have HBD := Lib.hid (findZ_bd (plL X) nm)
    clear HCS
    by_cases h0 : 0 ≤ findZ (plL X) nm
    · obtain ⟨j, hj⟩ := Int.eq_ofNat_of_zero_le h0
      have hjX : j < X.length := by have := HBD.out; omega
      obtain ⟨g, rfl, hg, ⟨_, _, c2, _⟩, hm⟩ := HR.out j hjX
      obtain ⟨xa, _, xc, _, ea, _, _, _, _, _⟩ := inMem_shape hm
      rw [ea] at c2
      have HVV : Hid (knownB (plL X) v ⟨7, num, nm⟩ = decide ((X[j].args.length : Int) = num)) := Lib.hid (by
        rw [HV.out, hj, argsZ_at X j hjX, decide_eq_true (by omega)]
        rfl)
      rw [hj] at HFF
      generalize X[j].args.length = na at *
      have k0 : (0 : Int) ≤ (j : Int) := by omega
      have k1 : (j : Int) < (X.length : Int) := by omega
      have hd0 : decide ((0 : Int) ≤ (j : Int)) = true := decide_eq_true k0
      clear hj h0 hm ea HV HBD
      go_enter Tryd.func50, Tryd.ntmps50
      go_wp2_with fail
      refine HFF.out.mono ?_
      rintro e w1 ⟨rfl, b1⟩
      have HB1 : Hid (Below w.heap.size w w1) := Lib.hid (HB0.out.trans (b1.mono (by omega)))
      have X1 := Lib.hid ((b1.block _ (by omega)).trans X0.out)
      have e1 : w1.cell? ⟨w.heap.size, 1, none⟩ = some (.int .i64 num) := (blk X1.out).1 1 _ rfl
      have d2 : w1.cell? ⟨g, j * 4 + 2, none⟩ = some (.slice xa na xc) := (b1.cell (p := ⟨g, j * 4 + 2, none⟩) hg).trans c2
      clear b1 c2
      by_cases hna : (na : Int) = num
      · have hdn : ((na : Int) == num) = true := by simpa using hna
        have HW : Hid (knownB (plL X) v ⟨7, num, nm⟩ = true) := Lib.hid (by rw [HVV.out]; exact decide_eq_true hna)
        clear hna HVV
        go_wp2_with fail
        go_quiet (fail)
        all_goals
          go_wp2
          go_ret
          exact ⟨by rw [HW.out]; rfl, below_drewN HB1.out _⟩
      · have hdn : ((na : Int) == num) = false := by simpa using hna
        have HW : Hid (knownB (plL X) v ⟨7, num, nm⟩ = false) := Lib.hid (by rw [HVV.out]; exact decide_eq_false hna)
        clear hna HVV
        go_wp2_with fail
        go_quiet (fail)
        all_goals
          go_wp2
          go_ret
          exact ⟨by rw [HW.out]; rfl, below_drewN HB1.out _⟩
    · have HW : Hid (knownB (plL X) v ⟨7, num, nm⟩ = false) := Lib.hid (by rw [HV.out, decide_eq_false h0]; rfl)
      obtain ⟨r, hr⟩ : ∃ r, findZ (plL X) nm = r := ⟨_, rfl⟩
      rw [hr] at HFF h0
      have hd0 : decide ((0 : Int) ≤ r) = false := decide_eq_false h0
      clear hr HV HBD HR
      go_enter Tryd.func50, Tryd.ntmps50
      go_wp2_with fail
      refine HFF.out.mono ?_
      rintro e w1 ⟨rfl, b1⟩
      have HB1 : Hid (Below w.heap.size w w1) := Lib.hid (HB0.out.trans (b1.mono (by omega)))
      clear b1
      go_wp2_with fail
      go_quiet (fail)
      all_goals
        go_wp2
        go_ret
        exact ⟨by rw [HW.out]; rfl, below_drewN HB1.out _⟩
  · have a7 : (k == 7) = false := by simpa using h7
    have HW : Hid (knownB (plL X) v ⟨k, num, nm⟩ = true) := Lib.hid (by unfold knownB; rw [if_neg h1, if_neg h7])
    clear h1 h7 HCS HFF HR
    go_enter Tryd.func50, Tryd.ntmps50
    go_wp2
    go_ret
    exact ⟨by rw [HW.out]; rfl, HB0.out⟩

set_option maxRecDepth 100000 in
set_option maxHeartbeats 1000000 in
/-- The closure: is a token not known? -/
theorem i_unknown (a : Option Addr) (cap : Nat) (X : List LnL) (av : Option Addr) (cv : Nat) (v : List ByteArray) (t : TokL) (c1 c5 : Nat) (w : World) (hl : X.length ≤ 1048576) (hv : v.length ≤ 3000000) (hr : ReadL 9 70 w a X) (hrv : ReadS w av v)
    (h1 : w.cell? ⟨c1, 0, none⟩ = some (.slice a X.length cap)) (h5 : w.cell? ⟨c5, 0, none⟩ = some (.slice av v.length cv)) (l1 : c1 < w.heap.size) (l5 : c5 < w.heap.size) :
    Calls Tryd.prog 49 #[.agg #[.int .i64 t.kind, .int .i64 t.num, .string t.name], .pointer (some ⟨c1, 0, none⟩), .pointer (some ⟨c5, 0, none⟩)] w fun e w' => e = .returned (.bool (!knownB (plL X) v t)) ∧ Below w.heap.size w w' := by
  have hb0 := (Below.refl w.heap.size w).alloc (Nat.le_refl _) (.cells #[.int .i64 t.kind, .int .i64 t.num, .string t.name] 70)
  have HK := Lib.hid (i_known a cap X av cv v t _ hl hv (hr.below hb0) (hrv.below hb0))
  have e1 := (hb0.cell (p := ⟨c1, 0, none⟩) l1).trans h1
  have e5 := (hb0.cell (p := ⟨c5, 0, none⟩) l5).trans h5
  have HB0 := Lib.hid hb0
  have hz : (w.alloc (.cells #[.int .i64 t.kind, .int .i64 t.num, .string t.name] 70)).heap.size = w.heap.size + 1 := by simp
  obtain ⟨r, hrr⟩ : ∃ r, knownB (plL X) v t = r := ⟨_, rfl⟩
  rw [hrr] at HK ⊢
  obtain ⟨k, num, nm⟩ := t
  dsimp only at HK HB0 hz e1 e5 ⊢
  clear hb0 hr hrv hrr h1 h5
  go_enter Tryd.func49, Tryd.ntmps49
  go_wp2_with fail
  refine HK.out.mono ?_
  rintro e w1 ⟨rfl, b1⟩
  have HB1 : Hid (Below w.heap.size w w1) := Lib.hid (HB0.out.trans (b1.mono (by omega)))
  clear b1
  go_wp2
  go_ret
  exact ⟨rfl, HB1.out⟩

set_option maxRecDepth 100000 in
set_option maxHeartbeats 2000000 in
theorem i_indexTok (a : Option Addr) (cap : Nat) (X : List LnL) (av : Option Addr) (cv : Nat) (v : List ByteArray) (b : Option Addr) (d : Nat) (ex : List TokL) (c1 c5 : Nat) (w : World) (hl : X.length ≤ 1048576) (hv : v.length ≤ 3000000) (hr : ReadL 9 70 w a X) (hrv : ReadS w av v)
    (h1 : w.cell? ⟨c1, 0, none⟩ = some (.slice a X.length cap)) (h5 : w.cell? ⟨c5, 0, none⟩ = some (.slice av v.length cv)) (l1 : c1 < w.heap.size) (l5 : c5 < w.heap.size) (hx : ReadT w b ex) (hel : ex.length ≤ 1048576) :
    Calls Tryd.prog 71 #[.slice b ex.length d, .func (.func 49) #[] #[.pointer (some ⟨c1, 0, none⟩), .pointer (some ⟨c5, 0, none⟩)]] w fun e w' => e = .returned (.int .i64 (fixI (fun t => !knownB (plL X) v t) ex)) ∧ Below w.heap.size w w' := by
  have HX := Lib.hid hx
  have HU := Lib.hid (fun (W : World) (hb : Below w.heap.size w W) t => i_unknown a cap X av cv v t c1 c5 W hl hv (hr.below hb) (hrv.below hb) ((hb.cell (p := ⟨c1, 0, none⟩) l1).trans h1) ((hb.cell (p := ⟨c5, 0, none⟩) l5).trans h5) (by have := hb.size; omega) (by have := hb.size; omega))
  obtain ⟨pb, hpb⟩ : ∃ pb : TokL → Bool, (fun t => !knownB (plL X) v t) = pb := ⟨_, rfl⟩
  have HU2 : Hid (∀ (W : World) (hb : Below w.heap.size w W) t, Calls Tryd.prog 49 #[.agg #[.int .i64 t.kind, .int .i64 t.num, .string t.name], .pointer (some ⟨c1, 0, none⟩), .pointer (some ⟨c5, 0, none⟩)] W fun e w' => e = .returned (.bool (pb t)) ∧ Below W.heap.size W w') := Lib.hid (fun W hb t => by
    have := HU.out W hb t
    rw [← hpb]
    exact this)
  rw [hpb]
  clear hx hr hrv h1 h5 l1 l5 HU hpb
  go_enter Tryd.func71, Tryd.ntmps71
  go_wp2_with fail
  go_loopw [5, 8] (fun _ i wr => ∃ q : Nat, q ≤ ex.length ∧ i = .int .i64 (q : Int) ∧ Hid (∀ j, ∀ h : j < ex.length, j < q → pb ex[j] = false) ∧ Below w.heap.size w wr) (fun _ i _ => ex.length - (RowKit.intOf i).toNat)
  case atStart => exact ⟨0, Nat.zero_le _, rfl, Lib.hid (fun j _ h => by omega), Below.refl _ _⟩
  case round =>
    obtain ⟨q, hq, rfl, HE, hbel⟩ := hrel
    have HB := Lib.hid hbel
    have hB := hbel.size
    by_cases hlt : q < ex.length
    · obtain ⟨g, rfl, hg, c0, c1', c2⟩ := (HX.out.below hbel) q hlt
      have HAT := Lib.hid (fun h => fixI_at pb ex q hlt h (fun i hi => HE.out i (by omega) hi))
      have HNX := Lib.hid (fun (h : pb ex[q] = false) => show ∀ j, ∀ h : j < ex.length, j < q + 1 → pb ex[j] = false from fun j hj hjq => by
        by_cases hjj : j = q
        · subst hjj; exact h
        · exact HE.out j hj (by omega))
      have HF := Lib.hid (HU2.out wr hbel ex[q])
      obtain ⟨r, hrr⟩ : ∃ r, pb ex[q] = r := ⟨_, rfl⟩
      rw [hrr] at HF HAT HNX
      obtain ⟨t, ht⟩ : ∃ t, ex[q] = t := ⟨_, rfl⟩
      rw [ht] at c0 c1' c2 HF
      obtain ⟨k, num, nm⟩ := t
      dsimp only at c0 c1' c2 HF
      have k0 : (0 : Int) ≤ (q : Int) := by omega
      have k1 : (q : Int) < (ex.length : Int) := by omega
      clear hbel hrr ht
      cases r
      · have HN := Lib.hid (HNX.out rfl)
        clear HAT HNX
        go_wp2_with fail
        refine HF.out.mono ?_
        rintro e w1 ⟨rfl, b1⟩
        have HB1 : Hid (Below w.heap.size w w1) := Lib.hid (HB.out.trans (b1.mono hB))
        clear b1 c0 c1' c2
        go_wp2
        go_roundw
        case rel => exact ⟨q + 1, by omega, by go_num, HN, HB1.out⟩
        case measure => simp [RowKit.intOf]; omega
      · have HV := Lib.hid (HAT.out rfl)
        clear HAT HNX
        go_wp2_with fail
        refine HF.out.mono ?_
        rintro e w1 ⟨rfl, b1⟩
        have HB1 : Hid (Below w.heap.size w w1) := Lib.hid (HB.out.trans (b1.mono hB))
        clear b1 c0 c1' c2
        go_wp2
        go_ret
        exact ⟨by rw [HV.out]; rfl, HB1.out⟩
    · have HV := Lib.hid (fixI_none pb ex (fun j hj => HE.out j hj (by omega)))
      have hqq : q = ex.length := by omega
      subst hqq
      clear hbel
      go_wp2
      go_ret
      exact ⟨by rw [HV.out]; rfl, HB.out⟩

set_option maxHeartbeats 1000000 in
theorem x_containsTok (a : Option Addr) (cap : Nat) (X : List LnL) (av : Option Addr) (cv : Nat) (v : List ByteArray) (b : Option Addr) (d : Nat) (ex : List TokL) (c1 c5 : Nat) (w : World) (hl : X.length ≤ 1048576) (hv : v.length ≤ 3000000) (hr : ReadL 9 70 w a X) (hrv : ReadS w av v)
    (h1 : w.cell? ⟨c1, 0, none⟩ = some (.slice a X.length cap)) (h5 : w.cell? ⟨c5, 0, none⟩ = some (.slice av v.length cv)) (l1 : c1 < w.heap.size) (l5 : c5 < w.heap.size) (hx : ReadT w b ex) (hel : ex.length ≤ 1048576) :
    Calls Tryd.prog 48 #[.slice b ex.length d, .func (.func 49) #[] #[.pointer (some ⟨c1, 0, none⟩), .pointer (some ⟨c5, 0, none⟩)]] w fun e w' => e = .returned (.bool (!ex.all (knownB (plL X) v))) ∧ Below w.heap.size w w' := by
  have HC := Lib.hid (i_indexTok a cap X av cv v b d ex c1 c5 w hl hv hr hrv h1 h5 l1 l5 hx hel)
  have HM : Hid (decide (0 ≤ fixI (fun t => !knownB (plL X) v t) ex) = !ex.all (knownB (plL X) v)) := Lib.hid (by
    rw [fixI_any, ← Bool.not_inj_iff, Bool.not_not, List.not_any_eq_all_not]
    congr 1
    funext x
    rw [Bool.not_not])
  clear hr hrv h1 h5 hx l1 l5
  go_enter Tryd.func48, Tryd.ntmps48
  go_wp2_with fail
  refine HC.out.mono ?_
  rintro e w1 ⟨rfl, b1⟩
  have HB := Lib.hid b1
  clear b1
  generalize fixI (fun t => !knownB (plL X) v t) ex = r at *
  go_wp2
  go_ret
  exact ⟨ret_b HM.out, HB.out⟩
end Go.Proofs.YthmllcpldgbbcaaDoor
