/- The program's known, and the library's ContainsFunc over tokens; The program's namesFit, and ProgramOk; The program's ProgramOk. -/
import Derived.Test.YtaplbefdijcceaaGreatDoorI30
import Derived.Deep.RegionHeld3
namespace Go.Proofs.YtaplbefdijcceaaGreatDoor
open Go.RowKit Go.Lib
def knownB (p : List PLine) (v : List ByteArray) (t : TokL) : Bool :=
  if t.kind = 1 then memB v t.name else if t.kind = 7 then decide (0 ≤ findZ p t.name) && decide (((argsZ p (findZ p t.name)).length : Int) = t.num) else true
theorem knownB_iff (p : List PLine) (v : List ByteArray) (t : TokL) : knownB p v t = true ↔ knownP p v t := by
  unfold knownB knownP
  by_cases h1 : t.kind = 1
  · rw [if_pos h1, memB_iff]
    exact ⟨fun h => ⟨fun _ => h, fun h7 => by omega⟩, fun h => h.1 h1⟩
  · rw [if_neg h1]
    by_cases h7 : t.kind = 7
    · rw [if_pos h7, Bool.and_eq_true, decide_eq_true_eq, decide_eq_true_eq]
      exact ⟨fun h => ⟨fun h' => absurd h' h1, fun _ => h⟩, fun h => h.2 h7⟩
    · rw [if_neg h7]
      exact ⟨fun _ => ⟨fun h => absurd h h1, fun h => absurd h h7⟩, fun _ => rfl⟩
theorem below_drewN {B : Nat} {w w' : World} (h : Below B w w') (n : Nat) : Below B w (w'.drewN n) := ⟨h.os, h.tape, h.output, h.size, h.block⟩
theorem findF_bd (n : ByteArray) (l : List PLine) : ∀ i : Nat, findF n i l = -1 ∨ ((i : Int) ≤ findF n i l ∧ findF n i l < (i : Int) + (l.length : Int)) := by
  induction l with
  | nil => intro i; exact .inl rfl
  | cons x r ih =>
    intro i
    unfold findF
    rw [List.length_cons]
    split
    · exact .inr ⟨Int.le_refl _, by omega⟩
    · rcases ih (i + 1) with h | h
      · exact .inl h
      · exact .inr ⟨by omega, by omega⟩
theorem findZ_bd (p : List PLine) (n : ByteArray) : findZ p n = -1 ∨ (0 ≤ findZ p n ∧ findZ p n < (p.length : Int)) := by
  rcases findF_bd n p 0 with h | h
  · exact .inl h
  · refine .inr ⟨?_, ?_⟩
    · have := h.1; unfold findZ; omega
    · have := h.2; unfold findZ; omega
set_option maxRecDepth 100000 in
set_option maxHeartbeats 4000000 in
theorem i_known (a : Option Addr) (cap : Nat) (X : List LnL) (av : Option Addr) (cv : Nat) (v : List ByteArray) (t : TokL) (w : World) (hl : X.length ≤ 1048576) (hv : v.length ≤ 3000000) (hr : ReadL 9 49 w a X) (hrv : ReadS w av v) :
    Calls Tryz.prog 140 #[.slice a X.length cap, .slice av v.length cv, .agg #[.int .i64 t.kind, .int .i64 t.num, .string t.name]] w fun e w' => e = .returned (.bool (knownB (plL X) v t)) ∧ Below w.heap.size w w' := by
  have hb0 := (Below.refl w.heap.size w).alloc (Nat.le_refl _) (.cells #[.int .i64 t.kind, .int .i64 t.num, .string t.name] 49)
  have X0 := hid (heap_alloc_new w (.cells #[.int .i64 t.kind, .int .i64 t.num, .string t.name] 49))
  have HCS := hid (x_containsS av cv v t.name _ (hrv.below hb0) hv)
  have HFF := hid (i_findFn a cap X t.name _ (by omega) (hr.below hb0))
  have HR := hid (hr.below hb0)
  have HB0 := hid hb0
  have hpl := plL_length X
  have hz : (w.alloc (.cells #[.int .i64 t.kind, .int .i64 t.num, .string t.name] 49)).heap.size = w.heap.size + 1 := by simp
  clear hb0 hr hrv
  obtain ⟨k, num, nm⟩ := t
  dsimp only at X0 HCS HFF HR HB0 hz ⊢
  by_cases h1 : k = 1
  · subst h1
    have HV : Hid (knownB (plL X) v ⟨1, num, nm⟩ = memB v nm) := hid rfl
    generalize memB v nm = b at *
    clear HFF HR hpl
    go_enter Tryz.func140, Tryz.ntmps140
    go_wp2_with fail
    refine HCS.out.mono ?_
    rintro e w1 ⟨rfl, b1⟩
    have HB1 : Hid (Below w.heap.size w w1) := hid (HB0.out.trans (b1.mono (by omega)))
    clear b1
    go_wp2
    go_ret
    exact ⟨by rw [HV.out]; rfl, HB1.out⟩
  have a1 : (k == 1) = false := by simpa using h1
  by_cases h7 : k = 7
  · subst h7
    have HV : Hid (knownB (plL X) v ⟨7, num, nm⟩ = (decide (0 ≤ findZ (plL X) nm) && decide (((argsZ (plL X) (findZ (plL X) nm)).length : Int) = num))) := hid rfl
    have HBD := hid (findZ_bd (plL X) nm)
    clear HCS
    by_cases h0 : 0 ≤ findZ (plL X) nm
    · obtain ⟨j, hj⟩ := Int.eq_ofNat_of_zero_le h0
      have hjX : j < X.length := by have := HBD.out; omega
      obtain ⟨g, rfl, hg, ⟨_, _, c2, _⟩, hm⟩ := HR.out j hjX
      obtain ⟨xa, _, xc, _, ea, _, _, _, _, _⟩ := inMem_shape hm
      rw [ea] at c2
      have HVV : Hid (knownB (plL X) v ⟨7, num, nm⟩ = decide ((X[j].args.length : Int) = num)) := hid (by
        rw [HV.out, hj, argsZ_at X j hjX, decide_eq_true (by omega)]
        rfl)
      rw [hj] at HFF
      generalize X[j].args.length = na at *
      have k0 : (0 : Int) ≤ (j : Int) := by omega
      have k1 : (j : Int) < (X.length : Int) := by omega
      have hd0 : decide ((0 : Int) ≤ (j : Int)) = true := decide_eq_true k0
      clear hj h0 hm ea HV HBD
      go_enter Tryz.func140, Tryz.ntmps140
      go_wp2_with fail
      refine HFF.out.mono ?_
      rintro e w1 ⟨rfl, b1⟩
      have HB1 : Hid (Below w.heap.size w w1) := hid (HB0.out.trans (b1.mono (by omega)))
      have X1 := hid ((b1.block _ (by omega)).trans X0.out)
      have e1 : w1.cell? ⟨w.heap.size, 1, none⟩ = some (.int .i64 num) := (blk X1.out).1 1 _ rfl
      have d2 : w1.cell? ⟨g, j * 4 + 2, none⟩ = some (.slice xa na xc) := (b1.cell (p := ⟨g, j * 4 + 2, none⟩) hg).trans c2
      clear b1 c2
      by_cases hna : (na : Int) = num
      · have hdn : ((na : Int) == num) = true := by simpa using hna
        have HW : Hid (knownB (plL X) v ⟨7, num, nm⟩ = true) := hid (by rw [HVV.out]; exact decide_eq_true hna)
        clear hna HVV
        go_wp2_with fail
        go_quiet (fail)
        all_goals
          go_wp2
          go_ret
          exact ⟨by rw [HW.out]; rfl, below_drewN HB1.out _⟩
      · have hdn : ((na : Int) == num) = false := by simpa using hna
        have HW : Hid (knownB (plL X) v ⟨7, num, nm⟩ = false) := hid (by rw [HVV.out]; exact decide_eq_false hna)
        clear hna HVV
        go_wp2_with fail
        go_quiet (fail)
        all_goals
          go_wp2
          go_ret
          exact ⟨by rw [HW.out]; rfl, below_drewN HB1.out _⟩
    · have HW : Hid (knownB (plL X) v ⟨7, num, nm⟩ = false) := hid (by rw [HV.out, decide_eq_false h0]; rfl)
      obtain ⟨r, hr⟩ : ∃ r, findZ (plL X) nm = r := ⟨_, rfl⟩
      rw [hr] at HFF h0
      have hd0 : decide ((0 : Int) ≤ r) = false := decide_eq_false h0
      clear hr HV HBD HR
      go_enter Tryz.func140, Tryz.ntmps140
      go_wp2_with fail
      refine HFF.out.mono ?_
      rintro e w1 ⟨rfl, b1⟩
      have HB1 : Hid (Below w.heap.size w w1) := hid (HB0.out.trans (b1.mono (by omega)))
      clear b1
      go_wp2_with fail
      go_quiet (fail)
      all_goals
        go_wp2
        go_ret
        exact ⟨by rw [HW.out]; rfl, below_drewN HB1.out _⟩
  · have a7 : (k == 7) = false := by simpa using h7
    have HW : Hid (knownB (plL X) v ⟨k, num, nm⟩ = true) := hid (by unfold knownB; rw [if_neg h1, if_neg h7])
    clear h1 h7 HCS HFF HR
    go_enter Tryz.func140, Tryz.ntmps140
    go_wp2
    go_ret
    exact ⟨by rw [HW.out]; rfl, HB0.out⟩
set_option maxRecDepth 100000 in
set_option maxHeartbeats 1000000 in
theorem i_unknown (a : Option Addr) (cap : Nat) (X : List LnL) (av : Option Addr) (cv : Nat) (v : List ByteArray) (t : TokL) (c1 c5 : Nat) (w : World) (hl : X.length ≤ 1048576) (hv : v.length ≤ 3000000) (hr : ReadL 9 49 w a X) (hrv : ReadS w av v)
    (h1 : w.cell? ⟨c1, 0, none⟩ = some (.slice a X.length cap)) (h5 : w.cell? ⟨c5, 0, none⟩ = some (.slice av v.length cv)) (l1 : c1 < w.heap.size) (l5 : c5 < w.heap.size) :
    Calls Tryz.prog 139 #[.agg #[.int .i64 t.kind, .int .i64 t.num, .string t.name], .pointer (some ⟨c1, 0, none⟩), .pointer (some ⟨c5, 0, none⟩)] w fun e w' => e = .returned (.bool (!knownB (plL X) v t)) ∧ Below w.heap.size w w' := by
  have hb0 := (Below.refl w.heap.size w).alloc (Nat.le_refl _) (.cells #[.int .i64 t.kind, .int .i64 t.num, .string t.name] 49)
  have HK := hid (i_known a cap X av cv v t _ hl hv (hr.below hb0) (hrv.below hb0))
  have e1 := (hb0.cell (p := ⟨c1, 0, none⟩) l1).trans h1
  have e5 := (hb0.cell (p := ⟨c5, 0, none⟩) l5).trans h5
  have HB0 := hid hb0
  have hz : (w.alloc (.cells #[.int .i64 t.kind, .int .i64 t.num, .string t.name] 49)).heap.size = w.heap.size + 1 := by simp
  obtain ⟨r, hrr⟩ : ∃ r, knownB (plL X) v t = r := ⟨_, rfl⟩
  rw [hrr] at HK ⊢
  obtain ⟨k, num, nm⟩ := t
  dsimp only at HK HB0 hz e1 e5 ⊢
  clear hb0 hr hrv hrr h1 h5
  go_enter Tryz.func139, Tryz.ntmps139
  go_wp2_with fail
  refine HK.out.mono ?_
  rintro e w1 ⟨rfl, b1⟩
  have HB1 : Hid (Below w.heap.size w w1) := hid (HB0.out.trans (b1.mono (by omega)))
  clear b1
  go_wp2
  go_ret
  exact ⟨rfl, HB1.out⟩
set_option maxRecDepth 100000 in
set_option maxHeartbeats 2000000 in
theorem i_indexTok (a : Option Addr) (cap : Nat) (X : List LnL) (av : Option Addr) (cv : Nat) (v : List ByteArray) (b : Option Addr) (d : Nat) (ex : List TokL) (c1 c5 : Nat) (w : World) (hl : X.length ≤ 1048576) (hv : v.length ≤ 3000000) (hr : ReadL 9 49 w a X) (hrv : ReadS w av v)
    (h1 : w.cell? ⟨c1, 0, none⟩ = some (.slice a X.length cap)) (h5 : w.cell? ⟨c5, 0, none⟩ = some (.slice av v.length cv)) (l1 : c1 < w.heap.size) (l5 : c5 < w.heap.size) (hx : ReadT w b ex) (hel : ex.length ≤ 1048576) :
    Calls Tryz.prog 172 #[.slice b ex.length d, .func (.func 139) #[] #[.pointer (some ⟨c1, 0, none⟩), .pointer (some ⟨c5, 0, none⟩)]] w fun e w' => e = .returned (.int .i64 (fixI (fun t => !knownB (plL X) v t) ex)) ∧ Below w.heap.size w w' := by
  have HX := hid hx
  have HU := hid (fun (W : World) (hb : Below w.heap.size w W) t => i_unknown a cap X av cv v t c1 c5 W hl hv (hr.below hb) (hrv.below hb) ((hb.cell (p := ⟨c1, 0, none⟩) l1).trans h1) ((hb.cell (p := ⟨c5, 0, none⟩) l5).trans h5) (by have := hb.size; omega) (by have := hb.size; omega))
  obtain ⟨pb, hpb⟩ : ∃ pb : TokL → Bool, (fun t => !knownB (plL X) v t) = pb := ⟨_, rfl⟩
  have HU2 : Hid (∀ (W : World) (hb : Below w.heap.size w W) t, Calls Tryz.prog 139 #[.agg #[.int .i64 t.kind, .int .i64 t.num, .string t.name], .pointer (some ⟨c1, 0, none⟩), .pointer (some ⟨c5, 0, none⟩)] W fun e w' => e = .returned (.bool (pb t)) ∧ Below W.heap.size W w') := hid (fun W hb t => by
    have := HU.out W hb t
    rw [← hpb]
    exact this)
  rw [hpb]
  clear hx hr hrv h1 h5 l1 l5 HU hpb
  go_enter Tryz.func172, Tryz.ntmps172
  go_wp2_with fail
  go_loopw [5, 8] (fun _ i wr => ∃ q : Nat, q ≤ ex.length ∧ i = .int .i64 (q : Int) ∧ Hid (∀ j, ∀ h : j < ex.length, j < q → pb ex[j] = false) ∧ Below w.heap.size w wr) (fun _ i _ => ex.length - (RowKit.intOf i).toNat)
  case atStart => exact ⟨0, Nat.zero_le _, rfl, hid (fun j _ h => by omega), Below.refl _ _⟩
  case round =>
    obtain ⟨q, hq, rfl, HE, hbel⟩ := hrel
    have HB := hid hbel
    have hB := hbel.size
    by_cases hlt : q < ex.length
    · obtain ⟨g, rfl, hg, c0, c1', c2⟩ := (HX.out.below hbel) q hlt
      have HAT := hid (fun h => fixI_at pb ex q hlt h (fun i hi => HE.out i (by omega) hi))
      have HNX := hid (fun (h : pb ex[q] = false) => show ∀ j, ∀ h : j < ex.length, j < q + 1 → pb ex[j] = false from fun j hj hjq => by
        by_cases hjj : j = q
        · subst hjj; exact h
        · exact HE.out j hj (by omega))
      have HF := hid (HU2.out wr hbel ex[q])
      obtain ⟨r, hrr⟩ : ∃ r, pb ex[q] = r := ⟨_, rfl⟩
      rw [hrr] at HF HAT HNX
      obtain ⟨t, ht⟩ : ∃ t, ex[q] = t := ⟨_, rfl⟩
      rw [ht] at c0 c1' c2 HF
      obtain ⟨k, num, nm⟩ := t
      dsimp only at c0 c1' c2 HF
      have k0 : (0 : Int) ≤ (q : Int) := by omega
      have k1 : (q : Int) < (ex.length : Int) := by omega
      clear hbel hrr ht
      cases r
      · have HN := hid (HNX.out rfl)
        clear HAT HNX
        go_wp2_with fail
        refine HF.out.mono ?_
        rintro e w1 ⟨rfl, b1⟩
        have HB1 : Hid (Below w.heap.size w w1) := hid (HB.out.trans (b1.mono hB))
        clear b1 c0 c1' c2
        go_wp2
        go_roundw
        case rel => exact ⟨q + 1, by omega, by go_num, HN, HB1.out⟩
        case measure => simp [RowKit.intOf]; omega
      · have HV := hid (HAT.out rfl)
        clear HAT HNX
        go_wp2_with fail
        refine HF.out.mono ?_
        rintro e w1 ⟨rfl, b1⟩
        have HB1 : Hid (Below w.heap.size w w1) := hid (HB.out.trans (b1.mono hB))
        clear b1 c0 c1' c2
        go_wp2
        go_ret
        exact ⟨by rw [HV.out]; rfl, HB1.out⟩
    · have HV := hid (fixI_none pb ex (fun j hj => HE.out j hj (by omega)))
      have hqq : q = ex.length := by omega
      subst hqq
      clear hbel
      go_wp2
      go_ret
      exact ⟨by rw [HV.out]; rfl, HB.out⟩
set_option maxHeartbeats 1000000 in
theorem x_containsTok (a : Option Addr) (cap : Nat) (X : List LnL) (av : Option Addr) (cv : Nat) (v : List ByteArray) (b : Option Addr) (d : Nat) (ex : List TokL) (c1 c5 : Nat) (w : World) (hl : X.length ≤ 1048576) (hv : v.length ≤ 3000000) (hr : ReadL 9 49 w a X) (hrv : ReadS w av v)
    (h1 : w.cell? ⟨c1, 0, none⟩ = some (.slice a X.length cap)) (h5 : w.cell? ⟨c5, 0, none⟩ = some (.slice av v.length cv)) (l1 : c1 < w.heap.size) (l5 : c5 < w.heap.size) (hx : ReadT w b ex) (hel : ex.length ≤ 1048576) :
    Calls Tryz.prog 138 #[.slice b ex.length d, .func (.func 139) #[] #[.pointer (some ⟨c1, 0, none⟩), .pointer (some ⟨c5, 0, none⟩)]] w fun e w' => e = .returned (.bool (!ex.all (knownB (plL X) v))) ∧ Below w.heap.size w w' := by
  have HC := hid (i_indexTok a cap X av cv v b d ex c1 c5 w hl hv hr hrv h1 h5 l1 l5 hx hel)
  have HM : Hid (decide (0 ≤ fixI (fun t => !knownB (plL X) v t) ex) = !ex.all (knownB (plL X) v)) := hid (by
    rw [fixI_any, ← Bool.not_inj_iff, Bool.not_not, List.not_any_eq_all_not]
    congr 1
    funext x
    rw [Bool.not_not])
  clear hr hrv h1 h5 hx l1 l5
  go_enter Tryz.func138, Tryz.ntmps138
  go_wp2_with fail
  refine HC.out.mono ?_
  rintro e w1 ⟨rfl, b1⟩
  have HB := hid b1
  clear b1
  generalize fixI (fun t => !knownB (plL X) v t) ex = r at *
  go_wp2
  go_ret
  exact ⟨ret_b HM.out, HB.out⟩
end Go.Proofs.YtaplbefdijcceaaGreatDoor

namespace Go.Proofs.YtaplbefdijcceaaGreatDoor
open Go.RowKit Go.Lib
theorem locF_le (l : List PLine) : ∀ v, (locF v l).length ≤ v.length + l.length := by
  induction l with
  | nil => intro v; exact Nat.le_refl _
  | cons x r ih =>
    intro v
    unfold locF
    rw [List.length_cons]
    split
    · have := ih (v ++ [x.name]); rw [List.length_append] at this; simp at this; omega
    · have := ih v; omega
theorem locZ_le (X : List LnL) (k : Nat) (h : k < X.length) (hz : X[k].args.length ≤ 1048576) (hl : X.length ≤ 1048576) : (locZ (plL X) (k : Int)).length ≤ 2097152 := by
  unfold locZ
  split
  · rw [argsZ_at X k h]
    have h1 := locF_le (((plL X).drop (k : Int).toNat).take ((beZ (plL X) (k : Int)).toNat - (k : Int).toNat)) X[k].args
    have h3 : (((plL X).drop (k : Int).toNat).take ((beZ (plL X) (k : Int)).toNat - (k : Int).toNat)).length ≤ X.length := by rw [List.length_take, List.length_drop, plL_length]; omega
    omega
  · exact Nat.zero_le _
def namesT (p : List PLine) (q : Nat) : Prop := ∀ i, ∀ h : i < (funs p).length, i < q → namesAt p (funs p)[i]
theorem namesT_all (p : List PLine) : namesT p (funs p).length ↔ ∀ k ∈ funs p, namesAt p k := by
  constructor
  · intro hu k hk
    obtain ⟨i, hi, rfl⟩ := List.mem_iff_getElem.1 hk
    exact hu i hi hi
  · intro hu i hi _
    exact hu _ (List.getElem_mem hi)
def lineK (p : List PLine) (v : List ByteArray) (S : List PLine) : Prop := ∀ x ∈ S, ∀ t ∈ x.expr, knownP p v t
theorem lineK_all (p : List PLine) (v : List ByteArray) (ex : List TokL) : ex.all (knownB p v) = true ↔ ∀ t ∈ ex, knownP p v t := by
  rw [List.all_eq_true]
  exact ⟨fun h t ht => (knownB_iff p v t).1 (h t ht), fun h t ht => (knownB_iff p v t).2 (h t ht)⟩
set_option maxRecDepth 100000 in
set_option maxHeartbeats 8000000 in
theorem i_names (a : Option Addr) (cap : Nat) (X : List LnL) (w : World) (hl : X.length ≤ 1048576) (hcap : X.length ≤ cap) (hr : ReadL 9 49 w a X) (hz : SzAl X) (hend : ∀ k ∈ funs (plL X), 0 ≤ beZ (plL X) (k : Int)) :
    Calls Tryz.prog 100 #[.slice a X.length cap] w (Ans (∀ k ∈ funs (plL X), namesAt (plL X) k) w) := by
  have hb0 := (Below.refl w.heap.size w).alloc (Nat.le_refl _) (.cells #[.slice a X.length cap] 24)
  have X0 := hid (heap_alloc_new w (.cells #[.slice a X.length cap] 24))
  have HB0 := hid hb0
  have hz0 : (w.alloc (.cells #[.slice a X.length cap] 24)).heap.size = w.heap.size + 1 := by simp
  have HR := hid hr
  have HZ := hid hz
  have HEND := hid hend
  have hpl := plL_length X
  have HF := hid (i_funLines a cap X _ hl (hr.below hb0))
  have HLO := hid (fun (W : World) (hb : Below w.heap.size w W) k => i_localsOf a cap X k W hl hcap (hr.below hb) (fun x hx => (hz x hx).2.1))
  have HE := hid (fun (W : World) (hb : Below w.heap.size w W) k => i_endOf a cap X k W (by omega) (hr.below hb))
  clear hr hz hend hb0
  go_enter Tryz.func100, Tryz.ntmps100
  go_wp2_with fail
  refine HF.out.mono ?_
  rintro e w1 ⟨v, rfl, hown, b1⟩
  obtain ⟨av, cv, rfl⟩ := owns3_shape hown
  have HRI := hid (readI_of hown)
  have HB1 : Hid (Below w.heap.size w w1) := hid (HB0.out.trans (b1.mono (by omega)))
  have X1 := hid ((b1.block _ (by omega)).trans X0.out)
  have z1 := b1.size
  rw [hz0] at z1
  have hfl := funI_length (plL X)
  obtain ⟨F, hF⟩ : ∃ F, funI (plL X) = F := ⟨_, rfl⟩
  have HFG := hid (fun i h => funI_get (plL X) i h)
  rw [hF] at HRI hfl HFG
  obtain ⟨n, hn⟩ : ∃ n, F.length = n := ⟨_, rfl⟩
  have HNN := hid hn
  rw [hF, hn]
  rw [hn] at hfl
  have HNF := hid hfl
  have hnn : n ≤ 1048576 := by
    have h2 : (funs (plL X)).length ≤ (plL X).length := by
      have hh : ∀ (l : List PLine) i, (funF i l).length ≤ l.length := by
        intro l
        induction l with
        | nil => intro i; exact Nat.le_refl _
        | cons x r ih =>
          intro i
          have := ih (i + 1)
          unfold funF
          split
          · rw [List.length_cons, List.length_cons]; omega
          · rw [List.length_cons]; omega
      exact hh _ 0
    omega
  have HT : Hid (namesT (plL X) n ↔ ∀ k ∈ funs (plL X), namesAt (plL X) k) := hid (by rw [hfl]; exact namesT_all _)
  clear b1 hown hF hn HF hfl X0
  go_wp2_with fail
  go_loopw [4, 5, 7, 11, 28] (fun _ _ _ i _ wr => ∃ q : Nat, q ≤ n ∧ i = .int .i64 (q : Int) ∧ Hid (namesT (plL X) q) ∧ Below w.heap.size w wr ∧ Below w1.heap.size w1 wr) (fun _ _ _ i _ _ => n - (RowKit.intOf i).toNat)
  case atStart => exact ⟨0, Nat.zero_le _, rfl, hid (fun i _ h => by omega), HB1.out, Below.refl _ _⟩
  case round =>
    obtain ⟨q, hq, rfl, HP, hbel, hbel1⟩ := hrel
    have HB := hid hbel
    have HC := hid hbel1
    have hB := hbel.size
    have hC := hbel1.size
    by_cases hlt : q < n
    · have hqF : q < F.length := by rw [HNN.out]; exact hlt
      obtain ⟨gv, rfl, hgv, c0⟩ := (HRI.out.below hbel1) q hqF
      obtain ⟨hq', hget⟩ := HFG.out q hqF
      rw [hget] at c0
      have hklt := funs_lt (plL X) q hq'
      have hE0 := HEND.out _ (List.getElem_mem hq')
      have HPN := hid (fun (h : namesAt (plL X) (funs (plL X))[q]) => show namesT (plL X) (q + 1) from fun i hi hiq => by
        by_cases hiq' : i = q
        · subst hiq'; exact h
        · exact HP.out i hi (by omega))
      have HPX := hid (fun (h : ∀ k ∈ funs (plL X), namesAt (plL X) k) => h _ (List.getElem_mem hq'))
      obtain ⟨k, hk⟩ : ∃ k, (funs (plL X))[q] = k := ⟨_, rfl⟩
      rw [hk] at c0 hklt HPN HPX hE0
      have hkX : k < X.length := by omega
      obtain ⟨g, ha, hg, _⟩ := HR.out k hkX
      subst ha
      have k0 : (0 : Int) ≤ (q : Int) := by omega
      have k1 : (q : Int) < (n : Int) := by omega
      have hkEl : (k : Int) < beZ (plL X) (k : Int) ∧ beZ (plL X) (k : Int) < ((plL X).length : Int) := by
        obtain ⟨_, h1, _, _, h2, h3⟩ := beZ_is (plL X) (k : Int) hE0
        exact ⟨by omega, h3⟩
      obtain ⟨hkE', hEl⟩ := hkEl
      obtain ⟨E, hE⟩ := Int.eq_ofNat_of_zero_le hE0
      rw [hE] at hEl hkE'
      have X1r := hid ((hbel1.block _ (by omega)).trans X1.out)
      have e1 : wr.cell? ⟨w.heap.size, 0, none⟩ = some (.slice (some ⟨g, 0, none⟩) X.length cap) := (blk X1r.out).1 0 _ rfl
      have hlen2 := locZ_le X k hkX (HZ.out _ (List.getElem_mem hkX)).2.1 hl
      have HLK := hid (HLO.out wr hbel k)
      have HEK : Hid (∀ (W : World), Below w.heap.size w W → Calls Tryz.prog 135 #[.slice (some ⟨g, 0, none⟩) X.length cap, .int .i64 (k : Int)] W fun e w' => e = .returned (.int .i64 (E : Int)) ∧ Below W.heap.size W w') := hid (fun W hb => by have := HE.out W hb k; rw [hE] at this; exact this)
      have HNA : Hid (namesAt (plL X) k ↔ ((locZ (plL X) (k : Int)).length ≤ 8 ∧ lineK (plL X) (locZ (plL X) (k : Int)) (segZ (plL X) k E))) := hid (by unfold namesAt lineK; rw [hE]; rfl)
      obtain ⟨L, hL⟩ : ∃ L, locZ (plL X) (k : Int) = L := ⟨_, rfl⟩
      rw [hL] at HNA HLK hlen2
      clear hk hE hL hget hqF hq' hbel hbel1 hklt hE0
      go_wp2_with fail
      refine HLK.out.mono ?_
      rintro e w2 ⟨vl, rfl, hownl, b2⟩
      obtain ⟨al, cl, rfl⟩ := owns_shape hownl
      have HB2 : Hid (Below w.heap.size w w2) := hid (HB.out.trans (b2.mono hB))
      have HC2 : Hid (Below w1.heap.size w1 w2) := hid (HC.out.trans (b2.mono hC))
      have z2 := b2.size
      have hba := (Below.refl w2.heap.size w2).alloc (Nat.le_refl _) (.cells #[.slice al L.length cl] 39)
      have HB3 : Hid (Below w.heap.size w (w2.alloc (.cells #[.slice al L.length cl] 39))) := hid (HB2.out.trans (hba.mono (by omega)))
      have HC3 : Hid (Below w1.heap.size w1 (w2.alloc (.cells #[.slice al L.length cl] 39))) := hid (HC2.out.trans (hba.mono (by omega)))
      have X3 := hid (heap_alloc_new w2 (.cells #[.slice al L.length cl] 39))
      have RS3 := hid (reads_of (hownl.alloc (.cells #[.slice al L.length cl] 39)))
      have tz3 : (w2.alloc (.cells #[.slice al L.length cl] 39)).heap.size = w2.heap.size + 1 := by simp
      obtain ⟨W3, hW3⟩ : ∃ W, w2.alloc (.cells #[.slice al L.length cl] 39) = W := ⟨_, rfl⟩
      rw [hW3] at HB3 HC3 X3 RS3 tz3
      have HW3 := hid hW3
      have X13 := hid ((HC3.out.block _ (by omega)).trans X1.out)
      clear b2 hownl hba HLK c0 e1 X1r hW3
      have e1 : W3.cell? ⟨w.heap.size, 0, none⟩ = some (.slice (some ⟨g, 0, none⟩) X.length cap) := (blk X13.out).1 0 _ rfl
      have e5 : W3.cell? ⟨w2.heap.size, 0, none⟩ = some (.slice al L.length cl) := (blk X3.out).1 0 _ rfl
      go_upto_region 5 with fail
      rw [HW3.out]
      by_cases h8 : 8 < L.length
      · have HV : Hid (¬ ∀ k ∈ funs (plL X), namesAt (plL X) k) := hid (fun h => by have := (HNA.out.1 (HPX.out h)).1; omega)
        have hd : decide (8 < (L.length : Int)) = true := decide_eq_true (by omega)
        go_wp2
        go_ret
        exact Ans.of false rfl (by simpa using HV.out) HB3.out
      · have hd : decide (8 < (L.length : Int)) = false := decide_eq_false (by omega)
        have HNL : Hid (namesAt (plL X) k ↔ lineK (plL X) L (segZ (plL X) k E)) := hid (by rw [HNA.out]; exact ⟨fun h => h.2, fun h => ⟨by omega, h⟩⟩)
        have m1 : w.heap.size < W3.heap.size := by omega
        have k5 : (E : Int) ≤ (cap : Int) := by omega
        have k6 : (k : Int) ≤ (E : Int) := by omega
        have eE : (E : Int) - (k : Int) = ((E - k : Nat) : Int) := by omega
        have HE1 := hid e1
        go_wp2_with fail
        go_region_held3 (fun w' => w'.cell? ⟨w.heap.size, 0, none⟩ = some (.slice (some ⟨g, 0, none⟩) X.length cap)) (first | go_keep | (exact (b4.cell (p := ⟨w.heap.size, 0, none⟩) m1).trans HE1.out)) (first
          | (go_at_call 135; refine (HEK.out _ ?_).mono ?_; exact HB3.out.drew; rintro e w4 ⟨rfl, b4⟩))
        all_goals
          have HC4 : Hid (Below W3.heap.size W3 w4) := hid (undrew b4)
          have z4 := HC4.out.size
          clear b4
          go_wp2_with fail
          go_loopw [7, 28] (fun _ i wx => ∃ d : Nat, d ≤ E - k ∧ i = .int .i64 (d : Int) ∧ Hid (lineK (plL X) L (segZ (plL X) (k + d) E) ↔ lineK (plL X) L (segZ (plL X) k E)) ∧ Below W3.heap.size W3 wx) (fun _ i _ => (E - k) - (RowKit.intOf i).toNat)
          case atStart => exact ⟨0, Nat.zero_le _, rfl, hid (by rw [Nat.add_zero]), HC4.out⟩
          case round =>
            rename World => wx
            obtain ⟨d, hdE, rfl, HQ, hbx⟩ := hrel
            have HBX := hid hbx
            have hBX := hbx.size
            have HWX : Hid (Below w.heap.size w wx) := hid (HB3.out.trans (hbx.mono (by omega)))
            by_cases hltd : d < E - k
            · have hqx : k + d < X.length := by omega
              have hqp : k + d < (plL X).length := by omega
              obtain ⟨g', hga, hg', ⟨c0, c1, c2, c3⟩, hm⟩ := (HR.out.below HWX.out) (k + d) hqx
              injection hga with hga
              injection hga with hga
              subst hga
              have hxz := HZ.out _ (List.getElem_mem hqx)
              have HST : Hid (((∀ t ∈ X[k + d].expr, knownP (plL X) L t) ∧ lineK (plL X) L (segZ (plL X) (k + (d + 1)) E)) ↔ lineK (plL X) L (segZ (plL X) k E)) := hid (by
                rw [← HQ.out, seg_next _ (k + d) E (by omega) hqp, pl_at X (k + d) hqx]
                unfold lineK
                constructor
                · rintro ⟨h1, h2⟩ x hx
                  rcases List.mem_cons.1 hx with rfl | hx
                  · exact h1
                  · exact h2 x hx
                · intro h
                  exact ⟨h _ (List.mem_cons_self ..), fun x hx => h x (List.mem_cons_of_mem _ hx)⟩)
              obtain ⟨xa, xb, xc, xd, ea, ee, _, rt, _, _⟩ := inMem_shape hm
              rw [ea] at c2
              rw [ee] at c3
              rw [show (k + d) * 4 = k * 4 + d * 4 from by omega] at c0 c1 c2 c3
              have hel : X[k + d].expr.length ≤ 1048576 := hxz.2.2.2.1
              have HLA := hid (lineK_all (plL X) L X[k + d].expr)
              have k3 : (0 : Int) ≤ (d : Int) := by omega
              have k4 : (d : Int) < ((E - k : Nat) : Int) := by omega
              generalize X[k + d].kind = kd at *
              generalize X[k + d].name = nm at *
              generalize X[k + d].args.length = na at *
              generalize X[k + d].expr = ex at *
              have hb5 := (Below.refl wx.heap.size wx).alloc (Nat.le_refl _) (.cells #[.int .i64 kd, .string nm, .slice xa na xc, .slice xb ex.length xd] 42)
              have HB5 : Hid (Below W3.heap.size W3 (wx.alloc (.cells #[.int .i64 kd, .string nm, .slice xa na xc, .slice xb ex.length xd] 42))) := hid (hbx.trans (hb5.mono hBX))
              have zr : (wx.alloc (.cells #[.int .i64 kd, .string nm, .slice xa na xc, .slice xb ex.length xd] 42)).heap.size = wx.heap.size + 1 := by simp
              have HCT := hid (x_containsTok (some ⟨g, 0, none⟩) cap X al cl L xb xd ex w.heap.size w2.heap.size _ hl (by omega) ((HR.out.below HWX.out).below hb5) (RS3.out.below HB5.out) ((HB5.out.cell (p := ⟨w.heap.size, 0, none⟩) m1).trans HE1.out) ((HB5.out.cell (p := ⟨w2.heap.size, 0, none⟩) (by show w2.heap.size < W3.heap.size; omega)).trans e5) (by omega) (by omega) (rt.below hb5) hel)
              obtain ⟨b, hb⟩ : ∃ b, ex.all (knownB (plL X) L) = b := ⟨_, rfl⟩
              rw [hb] at HCT HLA
              clear hm ea ee rt hxz hb5 hbx hb HQ
              cases b
              · have HV : Hid (¬ ∀ k ∈ funs (plL X), namesAt (plL X) k) := hid (fun h => by
                  have h1 := (HST.out.2 (HNL.out.1 (HPX.out h))).1
                  have h2 := HLA.out.2 h1
                  cases h2)
                clear HST HLA
                go_wp2_with fail
                refine HCT.out.mono ?_
                rintro e w6 ⟨rfl, b6⟩
                have HB6 : Hid (Below w.heap.size w w6) := hid (HB3.out.trans ((HB5.out.trans (b6.mono (by omega))).mono (by omega)))
                clear b6 c0 c1 c2 c3
                go_wp2
                go_ret
                exact Ans.of false rfl (by simpa using HV.out) HB6.out
              · have HN : Hid (lineK (plL X) L (segZ (plL X) (k + (d + 1)) E) ↔ lineK (plL X) L (segZ (plL X) k E)) := hid (by
                  rw [← HST.out]
                  exact ⟨fun h => ⟨HLA.out.1 rfl, h⟩, fun h => h.2⟩)
                clear HST HLA
                go_wp2_with fail
                refine HCT.out.mono ?_
                rintro e w6 ⟨rfl, b6⟩
                have HB6 : Hid (Below W3.heap.size W3 w6) := hid (HB5.out.trans (b6.mono (by omega)))
                clear b6 c0 c1 c2 c3
                go_wp2
                go_roundw
                case rel => exact ⟨d + 1, by omega, by go_num, HN, HB6.out⟩
                case measure => simp [RowKit.intOf]; omega
            · have hdd : d = E - k := by omega
              have HNX : Hid (namesT (plL X) (q + 1)) := hid (HPN.out (HNL.out.2 (HQ.out.1 (by
                rw [hdd, show k + (E - k) = E from by omega, seg_end]
                intro x hx
                cases hx))))
              have HBE : Hid (Below w1.heap.size w1 wx) := hid (HC3.out.trans (hbx.mono (by omega)))
              clear hbx HQ hdd
              go_wp2
              go_roundw
              case rel => exact ⟨q + 1, by omega, by go_num, HNX, HWX.out, HBE.out⟩
              case measure => simp [RowKit.intOf]; omega
    · have hqq : q = n := by omega
      have HV : Hid (∀ k ∈ funs (plL X), namesAt (plL X) k) := hid (HT.out.1 (hqq ▸ HP.out))
      subst hqq
      clear hbel hbel1 HP
      go_wp2
      go_ret
      exact Ans.of true rfl (by simpa using HV.out) HB.out
end Go.Proofs.YtaplbefdijcceaaGreatDoor

namespace Go.Proofs.YtaplbefdijcceaaGreatDoor
open Go.RowKit Go.Lib
set_option maxRecDepth 100000 in
set_option maxHeartbeats 4000000 in
theorem i_progOk (a : Option Addr) (cap : Nat) (X : List LnL) (w : World) (hl : X.length ≤ 1048576) (hcap : X.length ≤ cap) (hr : ReadL 9 49 w a X) (hz : SzAl X) (hsh : Shapes w) :
    Calls Tryz.prog 48 #[.slice a X.length cap] w (Ans (OkI (plL X)) w) := by
  have C1 := hid (i_linesFit a cap X w (by omega) hr hz hsh)
  have C2 := hid (fun (W : World) (hb : Below w.heap.size w W) => i_funFit a cap X W hl (hr.below hb))
  have C3 := hid (fun (W : World) (hb : Below w.heap.size w W) => i_funFollow a cap X W hl (hr.below hb))
  have C4 := hid (fun (W : World) (hb : Below w.heap.size w W) => i_nesting a cap X W hl (hr.below hb))
  have C5 := hid (fun (W : World) (hb : Below w.heap.size w W) => i_elses a cap X W hl (hr.below hb))
  have C6 := hid (fun (W : World) (hb : Below w.heap.size w W) (he : ∀ k ∈ funs (plL X), 0 ≤ beZ (plL X) (k : Int)) => i_names a cap X W hl hcap (hr.below hb) hz he)
  have HL := hid (linesB_iff (plL X))
  generalize linesB (plL X) = b1 at *
  clear hr hz hsh
  go_enter Tryz.func48, Tryz.ntmps48
  go_wp2_with fail
  refine C1.out.mono ?_
  rintro e w1 ⟨rfl, q1⟩
  have HB1 := hid q1
  have z1 := q1.size
  clear q1
  cases b1
  · have HV : Hid (¬ OkI (plL X)) := hid (fun h => by have := HL.out.2 h.1; cases this)
    go_wp2
    go_ret
    exact Ans.of false rfl (by simpa using HV.out) HB1.out
  have H1 := hid (HL.out.1 rfl)
  go_wp2_with fail
  refine (C2.out _ HB1.out).mono ?_
  rintro e w2 ⟨b, rfl, hp, q2⟩
  have HP := hid hp
  have HB2 : Hid (Below w.heap.size w w2) := hid (HB1.out.trans (q2.mono z1))
  have z2 := HB2.out.size
  clear q2 hp
  cases b
  · have HV : Hid (¬ OkI (plL X)) := hid (fun h => by have := HP.out.2 h.2.1; cases this)
    go_wp2
    go_ret
    exact Ans.of false rfl (by simpa using HV.out) HB2.out
  have H2 := hid (HP.out.1 rfl)
  clear HP
  go_wp2_with fail
  refine (C3.out _ HB2.out).mono ?_
  rintro e w3 ⟨b, rfl, hp, q3⟩
  have HP := hid hp
  have HB3 : Hid (Below w.heap.size w w3) := hid (HB2.out.trans (q3.mono z2))
  have z3 := HB3.out.size
  clear q3 hp
  cases b
  · have HV : Hid (¬ OkI (plL X)) := hid (fun h => by have := HP.out.2 h.2.2.1; cases this)
    go_wp2
    go_ret
    exact Ans.of false rfl (by simpa using HV.out) HB3.out
  have H3 := hid (HP.out.1 rfl)
  clear HP
  go_wp2_with fail
  refine (C4.out _ HB3.out).mono ?_
  rintro e w4 ⟨b, rfl, hp, q4⟩
  have HP := hid hp
  have HB4 : Hid (Below w.heap.size w w4) := hid (HB3.out.trans (q4.mono z3))
  have z4 := HB4.out.size
  clear q4 hp
  cases b
  · have HV : Hid (¬ OkI (plL X)) := hid (fun h => by have := HP.out.2 h.2.2.2.1; cases this)
    go_wp2
    go_ret
    exact Ans.of false rfl (by simpa using HV.out) HB4.out
  have H4 := hid (HP.out.1 rfl)
  clear HP
  go_wp2_with fail
  refine (C5.out _ HB4.out).mono ?_
  rintro e w5 ⟨b, rfl, hp, q5⟩
  have HP := hid hp
  have HB5 : Hid (Below w.heap.size w w5) := hid (HB4.out.trans (q5.mono z4))
  have z5 := HB5.out.size
  clear q5 hp
  cases b
  · have HV : Hid (¬ OkI (plL X)) := hid (fun h => by have := HP.out.2 h.2.2.2.2.1; cases this)
    go_wp2
    go_ret
    exact Ans.of false rfl (by simpa using HV.out) HB5.out
  have H5 := hid (HP.out.1 rfl)
  clear HP
  go_wp2_with fail
  refine (C6.out _ HB5.out (follow_ends _ _ _ H3.out)).mono ?_
  rintro e w6 ⟨b, rfl, hp, q6⟩
  have HP := hid hp
  have HB6 : Hid (Below w.heap.size w w6) := hid (HB5.out.trans (q6.mono z5))
  have z6 := HB6.out.size
  clear q6 hp
  cases b
  · have HV : Hid (¬ OkI (plL X)) := hid (fun h => by have := HP.out.2 h.2.2.2.2.2; cases this)
    go_wp2
    go_ret
    exact Ans.of false rfl (by simpa using HV.out) HB6.out
  have H6 := hid (HP.out.1 rfl)
  clear HP
  have HV : Hid (OkI (plL X)) := hid ⟨H1.out, H2.out, H3.out, H4.out, H5.out, H6.out⟩
  go_wp2
  go_ret
  exact Ans.of true rfl (by simpa using HV.out) HB6.out
end Go.Proofs.YtaplbefdijcceaaGreatDoor
