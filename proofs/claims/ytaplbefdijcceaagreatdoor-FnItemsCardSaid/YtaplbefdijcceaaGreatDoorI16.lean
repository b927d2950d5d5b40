/- The program's newBody, and placeAbove: the variables get words. -/
import Derived.Test.YtaplbefdijcceaaGreatDoorI15
import Derived.Test.YtaplbefdijcceaaGreatDoorI03
import Derived.Maps.OwnOps
import Derived.Carry
namespace Go.Proofs.YtaplbefdijcceaaGreatDoor
open Go.RowKit Go.Lib Go.Maps
theorem keyS : Keyed Tryz.prog 9 := string_keyed Tryz.underlying9
theorem keyI : Keyed Tryz.prog 3 := int_keyed Tryz.underlying3
theorem zerI (w : World) : (zeroValue 3).run Tryz.prog w = .ok (.int .i64 0) w := by kernel_rfl
theorem keyS_of {s : ByteArray} (h : s.size ≤ maxLen) : keyOf Tryz.prog 9 (.string s) = some (kN s) := Go.WideMaps.keyOf_string_mk Tryz.underlying9 h
theorem keyI_of {a : Int} (h : (Lit.int .i64 a).wf = true) : keyOf Tryz.prog 3 (.int .i64 a) = some (.int .i64 a) := keyOf_int_mk Tryz.underlying3 h
theorem kN_ne {n m : ByteArray} (h : n ≠ m) : kN n ≠ kN m := fun e => h (by
  unfold kN at e
  injection e with e
  exact ByteArray.ext (Array.ext' e))
theorem kN_lit (n : ByteArray) : WideAt.IsKeyLit (kN n) := by unfold kN WideAt.IsKeyLit; trivial
def nrow (cb : Nat) (ab : Option Nat) (f : Nat) (chv : Value) (mb : Nat) (free line : Nat) (pend : Bool) (fb : Nat) (jv : Value) : Array Value :=
  #[.pointer (some ⟨cb, 0, none⟩), ptrV ab, .int .i64 (f : Int), chv, .map (some mb), .int .i64 (free : Int), .int .i64 (line : Int), .bool pend, .map (some fb), jv]
theorem nrow_is (cb : Nat) (E : CmpE) (sc : ScL) (b : BdW) (jv : Value) (line : Nat) (pend : Bool) : brow cb E sc b jv line pend = nrow cb b.ab sc.f b.chv b.mb (freeN E sc) line pend b.fb jv := rfl
set_option maxRecDepth 100000 in
set_option maxHeartbeats 1000000 in
theorem i_newBody (cb k : Nat) (w : World) :
    Calls Tryz.prog 104 #[.pointer (some ⟨cb, 0, none⟩), .int .i64 (k : Int)] w fun e w' => ∃ bb mb fb, e = .returned (.pointer (some ⟨bb, 0, none⟩)) ∧ w'.heap[bb]? = some (.cells (nrow cb none k (.slice none 0 0) mb 0 0 false fb (.slice none 0 0)) 141 (0, 0)) ∧
      w'.ownsMap (H := Unit) Tryz.prog 9 (plainElem Tryz.prog 3) mb 0 (.map []) ∧ w'.ownsMap (H := Unit) Tryz.prog 3 (plainElem Tryz.prog 3) fb 0 (.map []) ∧ w.heap.size ≤ bb ∧ w.heap.size ≤ mb ∧ w.heap.size ≤ fb ∧ mb ≠ fb ∧ Below w.heap.size w w' := by
  have hmm := @run_makeMap Tryz.prog
  have hsz : ∀ X, (w.alloc X).heap.size = w.heap.size + 1 := fun X => by simp
  have M1 : Hid (∀ W : World, ((W.alloc (.map #[] 0)).ownsMap (H := Unit) Tryz.prog 9 (plainElem Tryz.prog 3) W.heap.size 0 (.map []))) := hid (fun W => World.ownsMap_made _ _ _ _)
  have M2 : Hid (∀ W : World, ((W.alloc (.map #[] 0)).ownsMap (H := Unit) Tryz.prog 3 (plainElem Tryz.prog 3) W.heap.size 0 (.map []))) := hid (fun W => World.ownsMap_made _ _ _ _)
  go_enter Tryz.func104, Tryz.ntmps104
  go_wp2
  go_ret
  have hs2 : ((w.alloc (.map #[] 0)).alloc (.map #[] 0)).heap.size = w.heap.size + 2 := by simp
  have hbel : Below w.heap.size w (((w.alloc (.map #[] 0)).alloc (.map #[] 0)).alloc (.cells (nrow cb none k (.slice none 0 0) w.heap.size 0 0 false (w.heap.size + 1) (.slice none 0 0)) 141)) := (((Below.refl _ _).alloc (Nat.le_refl _) _).alloc (by simp) _).alloc (by simp; omega) _
  refine ⟨_, w.heap.size, w.heap.size + 1, rfl, ?_, ((M1.out w).alloc _).alloc _, ?_, by omega, Nat.le_refl _, by omega, by omega, hbel⟩
  · have h := heap_alloc_new ((w.alloc (.map #[] 0)).alloc (.map #[] 0)) (.cells (nrow cb none k (.slice none 0 0) w.heap.size 0 0 false (w.heap.size + 1) (.slice none 0 0)) 141)
    rw [hs2] at h
    exact h
  · have h := (M2.out (w.alloc (.map #[] 0))).alloc (.cells (nrow cb none k (.slice none 0 0) w.heap.size 0 0 false (w.heap.size + 1) (.slice none 0 0)) 141)
    rw [hsz] at h
    exact h
def Given (D0 D : DataW Unit) (l : List ByteArray) (f0 : Nat) : Prop :=
  (∀ i, ∀ h : i < l.length, D.atKey (kN l[i]) zI = .lit (.int .i64 (-((f0 + i + 1 : Nat) : Int)))) ∧ ∀ m, m ∉ l → D.atKey (kN m) zI = D0.atKey (kN m) zI
theorem Given.put {D0 D : DataW Unit} {l : List ByteArray} {x : ByteArray} {f0 : Nat} (h : Given D0 D l f0) (hD : IsMap D) (hx : x ∉ l) : Given D0 (D.put (kN x) (.lit (.int .i64 (-((f0 + l.length + 1 : Nat) : Int))))) (l ++ [x]) f0 := by
  refine ⟨fun i hi => ?_, fun m hm => ?_⟩
  · by_cases hlt : i < l.length
    · rw [List.getElem_append_left hlt]
      have hne : l[i] ≠ x := fun e => hx (by rw [← e]; exact List.getElem_mem hlt)
      rw [atKey_put_other (kN_ne hne)]
      exact h.1 i hlt
    · have hi2 : i = l.length := by rw [List.length_append, List.length_singleton] at hi; omega
      subst hi2
      rw [List.getElem_append_right (Nat.le_refl _)]
      simp only [Nat.sub_self, List.getElem_cons_zero]
      exact atKey_put_same hD (kN_lit x) _ _
  · have hne : m ≠ x := fun e => hm (by rw [e]; simp)
    rw [atKey_put_other (kN_ne hne)]
    exact h.2 m (fun e => hm (List.mem_append_left _ e))
def Above (cb bb : Nat) (K : KcE) (t : CiS) (iv : Value) (ab : Option Nat) (f : Nat) (chv : Value) (mb : Nat) (D0 : DataW Unit) (n : Nat) (f0 : Nat) (l : List ByteArray) (fb : Nat) (jv : Value) (w : World) (e : Ending) (w' : World) : Prop :=
  e = .returned (.tuple #[]) ∧ ∃ D, Hid (w'.heap[cb]? = some (.cells (crow K { t with used := max t.used (f0 + l.length) } iv) 83 (0, 0))) ∧ Hid (w'.heap[bb]? = some (.cells (nrow cb ab f chv mb (f0 + l.length) 0 false fb jv) 141 (0, 0))) ∧
    Hid (w'.ownsMap (H := Unit) Tryz.prog 9 (plainElem Tryz.prog 3) mb (n + l.length) D) ∧ Hid (Given D0 D l f0) ∧ Hid (Step cb [psV bb, psV mb] [psV bb, psV mb] w w')
theorem step_bb {cb bb : Nat} {M : List Value} (w : World) (hm : psV bb ∈ M) (j : Nat) (u : Value) : Step cb M M w (w.setCell ⟨bb, j, none⟩ u) := cellB_step w hm j u
set_option maxRecDepth 100000 in
set_option maxHeartbeats 4000000 in
theorem i_placeAbove (cb bb : Nat) (K : KcE) (t : CiS) (iv : Value) (ab : Option Nat) (f : Nat) (chv : Value) (mb : Nat) (D0 : DataW Unit) (n f0 : Nat) (l : List ByteArray) (fb : Nat) (jv : Value) (a : Option Addr) (c : Nat) (w : World)
    (hc : w.heap[cb]? = some (.cells (crow K t iv) 83 (0, 0))) (hb : w.heap[bb]? = some (.cells (nrow cb ab f chv mb f0 0 false fb jv) 141 (0, 0))) (hM : w.ownsMap (H := Unit) Tryz.prog 9 (plainElem Tryz.prog 3) mb n D0)
    (hl : ReadO w a l) (hal : ∀ g o, a = some ⟨g, o, none⟩ → g ≠ bb ∧ g ≠ mb ∧ g ≠ cb) (hnd : l.Nodup) (hsz : ∀ x ∈ l, x.size ≤ maxLen) (hll : l.length ≤ 1000) (hf0 : f0 ≤ 100000) (hn : n ≤ 100000) (hu : t.used ≤ 1000000) :
    Calls Tryz.prog 105 #[.pointer (some ⟨bb, 0, none⟩), .slice a l.length c] w (Above cb bb K t iv ab f chv mb D0 n f0 l fb jv w) := by
  have HC := hid hc
  have HB := hid hb
  have HM := hid hM
  have HL := hid hl
  have HAL := hid hal
  have HND := hid hnd
  have HSZ := hid hsz
  have hcbb : cb ≠ bb := fun e => by
    rw [e, hb] at hc
    injection hc with h
    injection h with _ h
    exact absurd h (by decide)
  have hmc : mb ≠ cb := map_not hM hc
  have hmbb : mb ≠ bb := map_not hM hb
  have NE := hid (And.intro hcbb (And.intro hmc hmbb))
  clear hc hb hM hl hal hnd hsz hcbb hmc hmbb
  go_enter Tryz.func105, Tryz.ntmps105
  go_wp2_with fail
  go_loopw [8] (fun i wr => ∃ (q : Nat) (D : DataW Unit), q ≤ l.length ∧ i = .int .i64 (q : Int) ∧ Hid (wr.heap[cb]? = some (.cells (crow K t iv) 83 (0, 0))) ∧ Hid (wr.heap[bb]? = some (.cells (nrow cb ab f chv mb (f0 + q) 0 false fb jv) 141 (0, 0))) ∧
      Hid (wr.ownsMap (H := Unit) Tryz.prog 9 (plainElem Tryz.prog 3) mb (n + q) D) ∧ Hid (Given D0 D (l.take q) f0) ∧ Hid (Step cb [psV bb, psV mb] [psV bb, psV mb] w wr)) (fun i _ => l.length - (RowKit.intOf i).toNat)
  case atStart => exact ⟨0, D0, Nat.zero_le _, rfl, HC, HB, HM, hid ⟨fun i h => by simp at h, fun m _ => rfl⟩, hid (Step.refl _ _ _)⟩
  case round =>
    obtain ⟨q, D, hq, rfl, HC1, HB1, HM1, HG1, HS1⟩ := hrel
    have c0 : wr.cell? ⟨bb, 0, none⟩ = some (.pointer (some ⟨cb, 0, none⟩)) := (blk HB1.out).1 0 _ rfl
    have c5 : wr.cell? ⟨bb, 5, none⟩ = some (.int .i64 ((f0 + q : Nat) : Int)) := (blk HB1.out).1 5 _ rfl
    have g5 := (blk HB1.out).2.1 5
    by_cases hlt : q < l.length
    · have k1 : (q : Int) < (l.length : Int) := by omega
      have k0 : (0 : Int) ≤ (q : Int) := by omega
      obtain ⟨gn, on, rfl, hcell⟩ := HL.out q hlt
      obtain ⟨hg1, hg2, hg3⟩ := HAL.out gn on rfl
      have hcw : wr.cell? ⟨gn, on + q, none⟩ = some (.string l[q]) := by
        rw [World.cell?_of_block (a := ⟨gn, on + q, none⟩) (HS1.out.block gn ?_ hg3 ?_)]
        · exact hcell
        · have := World.block_lt_of_cell? w _ hcell; exact this
        · intro v hv e
          simp only [List.mem_cons, List.not_mem_nil, or_false] at hv
          rcases hv with rfl | rfl
          · exact hg1 (Option.some.inj e).symm
          · exact hg2 (Option.some.inj e).symm
      have hnot : Hid (l[q] ∉ l.take q) := hid (fun h => by
        obtain ⟨i, hi, e⟩ := List.mem_iff_getElem.1 h
        rw [List.getElem_take] at e
        have hi2 : i < q := by rw [List.length_take] at hi; omega
        exact List.pairwise_iff_getElem.1 HND.out i q (by omega) hlt hi2 e)
      have htk : Hid (l.take (q + 1) = l.take q ++ [l[q]]) := hid (List.take_succ_eq_append_getElem hlt)
      have hkz := HSZ.out _ (List.getElem_mem hlt)
      have htl : Hid ((l.take q).length = q) := hid (by rw [List.length_take]; omega)
      obtain ⟨nm, hnm⟩ : ∃ nm, l[q] = nm := ⟨_, rfl⟩
      rw [hnm] at hcw hnot htk hkz
      clear hnm hcell hg1 hg2 hg3
      obtain ⟨m, hm⟩ : ∃ m, f0 + q = m := ⟨_, rfl⟩
      have hmz : m ≤ 101000 := by omega
      have HMI : Hid ((m : Int) + 1 = ((f0 + (q + 1) : Nat) : Int)) := hid (by omega)
      have HMJ : Hid ((m : Int) + 1 = ((f0 + q + 1 : Nat) : Int)) := hid (by omega)
      rw [hm] at c5
      clear hm
      have u1 : IntKind.i64.wrap ((m : Int) + 1) = (m : Int) + 1 := IntWalk.i64_in _ (by omega)
      have u2 : IntKind.i64.wrap (-((m : Int) + 1)) = -((m : Int) + 1) := IntWalk.i64_in _ (by omega)
      obtain ⟨wy, hwy⟩ : ∃ W, wr.setCell ⟨bb, 5, none⟩ (.int .i64 ((m : Int) + 1)) = W := ⟨_, rfl⟩
      have HBY : Hid (wy.heap[bb]? = some (.cells (nrow cb ab f chv mb (f0 + (q + 1)) 0 false fb jv) 141 (0, 0))) := hid (by rw [← hwy, HMI.out]; exact heap_setCell_at HB1.out _)
      have HCY : Hid (wy.heap[cb]? = some (.cells (crow K t iv) 83 (0, 0))) := hid (by rw [← hwy]; exact (set_other NE.out.1).trans HC1.out)
      have HMY : Hid (wy.ownsMap (H := Unit) Tryz.prog 9 (plainElem Tryz.prog 3) mb (n + q) D) := hid (by rw [← hwy]; exact map_keep HM1.out (set_other NE.out.2.2))
      have HSY : Hid (Step cb [psV bb, psV mb] [psV bb, psV mb] w wy) := hid (by rw [← hwy]; exact HS1.out.trans (step_bb _ (by simp) 5 _))
      have HWY := hid hwy
      clear hwy
      obtain ⟨w1, hrun, hM2, hg2⟩ := HMY.out.drew.update keyS Tryz.underlying137 (by unfold maxLen; omega) (keyS_of hkz) (val := .int .i64 (-((m : Int) + 1))) (plainElem_int Tryz.underlying3 (WalkArith.wf_i64 (by omega)))
      have HM2 := hid hM2
      have HG2 := hid hg2
      clear hM2 hg2
      go_upto_region 4 with fail
      rw [HWY.out]
      have SY : Hid (wy.cell? ⟨bb, 4, none⟩ = some (.map (some mb)) ∧ wy.cell? ⟨bb, 5, none⟩ = some (.int .i64 ((m : Int) + 1))) := hid ⟨(blk HBY.out).1 4 _ rfl, by rw [HMI.out]; exact (blk HBY.out).1 5 _ rfl⟩
      refine E_start (S := (fun w' => w'.cell? ⟨bb, 4, none⟩ = some (.map (some mb)) ∧ w'.cell? ⟨bb, 5, none⟩ = some (.int .i64 ((m : Int) + 1)))) 10 (by kernel_rfl) (SY.out) (fun hHeld => ?_)
      refine E_take (i := 0) (oi := _) (v := ?_) rfl (by kernel_rfl) (fun _ _ _ h => h) ?_ (by assumption) ?_
      rotate_left 1
      · (refine Or.inl ⟨by rfl, ?_⟩; intro w hSw; (try dsimp only at hSw); (try simp only [eA1, eA2, eA3]); go_simp; (first | done | with_reducible rfl))
      try simp only [Act.put, eS1, eS2, eS3, eA1, eA2, eA3]
      refine E_take (i := 1) (oi := _) (v := ?_) rfl (by kernel_rfl) (fun _ _ _ h => h) ?_ (by assumption) ?_
      rotate_left 1
      · (refine Or.inl ⟨by rfl, ?_⟩; intro w hSw; (try dsimp only at hSw); (try simp only [eA1, eA2, eA3]); go_simp; (first | done | with_reducible rfl))
      try simp only [Act.put, eS1, eS2, eS3, eA1, eA2, eA3]
      refine E_take (i := 2) (oi := _) (v := ?_) rfl (by kernel_rfl) (fun _ _ _ h => h) ?_ (by assumption) ?_
      rotate_left 1
      · (refine Or.inl ⟨by rfl, ?_⟩; intro w hSw; (try dsimp only at hSw); (try simp only [eA1, eA2, eA3]); go_simp; (first | done | with_reducible rfl))
      try simp only [Act.put, eS1, eS2, eS3, eA1, eA2, eA3]
      refine E_take (i := 3) (oi := _) (v := ?_) rfl (by kernel_rfl) (fun _ _ _ h => h) ?_ (by assumption) ?_
      rotate_left 1
      · (refine Or.inl ⟨by rfl, ?_⟩; intro w hSw; (try dsimp only at hSw); (try simp only [eA1, eA2, eA3]); go_simp; (first | done | with_reducible rfl))
      try simp only [Act.put, eS1, eS2, eS3, eA1, eA2, eA3]
      refine E_take (i := 4) (oi := _) (v := ?_) rfl (by kernel_rfl) (fun _ _ _ h => h) ?_ (by assumption) ?_
      rotate_left 1
      · (refine Or.inl ⟨by rfl, ?_⟩; intro w hSw; (try dsimp only at hSw); (try simp only [eA1, eA2, eA3]); go_simp; (first | done | with_reducible rfl))
      try simp only [Act.put, eS1, eS2, eS3, eA1, eA2, eA3]
      refine E_take (i := 5) (oi := _) (v := ?_) rfl (by kernel_rfl) (fun _ _ _ h => h) ?_ (by assumption) ?_
      rotate_left 1
      · (refine Or.inl ⟨by rfl, ?_⟩; intro w hSw; (try dsimp only at hSw); (try simp only [eA1, eA2, eA3]); go_simp; (first | done | with_reducible rfl))
      try simp only [Act.put, eS1, eS2, eS3, eA1, eA2, eA3]
      refine E_take (i := 6) (oi := _) (v := ?_) rfl (by kernel_rfl) (fun _ _ _ h => h) ?_ (by assumption) ?_
      rotate_left 1
      · (refine Or.inl ⟨by rfl, ?_⟩; intro w hSw; (try dsimp only at hSw); (try simp only [eA1, eA2, eA3]); go_simp; (first | done | with_reducible rfl))
      try simp only [Act.put, eS1, eS2, eS3, eA1, eA2, eA3]
      refine E_take (i := 7) (oi := _) (v := ?_) rfl (by kernel_rfl) (fun _ _ _ h => h) ?_ (by assumption) ?_
      rotate_left 1
      · (refine Or.inl ⟨by rfl, ?_⟩; intro w hSw; (try dsimp only at hSw); (try simp only [eA1, eA2, eA3]); go_simp; (first | done | with_reducible rfl))
      try simp only [Act.put, eS1, eS2, eS3, eA1, eA2, eA3]
      refine E_take (i := 8) (oi := _) (v := ?_) rfl (by kernel_rfl) (fun _ _ _ h => h) ?_ (by assumption) ?_
      rotate_left 1
      · (refine Or.inl ⟨by rfl, ?_⟩; intro w hSw; (try dsimp only at hSw); (try simp only [eA1, eA2, eA3]); go_simp; (first | done | with_reducible rfl))
      try simp only [Act.put, eS1, eS2, eS3, eA1, eA2, eA3]
      refine E_take (i := 9) (oi := _) (v := ?_) rfl (by kernel_rfl) (fun _ _ _ h => h) ?_ (by assumption) ?_
      rotate_left 1
      · (refine Or.inl ⟨by rfl, ?_⟩; intro w hSw; (try dsimp only at hSw); (try simp only [eA1, eA2, eA3]); go_simp; (first | done | with_reducible rfl))
      try simp only [Act.put, eS1, eS2, eS3, eA1, eA2, eA3]
      refine E_last (o := _) (by kernel_rfl) rfl (by kernel_rfl) (fun K hK => ?_)
      try simp only [eA1, eA2, eA3]
      go_simp
      refine hK.out _ _ ?_
      clear hK K
      go_wp2
      go_roundw
      case rel =>
        refine ⟨q + 1, _, by omega, by go_num, hid ?_, hid ?_, HM2, hid ?_, hid ?_⟩
        · exact (HG2.out.block cb (by have := (blk HCY.out).2.2; exact this) (fun e => NE.out.2.1 (Option.some.inj e).symm)).trans HCY.out
        · exact (HG2.out.block bb (by have := (blk HBY.out).2.2; exact this) (fun e => NE.out.2.2 (Option.some.inj e).symm)).trans HBY.out
        · rw [htk.out]
          have h := HG1.out.put HM1.out.isMap hnot.out
          rw [htl.out, ← HMJ.out] at h
          exact h
        · exact HSY.out.trans ((Step.of_below (Below.refl _ _).drew).trans (Step.of_grown (u := psV mb) HG2.out (by simp)))
      case measure => simp [RowKit.intOf]; omega
    · have hqq : q = l.length := by omega
      subst hqq
      have k6 : wr.cell? ⟨cb, 6, none⟩ = some (.int .i64 (t.used : Int)) := (blk HC1.out).1 6 _ rfl
      have g6 := (blk HC1.out).2.1 6
      clear g5
      go_upto_region 6 with fail
      have SZ : Hid (wr.cell? ⟨bb, 0, none⟩ = some (.pointer (some ⟨cb, 0, none⟩)) ∧ wr.cell? ⟨bb, 5, none⟩ = some (.int .i64 ((f0 + l.length : Nat) : Int)) ∧ wr.cell? ⟨cb, 6, none⟩ = some (.int .i64 (t.used : Int))) := hid ⟨c0, c5, k6⟩
      refine E_start (S := (fun w' => w'.cell? ⟨bb, 0, none⟩ = some (.pointer (some ⟨cb, 0, none⟩)) ∧ w'.cell? ⟨bb, 5, none⟩ = some (.int .i64 ((f0 + l.length : Nat) : Int)) ∧ w'.cell? ⟨cb, 6, none⟩ = some (.int .i64 (t.used : Int)))) 18 (by kernel_rfl) (SZ.out) (fun hHeld => ?_)
      refine E_take (i := 0) (oi := _) (v := ?_) rfl (by kernel_rfl) (fun _ _ _ h => h) ?_ (by assumption) ?_
      rotate_left 1
      · (refine Or.inl ⟨by rfl, ?_⟩; intro w hSw; (try dsimp only at hSw); (try simp only [eA1, eA2, eA3]); go_simp; (first | done | with_reducible rfl))
      try simp only [Act.put, eS1, eS2, eS3, eA1, eA2, eA3]
      refine E_take (i := 1) (oi := _) (v := ?_) rfl (by kernel_rfl) (fun _ _ _ h => h) ?_ (by assumption) ?_
      rotate_left 1
      · (refine Or.inl ⟨by rfl, ?_⟩; intro w hSw; (try dsimp only at hSw); (try simp only [eA1, eA2, eA3]); go_simp; (first | done | with_reducible rfl))
      try simp only [Act.put, eS1, eS2, eS3, eA1, eA2, eA3]
      refine E_take (i := 2) (oi := _) (v := ?_) rfl (by kernel_rfl) (fun _ _ _ h => h) ?_ (by assumption) ?_
      rotate_left 1
      · (refine Or.inl ⟨by rfl, ?_⟩; intro w hSw; (try dsimp only at hSw); (try simp only [eA1, eA2, eA3]); go_simp; (first | done | with_reducible rfl))
      try simp only [Act.put, eS1, eS2, eS3, eA1, eA2, eA3]
      refine E_take (i := 3) (oi := _) (v := ?_) rfl (by kernel_rfl) (fun _ _ _ h => h) ?_ (by assumption) ?_
      rotate_left 1
      · (refine Or.inl ⟨by rfl, ?_⟩; intro w hSw; (try dsimp only at hSw); (try simp only [eA1, eA2, eA3]); go_simp; (first | done | with_reducible rfl))
      try simp only [Act.put, eS1, eS2, eS3, eA1, eA2, eA3]
      refine E_take (i := 4) (oi := _) (v := ?_) rfl (by kernel_rfl) (fun _ _ _ h => h) ?_ (by assumption) ?_
      rotate_left 1
      · (refine Or.inl ⟨by rfl, ?_⟩; intro w hSw; (try dsimp only at hSw); (try simp only [eA1, eA2, eA3]); go_simp; (first | done | with_reducible rfl))
      try simp only [Act.put, eS1, eS2, eS3, eA1, eA2, eA3]
      refine E_take (i := 5) (oi := _) (v := ?_) rfl (by kernel_rfl) (fun _ _ _ h => h) ?_ (by assumption) ?_
      rotate_left 1
      · (refine Or.inl ⟨by rfl, ?_⟩; intro w hSw; (try dsimp only at hSw); (try simp only [eA1, eA2, eA3]); go_simp; (first | done | with_reducible rfl))
      try simp only [Act.put, eS1, eS2, eS3, eA1, eA2, eA3]
      refine E_take (i := 6) (oi := _) (v := ?_) rfl (by kernel_rfl) (fun _ _ _ h => h) ?_ (by assumption) ?_
      rotate_left 1
      · (refine Or.inl ⟨by rfl, ?_⟩; intro w hSw; (try dsimp only at hSw); (try simp only [eA1, eA2, eA3]); go_simp; (first | done | with_reducible rfl))
      try simp only [Act.put, eS1, eS2, eS3, eA1, eA2, eA3]
      refine E_take (i := 7) (oi := _) (v := ?_) rfl (by kernel_rfl) (fun _ _ _ h => h) ?_ (by assumption) ?_
      rotate_left 1
      · (refine Or.inl ⟨by rfl, ?_⟩; intro w hSw; (try dsimp only at hSw); (try simp only [eA1, eA2, eA3]); go_simp; (first | done | with_reducible rfl))
      try simp only [Act.put, eS1, eS2, eS3, eA1, eA2, eA3]
      refine E_take (i := 8) (oi := _) (v := ?_) rfl (by kernel_rfl) (fun _ _ _ h => h) ?_ (by assumption) ?_
      rotate_left 1
      · (refine Or.inl ⟨by rfl, ?_⟩; intro w hSw; (try dsimp only at hSw); (try simp only [eA1, eA2, eA3]); go_simp; (first | done | with_reducible rfl))
      try simp only [Act.put, eS1, eS2, eS3, eA1, eA2, eA3]
      refine E_take (i := 9) (oi := _) (v := ?_) rfl (by kernel_rfl) (fun _ _ _ h => h) ?_ (by assumption) ?_
      rotate_left 1
      · (refine Or.inl ⟨by rfl, ?_⟩; intro w hSw; (try dsimp only at hSw); (try simp only [eA1, eA2, eA3]); go_simp; (first | done | with_reducible rfl))
      try simp only [Act.put, eS1, eS2, eS3, eA1, eA2, eA3]
      refine E_take (i := 10) (oi := _) (v := ?_) rfl (by kernel_rfl) (fun _ _ _ h => h) ?_ (by assumption) ?_
      rotate_left 1
      · (refine Or.inl ⟨by rfl, ?_⟩; intro w hSw; (try dsimp only at hSw); (try simp only [eA1, eA2, eA3]); go_simp; (first | done | with_reducible rfl))
      try simp only [Act.put, eS1, eS2, eS3, eA1, eA2, eA3]
      refine E_take (i := 11) (oi := _) (v := ?_) rfl (by kernel_rfl) (fun _ _ _ h => h) ?_ (by assumption) ?_
      rotate_left 1
      · (refine Or.inl ⟨by rfl, ?_⟩; intro w hSw; (try dsimp only at hSw); (try simp only [eA1, eA2, eA3]); go_simp; (first | done | with_reducible rfl))
      try simp only [Act.put, eS1, eS2, eS3, eA1, eA2, eA3]
      refine E_take (i := 12) (oi := _) (v := ?_) rfl (by kernel_rfl) (fun _ _ _ h => h) ?_ (by assumption) ?_
      rotate_left 1
      · (refine Or.inl ⟨by rfl, ?_⟩; intro w hSw; (try dsimp only at hSw); (try simp only [eA1, eA2, eA3]); go_simp; (first | done | with_reducible rfl))
      try simp only [Act.put, eS1, eS2, eS3, eA1, eA2, eA3]
      refine E_take (i := 13) (oi := _) (v := ?_) rfl (by kernel_rfl) (fun _ _ _ h => h) ?_ (by assumption) ?_
      rotate_left 1
      · (refine Or.inl ⟨by rfl, ?_⟩; intro w hSw; (try dsimp only at hSw); (try simp only [eA1, eA2, eA3]); go_simp; (first | done | with_reducible rfl))
      try simp only [Act.put, eS1, eS2, eS3, eA1, eA2, eA3]
      refine E_take (i := 14) (oi := _) (v := ?_) rfl (by kernel_rfl) (fun _ _ _ h => h) ?_ (by assumption) ?_
      rotate_left 1
      · (refine Or.inl ⟨by rfl, ?_⟩; intro w hSw; (try dsimp only at hSw); (try simp only [eA1, eA2, eA3]); go_simp; (first | done | with_reducible rfl))
      try simp only [Act.put, eS1, eS2, eS3, eA1, eA2, eA3]
      refine E_take (i := 15) (oi := _) (v := ?_) rfl (by kernel_rfl) (fun _ _ _ h => h) ?_ (by assumption) ?_
      rotate_left 1
      · (refine Or.inl ⟨by rfl, ?_⟩; intro w hSw; (try dsimp only at hSw); (try simp only [eA1, eA2, eA3]); go_simp; (first | done | with_reducible rfl))
      try simp only [Act.put, eS1, eS2, eS3, eA1, eA2, eA3]
      refine E_take (i := 16) (oi := _) (v := ?_) rfl (by kernel_rfl) (fun _ _ _ h => h) ?_ (by assumption) ?_
      rotate_left 1
      · (refine Or.inl ⟨by rfl, ?_⟩; intro w hSw; (try dsimp only at hSw); (try simp only [eA1, eA2, eA3]); go_simp; (first | done | with_reducible rfl))
      try simp only [Act.put, eS1, eS2, eS3, eA1, eA2, eA3]
      refine E_take (i := 17) (oi := _) (v := ?_) rfl (by kernel_rfl) (fun _ _ _ h => h) ?_ (by assumption) ?_
      rotate_left 1
      · (refine Or.inl ⟨by rfl, ?_⟩; intro w hSw; (try dsimp only at hSw); (try simp only [eA1, eA2, eA3]); go_simp; (first | done | with_reducible rfl))
      try simp only [Act.put, eS1, eS2, eS3, eA1, eA2, eA3]
      refine E_last (o := _) (by kernel_rfl) rfl (by kernel_rfl) (fun K hK => ?_)
      try simp only [eA1, eA2, eA3]
      go_simp
      all_goals
        refine hK.out _ _ ?_
        clear hK K
      all_goals go_wp2
      all_goals
        go_end0
        refine ⟨rfl, D, hid ?_, hid ?_, hid ?_, hid ?_, hid ?_⟩
        · refine (heap_setCell_at HC1.out _).trans ?_
          unfold crow
          simp
          omega
        · exact (set_other NE.out.1.symm).trans HB1.out
        · exact map_keep HM1.out (set_other NE.out.2.1)
        · have h := HG1.out
          rw [List.take_length] at h
          exact h
        · exact HS1.out.trans ((Step.of_below (Below.refl _ _).drew).trans (cellC_step _ 6 _))
end Go.Proofs.YtaplbefdijcceaaGreatDoor
