/- The program's namesFit, and ProgramOk. -/
import Derived.Test.YthmllcpldgbbcaaDoorPokD
import Derived.Deep.RegionHeld3
namespace Go.Proofs.YthmllcpldgbbcaaDoor
open Go.RowKit Go.Lib

theorem locF_le (l : List PLine) : ∀ v, (locF v l).length ≤ v.length + l.length := by
  induction l with
  | nil => intro v; exact Nat.le_refl _
  | cons x r ih =>
    intro v
    unfold locF
    rw [List.length_cons]
    split
    · have := ih (v ++ [x.name]); rw [List.length_append] at this; simp at this; omega
    · have := ih v; omega
theorem locZ_le (X : List LnL) (k : Nat) (h : k < X.length) (hz : X[k].args.length ≤ 1048576) (hl : X.length ≤ 1048576) : (locZ (plL X) (k : Int)).length ≤ 2097152 := by
  unfold locZ
  split
  · rw [argsZ_at X k h]
    have h1 := locF_le (((plL X).drop (k : Int).toNat).take ((beZ (plL X) (k : Int)).toNat - (k : Int).toNat)) X[k].args
    have h3 : (((plL X).drop (k : Int).toNat).take ((beZ (plL X) (k : Int)).toNat - (k : Int).toNat)).length ≤ X.length := by rw [List.length_take, List.length_drop, plL_length]; omega
    omega
  · exact Nat.zero_le _
/-- The first q functions' names are known. -/
def namesT (p : List PLine) (q : Nat) : Prop := ∀ i, ∀ h : i < (funs p).length, i < q → namesAt p (funs p)[i]
theorem namesT_all (p : List PLine) : namesT p (funs p).length ↔ ∀ k ∈ funs p, namesAt p k := by
  constructor
  · intro hu k hk
    obtain ⟨i, hi, rfl⟩ := List.mem_iff_getElem.1 hk
    exact hu i hi hi
  · intro hu i hi _
    exact hu _ (List.getElem_mem hi)
/-- The lines of a function are all right from line q on. -/
def lineK (p : List PLine) (v : List ByteArray) (S : List PLine) : Prop := ∀ x ∈ S, ∀ t ∈ x.expr, knownP p v t
theorem lineK_all (p : List PLine) (v : List ByteArray) (ex : List TokL) : ex.all (knownB p v) = true ↔ ∀ t ∈ ex, knownP p v t := by
  rw [List.all_eq_true]
  exact ⟨fun h t ht => (knownB_iff p v t).1 (h t ht), fun h t ht => (knownB_iff p v t).2 (h t ht)⟩

set_option maxRecDepth 100000 in
set_option maxHeartbeats 8000000 in
theorem i_names (a : Option Addr) (cap : Nat) (X : List LnL) (w : World) (hl : X.length ≤ 1048576) (hcap : X.length ≤ cap) (hr : ReadL 9 70 w a X) (hz : SzAl X) (hend : ∀ k ∈ funs (plL X), 0 ≤ beZ (plL X) (k : Int)) :
    Calls Tryd.prog 25 #[.slice a X.length cap] w (Ans (∀ k ∈ funs (plL X), namesAt (plL X) k) w) := by
  have hb0 := (Below.refl w.heap.size w).alloc (Nat.le_refl _) (.cells #[.slice a X.length cap] 24)
  have X0 := Lib.hid (heap_alloc_new w (.cells #[.slice a X.length cap] 24))
  have HB0 := Lib.hid hb0
  have hz0 : (w.alloc (.cells #[.slice a X.length cap] 24)).heap.size = w.heap.size + 1 := by simp
  have HR := Lib.hid hr
  have HZ := Lib.hid hz
  have HEND := Lib.hid hend
  have hpl := plL_length X
  have HF := Lib.hid (i_funLines a cap X _ hl (hr.below hb0))
  have HLO := Lib.hid (fun (W : World) (hb : Below w.heap.size w W) k => i_localsOf a cap X k W hl hcap (hr.below hb) (fun x hx => (hz x hx).2.1))
  have HE := Lib.hid (fun (W : World) (hb : Below w.heap.size w W) k => i_endOf a cap X k W (by omega) (hr.below hb))
  clear hr hz hend hb0
  go_enter Tryd.func25, Tryd.ntmps25
  go_wp2_with fail
  refine HF.out.mono ?_
  rintro e w1 ⟨v, rfl, hown, b1⟩
  obtain ⟨av, cv, rfl⟩ := owns3_shape hown
  have HRI := Lib.hid (readI_of hown)
  have HB1 : Hid (Below w.heap.size w w1) := Lib.hid (HB0.out.trans (b1.mono (by omega)))
  have X1 := Lib.hid ((b1.block _ (by omega)).trans X0.out)
  have z1 := b1.size
  rw [hz0] at z1
  have hfl := funI_length (plL X)
  obtain ⟨F, hF⟩ : ∃ F, funI (plL X) = F := ⟨_, rfl⟩
  have HFG := Lib.hid (fun i h => funI_get (plL X) i h)
  rw [hF] at HRI hfl HFG
  obtain ⟨n, hn⟩ : ∃ n, F.length = n := ⟨_, rfl⟩
  have HNN := Lib.hid hn
  rw [hF, hn]
  rw [hn] at hfl
  have HNF := Lib.hid hfl
  have hnn : n ≤ 1048576 := by
    have h2 : (funs (plL X)).length ≤ (plL X).length := by
      have hh : ∀ (l : List PLine) i, (funF i l).length ≤ l.length := by
        intro l
        induction l with
        | nil => intro i; exact Nat.le_refl _
        | cons x r ih =>
          intro i
          have := ih (i + 1)
          unfold funF
          split
          · rw [List.length_cons, List.length_cons]; omega
          · rw [List.length_cons]; omega
      exact hh _ 0
    omega
  have HT : Hid (namesT (plL X) n ↔ ∀ k ∈ funs (plL X), namesAt (plL X) k) := Lib.hid (by rw [hfl]; exact namesT_all _)
  clear b1 hown hF hn HF hfl X0
  go_wp2_with fail
  go_loopw [4, 5, 7, 11, 28] (fun _ _ _ i _ wr => ∃ q : Nat, q ≤ n ∧ i = .int .i64 (q : Int) ∧ Hid (namesT (plL X) q) ∧ Below w.heap.size w wr ∧ Below w1.heap.size w1 wr) (fun _ _ _ i _ _ => n - (RowKit.intOf i).toNat)
  case atStart => exact ⟨0, Nat.zero_le _, rfl, Lib.hid (fun i _ h => by omega), HB1.out, Below.refl _ _⟩
  case round =>
    obtain ⟨q, hq, rfl, HP, hbel, hbel1⟩ := hrel
    have HB := Lib.hid hbel
    have HC := Lib.hid hbel1
    have hB := hbel.size
    have hC := hbel1.size
    by_cases hlt : q < n
    · have hqF : q < F.length := by rw [HNN.out]; exact hlt
      obtain ⟨gv, rfl, hgv, c0⟩ := (HRI.out.below hbel1) q hqF
      obtain ⟨hq', hget⟩ := HFG.out q hqF
      rw [hget] at c0
      have hklt := funs_lt (plL X) q hq'
      have hE0 := HEND.out _ (List.getElem_mem hq')
      have HPN := Lib.hid (fun (h : namesAt (plL X) (funs (plL X))[q]) => show namesT (plL X) (q + 1) from fun i hi hiq => by
        by_cases hiq' : i = q
        · subst hiq'; exact h
        · exact HP.out i hi (by omega))
      have HPX := Lib.hid (fun (h : ∀ k ∈ funs (plL X), namesAt (plL X) k) => h _ (List.getElem_mem hq'))
      obtain ⟨k, hk⟩ : ∃ k, (funs (plL X))[q] = k := ⟨_, rfl⟩
      rw [hk] at c0 hklt HPN HPX hE0
      have hkX : k < X.length := by omega
      obtain ⟨g, ha, hg, _⟩ := HR.out k hkX
      subst ha
      have k0 : (0 : Int) ≤ (q : Int) := by omega
      have k1 : (q : Int) < (n : Int) := by omega
      have hkEl : (k : Int) < beZ (plL X) (k : Int) ∧ beZ (plL X) (k : Int) < ((plL X).length : Int) := by
        obtain ⟨_, h1, _, _, h2, h3⟩ := beZ_is (plL X) (k : Int) hE0
        exact ⟨by omega, h3⟩
      obtain ⟨hkE', hEl⟩ := hkEl
      obtain ⟨E, hE⟩ := Int.eq_ofNat_of_zero_le hE0
      rw [hE] at hEl hkE'
      have X1r := Lib.hid ((hbel1.block _ (by omega)).trans X1.out)
      have e1 : wr.cell? ⟨w.heap.size, 0, none⟩ = some (.slice (some ⟨g, 0, none⟩) X.length cap) := (blk X1r.out).1 0 _ rfl
      have hlen2 := locZ_le X k hkX (HZ.out _ (List.getElem_mem hkX)).2.1 hl
      have HLK := Lib.hid (HLO.out wr hbel k)
      have HEK : Hid (∀ (W : World), Below w.heap.size w W → Calls Tryd.prog 9 #[.slice (some ⟨g, 0, none⟩) X.length cap, .int .i64 (k : Int)] W fun e w' => e = .returned (.int .i64 (E : Int)) ∧ Below W.heap.size W w') := Lib.hid (fun W hb => by have := HE.out W hb k; rw [hE] at this; exact this)
      have HNA : Hid (namesAt (plL X) k ↔ ((locZ (plL X) (k : Int)).length ≤ 8 ∧ lineK (plL X) (locZ (plL X) (k : Int)) (segZ (plL X) k E))) := Lib.hid (by unfold namesAt lineK; rw [hE]; rfl)
      obtain ⟨L, hL⟩ : ∃ L, locZ (plL X) (k : Int) = L := ⟨_, rfl⟩
      rw [hL] at HNA HLK hlen2
      clear hk hE hL hget hqF hq' hbel hbel1 hklt hE0
      go_wp2_with fail
      refine HLK.out.mono ?_
      rintro e w2 ⟨vl, rfl, hownl, b2⟩
      obtain ⟨al, cl, rfl⟩ := owns_shape hownl
      have HB2 : Hid (Below w.heap.size w w2) := Lib.hid (HB.out.trans (b2.mono hB))
      have HC2 : Hid (Below w1.heap.size w1 w2) := Lib.hid (HC.out.trans (b2.mono hC))
      have z2 := b2.size
      have hba := (Below.refl w2.heap.size w2).alloc (Nat.le_refl _) (.cells #[.slice al L.length cl] 31)
      have HB3 : Hid (Below w.heap.size w (w2.alloc (.cells #[.slice al L.length cl] 31))) := Lib.hid (HB2.out.trans (hba.mono (by omega)))
      have HC3 : Hid (Below w1.heap.size w1 (w2.alloc (.cells #[.slice al L.length cl] 31))) := Lib.hid (HC2.out.trans (hba.mono (by omega)))
      have X3 := Lib.hid (heap_alloc_new w2 (.cells #[.slice al L.length cl] 31))
      have RS3 := Lib.hid (reads_of (hownl.alloc (.cells #[.slice al L.length cl] 31)))
      have tz3 : (w2.alloc (.cells #[.slice al L.length cl] 31)).heap.size = w2.heap.size + 1 := by simp
      obtain ⟨W3, hW3⟩ : ∃ W, w2.alloc (.cells #[.slice al L.length cl] 31) = W := ⟨_, rfl⟩
      rw [hW3] at HB3 HC3 X3 RS3 tz3
      have HW3 := Lib.hid hW3
      have X13 := Lib.hid ((HC3.out.block _ (by omega)).trans X1.out)
      clear b2 hownl hba HLK c0 e1 X1r hW3
      have e1 : W3.cell? ⟨w.heap.size, 0, none⟩ = some (.slice (some ⟨g, 0, none⟩) X.length cap) := (blk X13.out).1 0 _ rfl
      have e5 : W3.cell? ⟨w2.heap.size, 0, none⟩ = some (.slice al L.length cl) := (blk X3.out).1 0 _ rfl
      go_upto_region 5 with fail
      rw [HW3.out]
      by_cases h8 : 8 < L.length
      · have HV : Hid (¬ ∀ k ∈ funs (plL X), namesAt (plL X) k) := Lib.hid (fun h => by have := (HNA.out.1 (HPX.out h)).1; omega)
        have hd : decide (8 < (L.length : Int)) = true := decide_eq_true (by omega)
        go_wp2
        go_ret
        exact Ans.of false rfl (by simpa using HV.out) HB3.out
      · have hd : decide (8 < (L.length : Int)) = false := decide_eq_false (by omega)
        have HNL : Hid (namesAt (plL X) k ↔ lineK (plL X) L (segZ (plL X) k E)) := Lib.hid (by rw [HNA.out]; exact ⟨fun h => h.2, fun h => ⟨by omega, h⟩⟩)
        have m1 : w.heap.size < W3.heap.size := by omega
        have k5 : (E : Int) ≤ (cap : Int) := by omega
        have k6 : (k : Int) ≤ (E : Int) := by omega
        have eE : (E : Int) - (k : Int) = ((E - k : Nat) : Int) := by omega
        have HE1 := Lib.hid e1
        go_wp2_with fail
        go_region_held3 (fun w' => w'.cell? ⟨w.heap.size, 0, none⟩ = some (.slice (some ⟨g, 0, none⟩) X.length cap)) (first | go_keep | (exact (b4.cell (p := ⟨w.heap.size, 0, none⟩) m1).trans HE1.out)) (first
          | (go_at_call 9; refine (HEK.out _ ?_).mono ?_; exact HB3.out.drew; rintro e w4 ⟨rfl, b4⟩))
        all_goals
          have HC4 : Hid (Below W3.heap.size W3 w4) := Lib.hid (undrew b4)
          have z4 := HC4.out.size
          clear b4
          go_wp2_with fail
          go_loopw [7, 28] (fun _ i wx => ∃ d : Nat, d ≤ E - k ∧ i = .int .i64 (d : Int) ∧ Hid (lineK (plL X) L (segZ (plL X) (k + d) E) ↔ lineK (plL X) L (segZ (plL X) k E)) ∧ Below W3.heap.size W3 wx) (fun _ i _ => (E - k) - (RowKit.intOf i).toNat)
          case atStart => exact ⟨0, Nat.zero_le _, rfl, Lib.hid (by rw [Nat.add_zero]), HC4.out⟩
          case round =>
            rename World => wx
            obtain ⟨d, hdE, rfl, HQ, hbx⟩ := hrel
            have HBX := Lib.hid hbx
            have hBX := hbx.size
            have HWX : Hid (Below w.heap.size w wx) := Lib.hid (HB3.out.trans (hbx.mono (by omega)))
            by_cases hltd : d < E - k
            · have hqx : k + d < X.length := by omega
              have hqp : k + d < (plL X).length := by omega
              obtain ⟨g', hga, hg', ⟨c0, c1, c2, c3⟩, hm⟩ := (HR.out.below HWX.out) (k + d) hqx
              injection hga with hga
              injection hga with hga
              subst hga
              have hxz := HZ.out _ (List.getElem_mem hqx)
              have HST : Hid (((∀ t ∈ X[k + d].expr, knownP (plL X) L t) ∧ lineK (plL X) L (segZ (plL X) (k + (d + 1)) E)) ↔ lineK (plL X) L (segZ (plL X) k E)) := Lib.hid (by
                rw [← HQ.out, seg_next _ (k + d) E (by omega) hqp, pl_at X (k + d) hqx]
                unfold lineK
                constructor
                · rintro ⟨h1, h2⟩ x hx
                  rcases List.mem_cons.1 hx with rfl | hx
                  · exact h1
                  · exact h2 x hx
                · intro h
                  exact ⟨h _ (List.mem_cons_self ..), fun x hx => h x (List.mem_cons_of_mem _ hx)⟩)
              obtain ⟨xa, xb, xc, xd, ea, ee, _, rt, _, _⟩ := inMem_shape hm
              rw [ea] at c2
              rw [ee] at c3
              rw [show (k + d) * 4 = k * 4 + d * 4 from by omega] at c0 c1 c2 c3
              have hel : X[k + d].expr.length ≤ 1048576 := hxz.2.2.2.1
              have HLA := Lib.hid (lineK_all (plL X) L X[k + d].expr)
              have k3 : (0 : Int) ≤ (d : Int) := by omega
              have k4 : (d : Int) < ((E - k : Nat) : Int) := by omega
              generalize X[k + d].kind = kd at *
              generalize X[k + d].name = nm at *
              generalize X[k + d].args.length = na at *
              generalize X[k + d].expr = ex at *
              have hb5 := (Below.refl wx.heap.size wx).alloc (Nat.le_refl _) (.cells #[.int .i64 kd, .string nm, .slice xa na xc, .slice xb ex.length xd] 34)
              have HB5 : Hid (Below W3.heap.size W3 (wx.alloc (.cells #[.int .i64 kd, .string nm, .slice xa na xc, .slice xb ex.length xd] 34))) := Lib.hid (hbx.trans (hb5.mono hBX))
              have zr : (wx.alloc (.cells #[.int .i64 kd, .string nm, .slice xa na xc, .slice xb ex.length xd] 34)).heap.size = wx.heap.size + 1 := by simp
              have HCT := Lib.hid (x_containsTok (some ⟨g, 0, none⟩) cap X al cl L xb xd ex w.heap.size w2.heap.size _ hl (by omega) ((HR.out.below HWX.out).below hb5) (RS3.out.below HB5.out) ((HB5.out.cell (p := ⟨w.heap.size, 0, none⟩) m1).trans HE1.out) ((HB5.out.cell (p := ⟨w2.heap.size, 0, none⟩) (by show w2.heap.size < W3.heap.size; omega)).trans e5) (by omega) (by omega) (rt.below hb5) hel)
              obtain ⟨b, hb⟩ : ∃ b, ex.all (knownB (plL X) L) = b := ⟨_, rfl⟩
              rw [hb] at HCT HLA
              clear hm ea ee rt hxz hb5 hbx hb HQ
              cases b
              · have HV : Hid (¬ ∀ k ∈ funs (plL X), namesAt (plL X) k) := Lib.hid (fun h => by
                  have h1 := (HST.out.2 (HNL.out.1 (HPX.out h))).1
                  have h2 := HLA.out.2 h1
                  cases h2)
                clear HST HLA
                go_wp2_with fail
                refine HCT.out.mono ?_
                rintro e w6 ⟨rfl, b6⟩
                have HB6 : Hid (Below w.heap.size w w6) := Lib.hid (HB3.out.trans ((HB5.out.trans (b6.mono (by omega))).mono (by omega)))
                clear b6 c0 c1 c2 c3
                go_wp2
                go_ret
                exact Ans.of false rfl (by simpa using HV.out) HB6.out
              · have HN : Hid (lineK (plL X) L (segZ (plL X) (k + (d + 1)) E) ↔ lineK (plL X) L (segZ (plL X) k E)) := Lib.hid (by
                  rw [← HST.out]
                  exact ⟨fun h => ⟨HLA.out.1 rfl, h⟩, fun h => h.2⟩)
                clear HST HLA
                go_wp2_with fail
                refine HCT.out.mono ?_
                rintro e w6 ⟨rfl, b6⟩
                have HB6 : Hid (Below W3.heap.size W3 w6) := Lib.hid (HB5.out.trans (b6.mono (by omega)))
                clear b6 c0 c1 c2 c3
                go_wp2
                go_roundw
                case rel => exact ⟨d + 1, by omega, by go_num, HN, HB6.out⟩
                case measure => simp [RowKit.intOf]; omega
            · have hdd : d = E - k := by omega
              have HNX : Hid (namesT (plL X) (q + 1)) := Lib.hid (HPN.out (HNL.out.2 (HQ.out.1 (by
                rw [hdd, show k + (E - k) = E from by omega, seg_end]
                intro x hx
                cases hx))))
              have HBE : Hid (Below w1.heap.size w1 wx) := Lib.hid (HC3.out.trans (hbx.mono (by omega)))
              clear hbx HQ hdd
              go_wp2
              go_roundw
              case rel => exact ⟨q + 1, by omega, by go_num, HNX, HWX.out, HBE.out⟩
              case measure => simp [RowKit.intOf]; omega
    · have hqq : q = n := by omega
      have HV : Hid (∀ k ∈ funs (plL X), namesAt (plL X) k) := Lib.hid (HT.out.1 (hqq ▸ HP.out))
      subst hqq
      clear hbel hbel1 HP
      go_wp2
      go_ret
      exact Ans.of true rfl (by simpa using HV.out) HB.out
end Go.Proofs.YthmllcpldgbbcaaDoor
