/- The program's helpers that find where a function goes on. -/
import Derived.Test.YtcffmdmdojkggaaDoorPokI
import Derived.Test.YtcffmdmdojkggaaDoorElImpl
import Derived.Test.YtcffmdmdojkggaaDoorBeEnd
import Derived.Test.YtcffmdmdojkggaaDoorPlainR
namespace Go.Proofs.YtcffmdmdojkggaaDoor
open Go.RowKit Go.Lib

/-- Where a function goes on behind a line. -/
def nextZ (p : List PLine) (k : Nat) (v : Int) : Int :=
  if lkZ p (k : Int) = 3 then (if v = 0 then (if 0 ≤ elseZ p (k : Int) then elseZ p (k : Int) + 1 else beZ p (k : Int) + 1) else (k : Int) + 1)
  else if lkZ p (k : Int) = 5 then (if v = 0 then beZ p (k : Int) + 1 else (k : Int) + 1)
  else if lkZ p (k : Int) = 4 then beZ p (elseOpen p k : Int) + 1
  else if lkZ p (k : Int) = 7 then (if lkZ p (endOpen p k : Int) = 5 then (endOpen p k : Int) else (k : Int) + 1)
  else (k : Int) + 1
theorem first_range (k q : Nat) (P : Nat → Bool) (hq : q < k) (hP : P q = true) (hno : ∀ j, j < q → P j = false) : (List.range k).findIdx P = q := by
  have hlt : (List.range k).findIdx P < (List.range k).length := List.findIdx_lt_length_of_exists ⟨q, List.mem_range.2 hq, hP⟩
  have h1 := List.findIdx_getElem (w := hlt)
  rw [List.getElem_range] at h1
  rcases Nat.lt_trichotomy ((List.range k).findIdx P) q with h | h | h
  · rw [hno _ h] at h1; cases h1
  · exact h
  · have := List.not_of_lt_findIdx h
    rw [List.getElem_range, hP] at this
    cases this

set_option maxRecDepth 100000 in
set_option maxHeartbeats 4000000 in
theorem i_ifOfZ (a : Option Addr) (cap : Nat) (X : List LnL) (n : Nat) (w : World) (hl : X.length ≤ 1048576) (hn : n ≤ 1048576) (hr : ReadL 9 41 w a X) (hlt : elseOpen (plL X) n < n) (he : elseZ (plL X) (elseOpen (plL X) n : Int) = (n : Int)) :
    Calls Tryd.prog 55 #[.slice a X.length cap, .int .i64 (n : Int)] w fun e w' => e = .returned (.int .i64 (elseOpen (plL X) n : Int)) ∧ Below w.heap.size w w' := by
  have HE := Lib.hid (fun (W : World) (hb : Below w.heap.size w W) k => i_elseOf a cap X k W (by omega) (hr.below hb))
  have HFI : Hid (∀ q : Nat, q < elseOpen (plL X) n → elseZ (plL X) (q : Int) ≠ (n : Int)) := Lib.hid (fun q hq => by
    have h := List.not_of_lt_findIdx (p := fun (i : Nat) => decide (elseZ (plL X) (i : Int) = (n : Int))) (xs := List.range n) hq
    intro e
    rw [List.getElem_range] at h
    simp [e] at h)
  obtain ⟨o, ho⟩ : ∃ o, elseOpen (plL X) n = o := ⟨_, rfl⟩
  rw [ho] at hlt he HFI
  rw [ho]
  have HEO := Lib.hid he
  clear hr he ho
  go_enter Tryd.func55, Tryd.ntmps55
  go_wp2_with fail
  go_loopw [5, 7] (fun _ i wr => ∃ q : Nat, q ≤ o ∧ i = .int .i64 (q : Int) ∧ Below w.heap.size w wr) (fun _ i _ => n - (RowKit.intOf i).toNat)
  case atStart => exact ⟨0, Nat.zero_le _, rfl, Below.refl _ _⟩
  case round =>
    obtain ⟨q, hq, rfl, hbel⟩ := hrel
    have HB := Lib.hid hbel
    have hB := hbel.size
    have hqn : (q : Int) < (n : Int) := by omega
    have SE1 := Lib.hid (HE.out wr hbel (q : Int))
    by_cases hqe : q = o
    · subst hqe
      rw [HEO.out] at SE1
      clear hbel
      go_wp2_with fail
      refine SE1.out.mono ?_
      rintro e w1 ⟨rfl, b1⟩
      have HB1 : Hid (Below w.heap.size w w1) := Lib.hid (HB.out.trans (b1.mono hB))
      clear b1 SE1
      go_wp2
      go_ret
      exact ⟨rfl, HB1.out⟩
    · have HNE := Lib.hid (HFI.out q (by omega))
      obtain ⟨ev, hev⟩ : ∃ ev, elseZ (plL X) (q : Int) = ev := ⟨_, rfl⟩
      rw [hev] at SE1 HNE
      have hd : (ev == (n : Int)) = false := by simpa using HNE.out
      clear hev HNE hbel
      go_wp2_with fail
      refine SE1.out.mono ?_
      rintro e w1 ⟨rfl, b1⟩
      have HB1 : Hid (Below w.heap.size w w1) := Lib.hid (HB.out.trans (b1.mono hB))
      clear b1 SE1
      go_wp2
      go_roundw
      case rel => exact ⟨q + 1, by omega, by go_num, HB1.out⟩
      case measure => simp [RowKit.intOf]; omega

set_option maxRecDepth 100000 in
set_option maxHeartbeats 4000000 in
theorem i_blockOf (a : Option Addr) (cap : Nat) (X : List LnL) (n : Nat) (w : World) (hl : X.length ≤ 1048576) (hn : n ≤ 1048576) (hr : ReadL 9 41 w a X) :
    Calls Tryd.prog 81 #[.slice a X.length cap, .int .i64 (n : Int)] w fun e w' => e = .returned (.int .i64 (if endOpen (plL X) n < n then (endOpen (plL X) n : Int) else -1)) ∧ Below w.heap.size w w' := by
  have HE := Lib.hid (fun (W : World) (hb : Below w.heap.size w W) k => i_endOf a cap X k W (by omega) (hr.below hb))
  obtain ⟨R, hR⟩ : ∃ R, (if endOpen (plL X) n < n then (endOpen (plL X) n : Int) else -1) = R := ⟨_, rfl⟩
  rw [hR]
  have HRR := Lib.hid hR
  clear hr hR
  go_enter Tryd.func81, Tryd.ntmps81
  go_wp2_with fail
  go_loopw [5, 7] (fun _ i wr => ∃ q : Nat, q ≤ n ∧ i = .int .i64 (q : Int) ∧ Hid (∀ j : Nat, j < q → beZ (plL X) (j : Int) ≠ (n : Int)) ∧ Below w.heap.size w wr) (fun _ i _ => n - (RowKit.intOf i).toNat)
  case atStart => exact ⟨0, Nat.zero_le _, rfl, Lib.hid (fun j hj => by omega), Below.refl _ _⟩
  case round =>
    obtain ⟨q, hq, rfl, HP, hbel⟩ := hrel
    have HB := Lib.hid hbel
    have hB := hbel.size
    by_cases hlt : q < n
    · have hqn : (q : Int) < (n : Int) := by omega
      have SE1 := Lib.hid (HE.out wr hbel (q : Int))
      obtain ⟨ev, hev⟩ : ∃ ev, beZ (plL X) (q : Int) = ev := ⟨_, rfl⟩
      rw [hev] at SE1
      by_cases hqe : ev = (n : Int)
      · subst hqe
        have HV : Hid ((if endOpen (plL X) n < n then (endOpen (plL X) n : Int) else -1) = (q : Int)) := Lib.hid (by
          have h : endOpen (plL X) n = q := first_range n q (fun (i : Nat) => decide (beZ (plL X) (i : Int) = (n : Int))) hlt (decide_eq_true hev) (fun j hj => decide_eq_false (HP.out j hj))
          rw [h, if_pos hlt])
        clear hev hbel
        go_wp2_with fail
        refine SE1.out.mono ?_
        rintro e w1 ⟨rfl, b1⟩
        have HB1 : Hid (Below w.heap.size w w1) := Lib.hid (HB.out.trans (b1.mono hB))
        clear b1 SE1
        go_wp2
        go_ret
        exact ⟨by rw [← HRR.out, HV.out]; rfl, HB1.out⟩
      · have HPN : Hid (∀ j : Nat, j < q + 1 → beZ (plL X) (j : Int) ≠ (n : Int)) := Lib.hid (fun j hj => by
          by_cases hjq : j = q
          · rw [hjq, hev]; exact hqe
          · exact HP.out j (by omega))
        have hd : (ev == (n : Int)) = false := by simpa using hqe
        clear hev hqe hbel
        go_wp2_with fail
        refine SE1.out.mono ?_
        rintro e w1 ⟨rfl, b1⟩
        have HB1 : Hid (Below w.heap.size w w1) := Lib.hid (HB.out.trans (b1.mono hB))
        clear b1 SE1
        go_wp2
        go_roundw
        case rel => exact ⟨q + 1, by omega, by go_num, HPN, HB1.out⟩
        case measure => simp [RowKit.intOf]; omega
    · have hqq : q = n := by omega
      subst hqq
      have HV : Hid ((if endOpen (plL X) q < q then (endOpen (plL X) q : Int) else -1) = -1) := Lib.hid (by
        rw [if_neg]
        intro h
        exact HP.out _ h (end_open (by omega)).2)
      have hlt' : ¬ (q : Int) < (q : Int) := by omega
      clear hbel
      go_wp2
      go_ret
      exact ⟨by rw [← HRR.out, HV.out]; rfl, HB.out⟩

set_option maxHeartbeats 1000000 in
theorem i_elseOrEnd (a : Option Addr) (cap : Nat) (X : List LnL) (k : Int) (w : World) (hl : X.length ≤ 1048576) (hr : ReadL 9 41 w a X) :
    Calls Tryd.prog 80 #[.slice a X.length cap, .int .i64 k] w fun e w' => e = .returned (.int .i64 (if 0 ≤ elseZ (plL X) k then elseZ (plL X) k else beZ (plL X) k)) ∧ Below w.heap.size w w' := by
  have SL := Lib.hid (i_elseOf a cap X k w (by omega) hr)
  have SE := Lib.hid (fun (W : World) (hb : Below w.heap.size w W) => i_endOf a cap X k W (by omega) (hr.below hb))
  clear hr
  obtain ⟨ev, hev⟩ : ∃ ev, elseZ (plL X) k = ev := ⟨_, rfl⟩
  rw [hev] at SL
  rw [hev]
  obtain ⟨R, hR⟩ : ∃ R, (if 0 ≤ ev then ev else beZ (plL X) k) = R := ⟨_, rfl⟩
  rw [hR]
  have HRR := Lib.hid hR
  clear hev hR
  by_cases h : 0 ≤ ev
  · have HH := Lib.hid h
    go_enter Tryd.func80, Tryd.ntmps80
    go_wp2_with fail
    refine SL.out.mono ?_
    rintro e w1 ⟨rfl, b1⟩
    have HB1 := Lib.hid b1
    clear b1
    go_wp2
    go_ret
    exact ⟨by rw [← HRR.out, if_pos HH.out]; rfl, HB1.out⟩
  · have hd : decide (0 ≤ ev) = false := decide_eq_false h
    have HH := Lib.hid h
    clear h
    go_enter Tryd.func80, Tryd.ntmps80
    go_wp2_with fail
    refine SL.out.mono ?_
    rintro e w1 ⟨rfl, b1⟩
    have HB1 := Lib.hid b1
    have z1 := b1.size
    clear b1
    go_wp2_with fail
    refine (SE.out _ HB1.out).mono ?_
    rintro e w2 ⟨rfl, b2⟩
    have HB2 : Hid (Below w.heap.size w w2) := Lib.hid (HB1.out.trans (b2.mono z1))
    clear b2
    go_wp2
    go_ret
    exact ⟨by rw [← HRR.out, if_neg (by have h := HH.out; omega)]; rfl, HB2.out⟩

set_option maxRecDepth 100000 in
set_option maxHeartbeats 4000000 in
theorem i_next (a : Option Addr) (cap : Nat) (X : List LnL) (k : Nat) (v : Int) (w : World) (hl : X.length ≤ 60) (hk : k < X.length) (hr : ReadL 9 41 w a X) (he : X[k].kind = 4 → elseOpen (plL X) k < k ∧ elseZ (plL X) (elseOpen (plL X) k : Int) = (k : Int)) :
    Calls Tryd.prog 62 #[.slice a X.length cap, .int .i64 (k : Int), .int .i64 v] w fun e w' => e = .returned (.int .i64 (nextZ (plL X) k v)) ∧ Below w.heap.size w w' := by
  have HR := Lib.hid hr
  have hkp : k < (plL X).length := by rw [plL_length]; exact hk
  have hlk : lkZ (plL X) (k : Int) = X[k].kind := by rw [lkZ_at _ _ hkp, pl_kind X k hk]
  obtain ⟨g, rfl, hg, ⟨c0, _, _, _⟩, _⟩ := hr k hk
  have k0 : (0 : Int) ≤ (k : Int) := by omega
  have k1 : (k : Int) < (X.length : Int) := by omega
  have hb := beZ_lt (plL X) (k : Int)
  rw [plL_length] at hb
  obtain ⟨R, hR⟩ : ∃ R, nextZ (plL X) k v = R := ⟨_, rfl⟩
  rw [hR]
  have HRR := Lib.hid hR
  unfold nextZ at HRR
  rw [hlk] at HRR
  have HE := Lib.hid he
  have HLK := Lib.hid hlk
  generalize X[k].kind = kd at *
  clear hr hR hlk he
  by_cases h3 : kd = 3
  · subst h3
    by_cases hv : v = 0
    · subst hv
      rw [if_pos rfl, if_pos rfl] at HRR
      have SE := Lib.hid (i_elseOrEnd (some ⟨g, 0, none⟩) cap X (k : Int) w (by omega) HR.out)
      obtain ⟨q, hq⟩ : ∃ q, (if 0 ≤ elseZ (plL X) (k : Int) then elseZ (plL X) (k : Int) else beZ (plL X) (k : Int)) = q := ⟨_, rfl⟩
      have HQ : Hid (q + 1 = R) := Lib.hid (by rw [← hq, ← HRR.out]; split <;> rfl)
      have hq1 : -1 ≤ q ∧ q ≤ 60 := by
        rw [← hq]
        split
        · have := elseZ_lt (plL X) (k : Int) (by assumption); omega
        · omega
      rw [hq] at SE
      clear hq HRR hb
      go_enter Tryd.func62, Tryd.ntmps62
      go_wp2_with fail
      refine SE.out.mono ?_
      rintro e w1 ⟨rfl, b1⟩
      have HB1 := Lib.hid b1
      clear b1
      go_wp2
      go_ret
      exact ⟨by rw [← HQ.out]; rfl, HB1.out⟩
    · rw [if_pos rfl, if_neg hv] at HRR
      have hd : (v == 0) = false := by simpa using hv
      clear hv hb
      go_enter Tryd.func62, Tryd.ntmps62
      go_wp2
      go_ret
      exact ⟨by rw [← HRR.out]; rfl, Below.refl _ _⟩
  rw [if_neg h3] at HRR
  by_cases h5 : kd = 5
  · subst h5
    clear h3
    by_cases hv : v = 0
    · subst hv
      rw [if_pos rfl, if_pos rfl] at HRR
      have SE := Lib.hid (i_endOf (some ⟨g, 0, none⟩) cap X (k : Int) w (by omega) HR.out)
      obtain ⟨q, hq⟩ : ∃ q, beZ (plL X) (k : Int) = q := ⟨_, rfl⟩
      rw [hq] at SE HRR hb
      clear hq
      have hb1 : -1 ≤ q ∧ q ≤ 60 := by omega
      clear hb
      go_enter Tryd.func62, Tryd.ntmps62
      go_wp2_with fail
      refine SE.out.mono ?_
      rintro e w1 ⟨rfl, b1⟩
      have HB1 := Lib.hid b1
      clear b1
      go_wp2
      go_ret
      exact ⟨by rw [← HRR.out]; rfl, HB1.out⟩
    · rw [if_pos rfl, if_neg hv] at HRR
      have hd : (v == 0) = false := by simpa using hv
      clear hv hb
      go_enter Tryd.func62, Tryd.ntmps62
      go_wp2
      go_ret
      exact ⟨by rw [← HRR.out]; rfl, Below.refl _ _⟩
  rw [if_neg h5] at HRR
  by_cases h4 : kd = 4
  · subst h4
    rw [if_pos rfl] at HRR
    have hee := HE.out rfl
    have SI := Lib.hid (i_ifOfZ (some ⟨g, 0, none⟩) cap X k w (by omega) (by omega) HR.out hee.1 hee.2)
    have SE := Lib.hid (fun W (hb : Below w.heap.size w W) => i_endOf (some ⟨g, 0, none⟩) cap X (elseOpen (plL X) k : Int) W (by omega) (HR.out.below hb))
    have hb2 := beZ_lt (plL X) (elseOpen (plL X) k : Int)
    rw [plL_length] at hb2
    obtain ⟨q, hq⟩ : ∃ q, beZ (plL X) (elseOpen (plL X) k : Int) = q := ⟨_, rfl⟩
    rw [hq] at SE HRR hb2
    have hb1 : -1 ≤ q ∧ q ≤ 60 := by omega
    clear h3 h5 hee hq hb hb2 HE
    go_enter Tryd.func62, Tryd.ntmps62
    go_wp2_with fail
    refine SI.out.mono ?_
    rintro e w1 ⟨rfl, b1⟩
    have HB1 := Lib.hid b1
    have z1 := b1.size
    clear b1
    go_wp2_with fail
    refine (SE.out _ HB1.out).mono ?_
    rintro e w2 ⟨rfl, b2⟩
    have HB2 : Hid (Below w.heap.size w w2) := Lib.hid (HB1.out.trans (b2.mono z1))
    clear b2
    go_wp2
    go_ret
    exact ⟨by rw [← HRR.out]; rfl, HB2.out⟩
  rw [if_neg h4] at HRR
  by_cases h7 : kd = 7
  · subst h7
    rw [if_pos rfl] at HRR
    have SB := Lib.hid (i_blockOf (some ⟨g, 0, none⟩) cap X k w (by omega) (by omega) HR.out)
    obtain ⟨o, ho⟩ : ∃ o : Int, (if endOpen (plL X) k < k then (endOpen (plL X) k : Int) else -1) = o := ⟨_, rfl⟩
    rw [ho] at SB
    have SL := Lib.hid (fun W (hb : Below w.heap.size w W) b d h => i_lineIs (some ⟨g, 0, none⟩) cap X o b d [5] W (by omega) (HR.out.below hb) h (by decide) (by decide))
    by_cases hw : lkZ (plL X) o = 5
    · have hoe : (endOpen (plL X) k : Int) = o := by
        rw [← ho]
        rw [if_pos]
        rcases Nat.lt_or_ge (endOpen (plL X) k) k with h | h
        · exact h
        · exfalso
          rw [if_neg (by omega)] at ho
          rw [← ho] at hw
          unfold lkZ at hw
          rw [if_pos (by decide)] at hw
          exact absurd hw (by decide)
      have HV : Hid (o = R) := Lib.hid (by rw [hoe] at HRR; rw [← HRR.out, if_pos hw])
      have hm : memI [5] (lkZ (plL X) o) = true := by rw [hw]; decide
      rw [hm] at SL
      clear h3 h5 h4 hm hw hoe ho HE HRR hb
      go_enter Tryd.func62, Tryd.ntmps62
      go_wp2_with fail
      refine SB.out.mono ?_
      rintro e w1 ⟨rfl, b1⟩
      have HB1 := Lib.hid b1
      have z1 := b1.size
      have HB1c : Hid (Below w.heap.size w (w1.alloc (.cells #[.int .i64 5] 3))) := Lib.hid (HB1.out.alloc z1 _)
      have SL1 := Lib.hid (SL.out _ HB1c.out (some ⟨w1.heap.size, 0, none⟩) 1 (readI_of (by have h := World.ownsRow_lit (e := 3) (size := 1) (base := 0) w1 #[.int .i64 5] 1 (Nat.zero_le _) (by decide) rfl; exact h)))
      clear b1
      go_wp2_with fail
      refine SL1.out.mono ?_
      rintro e w2 ⟨rfl, b2⟩
      have HB2 : Hid (Below w.heap.size w w2) := Lib.hid (HB1c.out.trans (b2.mono (by have := HB1c.out.size; omega)))
      clear b2
      go_wp2
      go_ret
      exact ⟨by rw [← HV.out]; rfl, HB2.out⟩
    · have HV : Hid ((k : Int) + 1 = R) := Lib.hid (by
        have h := HRR.out
        rw [if_neg] at h
        · exact h
        · intro h9
          apply hw
          rw [← ho]
          split
          · exact h9
          · rename_i hge
            exfalso
            have : endOpen (plL X) k = k := by
              rcases Nat.lt_or_ge (endOpen (plL X) k) k with h' | h'
              · exact absurd h' hge
              · have := List.findIdx_le_length (p := fun (i : Nat) => decide (beZ (plL X) (i : Int) = (k : Int))) (xs := List.range k)
                rw [List.length_range] at this
                unfold endOpen at h' ⊢
                omega
            rw [this, HLK.out] at h9
            exact absurd h9 (by decide))
      have hm : memI [5] (lkZ (plL X) o) = false := by
        cases h : memI [5] (lkZ (plL X) o) with
        | false => rfl
        | true => exact absurd (by unfold memI at h; simpa using h) hw
      rw [hm] at SL
      clear h3 h5 h4 hm hw ho HE HRR hb
      go_enter Tryd.func62, Tryd.ntmps62
      go_wp2_with fail
      refine SB.out.mono ?_
      rintro e w1 ⟨rfl, b1⟩
      have HB1 := Lib.hid b1
      have z1 := b1.size
      have HB1c : Hid (Below w.heap.size w (w1.alloc (.cells #[.int .i64 5] 3))) := Lib.hid (HB1.out.alloc z1 _)
      have SL1 := Lib.hid (SL.out _ HB1c.out (some ⟨w1.heap.size, 0, none⟩) 1 (readI_of (by have h := World.ownsRow_lit (e := 3) (size := 1) (base := 0) w1 #[.int .i64 5] 1 (Nat.zero_le _) (by decide) rfl; exact h)))
      clear b1
      go_wp2_with fail
      refine SL1.out.mono ?_
      rintro e w2 ⟨rfl, b2⟩
      have HB2 : Hid (Below w.heap.size w w2) := Lib.hid (HB1c.out.trans (b2.mono (by have := HB1c.out.size; omega)))
      clear b2
      go_wp2
      go_ret
      exact ⟨by rw [← HV.out]; rfl, HB2.out⟩
  rw [if_neg h7] at HRR
  have d3 : (kd == 3) = false := by simpa using h3
  have d5 : (kd == 5) = false := by simpa using h5
  have d4 : (kd == 4) = false := by simpa using h4
  have d7 : (kd == 7) = false := by simpa using h7
  clear h3 h5 h4 h7 HE hb
  go_enter Tryd.func62, Tryd.ntmps62
  go_wp2
  go_ret
  exact ⟨by rw [← HRR.out]; rfl, Below.refl _ _⟩
end Go.Proofs.YtcffmdmdojkggaaDoor
