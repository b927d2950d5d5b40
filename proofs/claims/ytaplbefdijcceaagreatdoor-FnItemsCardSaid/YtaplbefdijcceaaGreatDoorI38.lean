/- What the model's function that draws an expression returns. -/
import Derived.Test.YtaplbefdijcceaaGreatDoorI37
import Derived.Test.YtaplbefdijcceaaGreatDoorI01
import Derived.Maps.AppendAt
import Derived.Deep.DeepCutAuto
import Derived.Deep.RegionHeld3
import Derived.Deep.AppendLies
namespace Go.Proofs.YtaplbefdijcceaaGreatDoor
open Go.RowKit Go.Lib
theorem infoX : (Tryz.prog.info? 49).map (fun i => (i.zero, i.size, i.bytes)) = some (some (.agg #[.int .i64 0, .int .i64 0, .string ⟨#[]⟩]), 3, 32) := by kernel_rfl
theorem toksV_one' (l : List TokL) : ∀ u ∈ toksV l, u.oneCell' = true := by
  intro u hu
  unfold toksV at hu
  obtain ⟨t, _, ht⟩ := List.mem_flatMap.1 hu
  simp only [tokV, List.mem_cons, List.not_mem_nil, or_false] at ht
  rcases ht with rfl | rfl | rfl <;> rfl
theorem own_form {B T n s : Nat} {w : World} {v : Value} {xs : List Value} (h : w.ownsRow B T s v n xs) (hn : 0 < n) : ∃ g cap, v = .slice (some ⟨g, 0, none⟩) n cap ∧ B ≤ g ∧ g < w.heap.size ∧ (∀ j u, xs[j]? = some u → w.cell? ((⟨g, 0, none⟩ : Addr).add j) = some u) := by
  rcases h.2 with ⟨rfl, h0⟩ | ⟨g, cap, cur, rfl, hB, hg, _⟩
  · omega
  · exact ⟨g, cap, rfl, hB, (h.lt g rfl).2, h.cells rfl⟩
set_option maxRecDepth 100000 in
set_option maxHeartbeats 4000000 in
theorem d_expr (c : Nat) (a : Option Addr) (len cap : Nat) (z : List Int) (lv ln : List ByteArray) (la : List Int) (va na aa : Option Addr) (vc nc ac : Nat)
    (hv : ∀ s ∈ lv, nameB s = true) (hn : ∀ s ∈ ln, nameB s = true) (ha : ∀ x ∈ la, 0 ≤ x ∧ x ≤ 2) (hlen : la.length = ln.length) (hlv : lv.length ≤ 100) (hln : ln.length ≤ 100) (n : Nat) :
    n ≤ 100 → ∀ (x : Int) (w : World), x = (n : Int) → CurAt 126 w c a len cap z → TextsAt c w va lv → TextsAt c w na ln → NumsAt c w aa la →
    Calls Tryz.prog 163 #[.pointer (some ⟨c, 0, none⟩), .int .i64 x, .slice va lv.length vc, .slice na ln.length nc, .slice aa la.length ac] w (DrawX 126 49 n c a len cap z w) := by
  induction n using Nat.strongRecOn with
  | ind n ih =>
  intro hn100 x w hx HC0 HV0 HN0 HA0
  have IH := hid ih
  have HX := hid hx
  have HC := hid HC0
  have HV := hid HV0
  have HN := hid HN0
  have HA := hid HA0
  have QV := hid hv
  have QN := hid hn
  have QA := hid ha
  have QL := hid hlen
  have hcw := HC0.lt
  have x0 : 0 ≤ x := by omega
  have x100 : x ≤ 100 := by omega
  clear ih hx HC0 HV0 HN0 HA0 hv hn ha hlen
  obtain ⟨i0, hi, hz0, hz1, hz2⟩ := info_parts infoX
  go_enter Tryz.func163, Tryz.ntmps163
  go_wp2_with fail
  refine (d_below c a len cap z 10 _ HC.out (by omega) (by omega)).mono ?_
  rintro e w1 ⟨k, k0, k1, rfl, H1, G1⟩
  have K1 := hid H1
  have L1 := hid G1
  have z1 := G1.size
  clear H1 G1
  go_upto_region 2 with fail
  obtain ⟨p, hp⟩ : ∃ p, (decide (2 < x) && decide (k < 5)) = p := ⟨_, rfl⟩
  have HP := hid hp
  clear hp
  go_cut [18] (fun s18 wx => s18 = .bool p ∧ wx = w1)
  case first =>
    by_cases n2 : 2 < x
    · by_cases k5 : k < 5
      · go_wp2_with fail
        go_meet
        exact ⟨by rw [← HP.out, decide_eq_true n2, decide_eq_true k5]; rfl, rfl⟩
      · go_wp2_with fail
        go_meet
        exact ⟨by rw [← HP.out, decide_eq_true n2, decide_eq_false (by omega : ¬ k < 5)]; rfl, rfl⟩
    · go_wp2_with fail
      go_meet
      exact ⟨by rw [← HP.out, decide_eq_false (by omega : ¬ 2 < x)]; rfl, rfl⟩
  case rest =>
    obtain ⟨rfl, rfl⟩ := hcut
    cases p
    case true =>
      have n2 : 2 < x := by have h := HP.out; rw [Bool.and_eq_true, decide_eq_true_eq] at h; exact h.1
      have n2' : 2 < n := by have := HX.out; omega
      clear HP
      go_wp2_with fail
      refine (d_below c a len cap z 5 _ K1.out (by omega) (by omega)).mono ?_
      rintro e w2 ⟨y, y0, y1, rfl, H2, G2⟩
      have K2 := hid H2
      have L2 := hid (L1.out.trans G2)
      have z2 : w.heap.size ≤ w2.heap.size := L2.out.size
      have OT := hid (opTok y (by omega) (by omega))
      have hx2 : Hid (x / 2 = ((n / 2 : Nat) : Int)) := hid (by rw [HX.out]; rfl)
      clear H2 G2
      have O2 := World.ownsRow_lit (base := w.heap.size) (e := 49) (size := 3) w2 #[.int .i64 (2 + y), .int .i64 0, .string ⟨#[]⟩] 1 z2 (by decide) rfl
      have HO2 := hid O2
      have L2' := hid (grown_alloc L2.out (.cells #[.int .i64 (2 + y), .int .i64 0, .string ⟨#[]⟩] 49))
      clear O2
      go_wp2_with fail
      refine (IH.out (n / 2) (by omega) (by omega) _ _ hx2.out (K2.out.alloc _) (HV.out.grown L2'.out) (HN.out.grown L2'.out) (HA.out.grown L2'.out)).mono ?_
      rintro e w3 ⟨v3, l3, rfl, O3, P3, B3, V3, H3, G3⟩
      obtain ⟨g3, c3, rfl, gb3, gl3, gc3⟩ := own_form O3 (part_pos _ P3)
      have hown := owns_far HO2.out G3 hcw
      have K3 := hid H3
      have L3 := hid (L2'.out.trans G3)
      have z3 : w.heap.size ≤ w3.heap.size := L3.out.size
      have hb3 : l3.length ≤ 200 := by unfold bdX at B3; omega
      have h63 : 1 + l3.length ≤ maxLen := by unfold maxLen; omega
      have hby : (1 + l3.length) * 32 ≤ 140737488355328 := by omega
      have HP3 := hid P3
      have HB3 := hid B3
      have HV3 := hid V3
      have GC3 := hid gc3
      clear H3 G3 O3 P3 B3 V3 gc3
      go_wp2_with (at_builtin; refine wpList_append_own _ rfl _ _ 40 rfl w.heap.size 49 i0 _ 3 32 Tryz.underlying40 hi hz0 hz1 hz2 rfl (by decide) _ _ _ rfl hown ⟨g3, 0, none⟩ l3.length c3 (toksV l3) rfl (toksV_length l3) GC3.out (toksV_one' l3) h63 hby z3 ?_)
      intro v4 w4 hown4 hg4 _
      have HO4 := hid (owns_toks (l := [⟨2 + y, 0, ⟨#[]⟩⟩] ++ l3) hown4 (by rw [toksV_append, toksV_one]; rfl))
      have L4 := hid (grown_new L3.out hg4 (fun g e => (hown.lt g e).1))
      have K4 := hid (K3.out.kept hg4 (fun g e => by have := (hown.lt g e).1; omega))
      have z4 : w.heap.size ≤ w4.heap.size := L4.out.size
      clear hown4 hg4 hown GC3 h63 hby
      have hl4 : ([(⟨2 + y, 0, ⟨#[]⟩⟩ : TokL)] ++ l3).length = 1 + l3.length := by simp; omega
      obtain ⟨q4, hq4⟩ : ∃ q, ([⟨2 + y, 0, ⟨#[]⟩⟩] ++ l3 : List TokL) = q := ⟨_, rfl⟩
      have HQ4 := hid hq4
      rw [hq4] at HO4 hl4
      have hl4' : q4.length ≤ 201 := by omega
      have HL4 := hid hl4
      clear hq4 hl4
      go_wp2_with fail
      refine (IH.out (n / 2) (by omega) (by omega) _ _ hx2.out K4.out (HV.out.grown L4.out) (HN.out.grown L4.out) (HA.out.grown L4.out)).mono ?_
      rintro e w5 ⟨v5, l5, rfl, O5, P5, B5, V5, H5, G5⟩
      obtain ⟨g5, c5, rfl, gb5, gl5, gc5⟩ := own_form O5 (part_pos _ P5)
      have hown := owns_far HO4.out G5 hcw
      have K5 := hid H5
      have L5 := hid (L4.out.trans G5)
      have z5 : w.heap.size ≤ w5.heap.size := L5.out.size
      have hb5 : l5.length ≤ 200 := by unfold bdX at B5; omega
      have h63 : q4.length + l5.length ≤ maxLen := by unfold maxLen; omega
      have hby : (q4.length + l5.length) * 32 ≤ 140737488355328 := by omega
      have HP5 := hid P5
      have HB5 := hid B5
      have HV5 := hid V5
      have GC5 := hid gc5
      clear H5 G5 O5 P5 B5 V5 gc5
      go_wp2_with (at_builtin; refine wpList_append_own _ rfl _ _ 40 rfl w.heap.size 49 i0 _ 3 32 Tryz.underlying40 hi hz0 hz1 hz2 rfl (by decide) _ _ _ rfl hown ⟨g5, 0, none⟩ l5.length c5 (toksV l5) rfl (toksV_length l5) GC5.out (toksV_one' l5) h63 hby z5 ?_)
      intro v6 w6 hown6 hg6 _
      have HO6 := hid (owns_toks (l := q4 ++ l5) hown6 (by rw [toksV_append]))
      have L6 := hid (grown_new L5.out hg6 (fun g e => (hown.lt g e).1))
      have K6 := hid (K5.out.kept hg6 (fun g e => by have := (hown.lt g e).1; omega))
      clear hown6 hg6 hown GC5
      go_wp2
      go_ret
      refine ⟨v6, q4 ++ l5, rfl, HO6.out, ?_, ?_, ?_, K6.out, L6.out⟩
      · rw [← HQ4.out]
        exact part_app (part_app (part_head _ 2 OT.out.1 OT.out.2) HP3.out) HP5.out
      · have h1 := bd_half n n2'
        have h2 := HB3.out
        have h3 := HB5.out
        have h4 := HL4.out
        rw [List.length_append]
        omega
      · intro t ht
        rw [← HQ4.out] at ht
        simp only [List.mem_append, List.mem_singleton] at ht
        rcases ht with (rfl | ht) | ht
        · exact OT.out.1
        · exact HV3.out t ht
        · exact HV5.out t ht
    case false =>
      clear HP
      go_upto_region 6 with fail
      obtain ⟨q, hq⟩ : ∃ q, (decide (0 < ln.length) && (decide (1 < x) && decide (k < 8))) = q := ⟨_, rfl⟩
      have HQ := hid hq
      clear hq
      go_cut [48] (fun s48 wx => s48 = .bool q ∧ wx = wc)
      case first =>
        by_cases l0 : 0 < ln.length
        · have hd : decide ((0 : Int) < (ln.length : Int)) = true := decide_eq_true (by omega)
          by_cases n1 : 1 < x
          · by_cases k8 : k < 8
            · go_wp2_with fail
              go_meet
              exact ⟨by rw [← HQ.out, decide_eq_true l0, decide_eq_true n1, decide_eq_true k8]; rfl, rfl⟩
            · go_wp2_with fail
              go_meet
              exact ⟨by rw [← HQ.out, decide_eq_true l0, decide_eq_true n1, decide_eq_false (by omega : ¬ k < 8)]; rfl, rfl⟩
          · go_wp2_with fail
            go_meet
            exact ⟨by rw [← HQ.out, decide_eq_true l0, decide_eq_false (by omega : ¬ 1 < x)]; rfl, rfl⟩
        · have HE : Hid (q = false) := hid (by rw [← HQ.out, decide_eq_false l0]; rfl)
          obtain rfl : ln = [] := List.length_eq_zero_iff.1 (by omega)
          go_wp2_with fail
          go_meet
          exact ⟨by rw [HE.out], rfl⟩
      case rest =>
        obtain ⟨rfl, rfl⟩ := hcut
        cases q
        case true =>
          have hh := HQ.out
          rw [Bool.and_eq_true, decide_eq_true_eq, Bool.and_eq_true, decide_eq_true_eq] at hh
          have l0 := hh.1
          have n1 := hh.2.1
          have n1' : 1 < n := by have := HX.out; omega
          clear hh HQ
          go_wp2_with fail
          refine (d_below c a len cap z (ln.length : Int) _ K1.out (by omega) (by omega)).mono ?_
          rintro e w2 ⟨y, y0, y1, rfl, H2, G2⟩
          have K2 := hid H2
          have L2 := hid (L1.out.trans G2)
          have z2 : w.heap.size ≤ w2.heap.size := L2.out.size
          clear H2 G2
          obtain ⟨f, rfl⟩ := Int.eq_ofNat_of_zero_le y0
          have hf : f < ln.length := by omega
          have hfa : f < la.length := by have := QL.out; omega
          obtain ⟨gn, on, rfl, gnl, gnc, hcn⟩ := HN.out f hf
          obtain ⟨ga, oa, rfl, gal, gac, hca⟩ := HA.out f hfa
          have d1 := L2.out.cell hcn (fun e => gnc (by injection e))
          have d2 := L2.out.cell hca (fun e => gac (by injection e))
          have hnm := QN.out _ (List.getElem_mem hf)
          have har := QA.out _ (List.getElem_mem hfa)
          obtain ⟨nm, hnme⟩ : ∃ nm, ln[f] = nm := ⟨_, rfl⟩
          obtain ⟨ar, hare⟩ : ∃ ar, la[f] = ar := ⟨_, rfl⟩
          rw [hnme] at hcn d1 hnm
          rw [hare] at hca d2 har
          have a0 := har.1
          have a2 := har.2
          have CT := hid (callTok ar nm a0 a2 hnm)
          have HCN := hid hcn
          have HCA := hid hca
          have k0' : (0 : Int) ≤ (f : Int) := by omega
          have k1' : (f : Int) < (ln.length : Int) := by omega
          have k2' : (f : Int) < (la.length : Int) := by omega
          have hx4 : Hid (x / 4 = ((n / 4 : Nat) : Int)) := hid (by rw [HX.out]; rfl)
          clear hcn hca hnme hare har hnm y0 y1
          go_wp2_with fail
          go_region_held3 (fun w' => w'.cell? ⟨gn, on + f, none⟩ = some (.string nm) ∧ w'.cell? ⟨ga, oa + f, none⟩ = some (.int .i64 ar)) (first | go_keep | (go_split_ands; refine ⟨?_, ?_⟩ <;> assumption)) (first | fail)
          all_goals
            have O2 := (World.ownsRow_lit (base := w.heap.size) (e := 49) (size := 3) w2 #[.int .i64 7, .int .i64 ar, .string nm] 1 z2 (by decide) rfl).drew
            have HO2 := hid O2
            have gd : (w2.alloc (.cells #[.int .i64 7, .int .i64 ar, .string nm] 49)).grownBy (w2.alloc (.cells #[.int .i64 7, .int .i64 ar, .string nm] 49)).drew none := ⟨rfl, rfl, rfl, Nat.le_refl _, fun _ _ _ => rfl⟩
            have L3 := hid (grown_new (grown_alloc L2.out (.cells #[.int .i64 7, .int .i64 ar, .string nm] 49)) gd (fun g e => by cases e))
            have K3 := hid ((K2.out.alloc (.cells #[.int .i64 7, .int .i64 ar, .string nm] 49)).kept gd (fun g e => by cases e))
            clear O2 gd
            go_wp2_with fail
            go_loopw [14, 15] (fun v i wr => ∃ (j : Nat) (l : List TokL), i = .int .i64 (j : Int) ∧ (j : Int) ≤ ar ∧ wr.ownsRow w.heap.size 49 3 v l.length (toksV l) ∧ PartC (ar.toNat - j) l ∧ l.length ≤ 1 + j * bdX (n / 4) ∧ (∀ t ∈ l, tokB t = true) ∧ CurAt 126 wr c a len cap z ∧ w.grownBy wr (some c))
              (fun _ i _ => ar.toNat - (intOf i).toNat)
            case atStart => exact ⟨0, [⟨7, ar, nm⟩], rfl, a0, by have := HO2.out; simpa [toksV, tokV] using this, part_head _ _ CT.out.1 CT.out.2, by simp, fun t ht => by rw [List.mem_singleton] at ht; rw [ht]; exact CT.out.1, K3.out, L3.out⟩
            case round =>
              obtain ⟨j, l, rfl, hj, hown, hpc, hbd, hval, hcur, hgr⟩ := hrel
              have HO := hid hown
              have HPC := hid hpc
              have HBD := hid hbd
              have HVAL := hid hval
              have KR := hid hcur
              have LR := hid hgr
              have zr : w.heap.size ≤ wr.heap.size := hgr.size
              have e2 := hgr.cell HCA.out (fun e => gac (by injection e))
              have hll : l.length ≤ 500 := by have h1 : bdX (n / 4) ≤ 100 := by unfold bdX; omega
                                              have h2 : j ≤ 2 := by omega
                                              have h3 : j * bdX (n / 4) ≤ 2 * 100 := Nat.mul_le_mul h2 h1
                                              omega
              clear hown hpc hbd hval hcur hgr
              by_cases hlt : (j : Int) < ar
              · have HN4 := HN.out.grown LR.out
                have HA4 := HA.out.grown LR.out
                have HV4 := HV.out.grown LR.out
                have HN4' := hid HN4
                have HA4' := hid HA4
                have HV4' := hid HV4
                clear HN4 HA4 HV4
                go_wp2_with fail
                refine (IH.out (n / 4) (by omega) (by omega) _ _ hx4.out KR.out HV4'.out HN4'.out HA4'.out).mono ?_
                rintro e w5 ⟨v5, l5, rfl, O5, P5, B5, V5, H5, G5⟩
                obtain ⟨g5, c5, rfl, gb5, gl5, gc5⟩ := own_form O5 (part_pos _ P5)
                have hown := owns_far HO.out G5 hcw
                have K5 := hid H5
                have L5 := hid (LR.out.trans G5)
                have z5 : w.heap.size ≤ w5.heap.size := L5.out.size
                have hb5 : l5.length ≤ 200 := by unfold bdX at B5; omega
                have h63 : l.length + l5.length ≤ maxLen := by unfold maxLen; omega
                have hby : (l.length + l5.length) * 32 ≤ 140737488355328 := by omega
                have HP5 := hid P5
                have HB5 := hid B5
                have HV5 := hid V5
                have GC5 := hid gc5
                clear H5 G5 O5 P5 B5 V5 gc5 e2
                go_wp2_with (at_builtin; refine wpList_append_own _ rfl _ _ 40 rfl w.heap.size 49 i0 _ 3 32 Tryz.underlying40 hi hz0 hz1 hz2 rfl (by decide) _ _ _ rfl hown ⟨g5, 0, none⟩ l5.length c5 (toksV l5) rfl (toksV_length l5) GC5.out (toksV_one' l5) h63 hby z5 ?_)
                intro v6 w6 hown6 hg6 _
                have HO6 := hid (owns_toks (l := l ++ l5) hown6 (by rw [toksV_append]))
                have L6 := hid (grown_new L5.out hg6 (fun g e => (hown.lt g e).1))
                have K6 := hid (K5.out.kept hg6 (fun g e => by have := (hown.lt g e).1; omega))
                clear hown6 hg6 hown GC5
                go_wp2
                go_roundw
                case rel =>
                  refine ⟨j + 1, l ++ l5, by go_num, by omega, HO6.out, ?_, ?_, ?_, K6.out, L6.out⟩
                  · have := HPC.out
                    rw [show ar.toNat - j = (ar.toNat - (j + 1)) + 1 from by omega] at this
                    exact part_app this HP5.out
                  · have h1 := HBD.out
                    have h2 := HB5.out
                    rw [List.length_append, Nat.add_mul, Nat.one_mul]
                    omega
                  · intro t ht
                    rcases List.mem_append.1 ht with ht | ht
                    · exact HVAL.out t ht
                    · exact HV5.out t ht
                case measure => simp [intOf]; omega
              · have hja : (j : Int) = ar := by omega
                have HJ := hid hja
                clear hja
                go_wp2
                go_ret
                refine ⟨_, l, rfl, HO.out, ?_, ?_, HVAL.out, KR.out, LR.out⟩
                · have := HPC.out
                  rw [show ar.toNat - j = 0 from by have := HJ.out; omega] at this
                  exact this
                · have h1 := HBD.out
                  have h2 := bd_quarter n n1'
                  have h3 : j * bdX (n / 4) ≤ 2 * bdX (n / 4) := Nat.mul_le_mul_right _ (by have := HJ.out; omega)
                  omega
        case false =>
          clear HQ
          go_upto_region 14 with fail
          go_cut [92] (fun s92 wx => ∃ b : Bool, s92 = .bool b ∧ (b = true → 0 < lv.length) ∧ CurAt 126 wx c a len cap z ∧ w.grownBy wx (some c))
          case first =>
            by_cases l0 : 0 < lv.length
            · have hd : decide ((0 : Int) < (lv.length : Int)) = true := decide_eq_true (by omega)
              go_wp2_with fail
              refine (d_once c a len cap z 2 _ K1.out (by omega) (by omega)).mono ?_
              rintro e w2 ⟨t, rfl, H2, G2⟩
              have K2 := hid H2
              have L2 := hid (L1.out.trans G2)
              clear H2 G2
              go_wp2_with fail
              go_meet
              exact ⟨t, rfl, fun _ => l0, K2.out, L2.out⟩
            · obtain rfl : lv = [] := List.length_eq_zero_iff.1 (by omega)
              go_wp2_with fail
              go_meet
              exact ⟨false, rfl, (fun h => by cases h), K1.out, L1.out⟩
          case rest =>
            obtain ⟨b, rfl, hb0, hcur, hgr⟩ := hcut
            have KB := hid hcur
            have LB := hid hgr
            have zb : w.heap.size ≤ wc.heap.size := hgr.size
            clear hcur hgr
            cases b
            case true =>
              have l0 := hb0 rfl
              clear hb0
              go_wp2_with fail
              refine (d_below c a len cap z (lv.length : Int) _ KB.out (by omega) (by omega)).mono ?_
              rintro e w2 ⟨y, y0, y1, rfl, H2, G2⟩
              have K2 := hid H2
              have L2 := hid (LB.out.trans G2)
              have z2 : w.heap.size ≤ w2.heap.size := L2.out.size
              clear H2 G2
              obtain ⟨f, rfl⟩ := Int.eq_ofNat_of_zero_le y0
              have hf : f < lv.length := by omega
              obtain ⟨gn, on, rfl, gnl, gnc, hcn⟩ := HV.out f hf
              have d1 := L2.out.cell hcn (fun e => gnc (by injection e))
              have hnm := QV.out _ (List.getElem_mem hf)
              obtain ⟨nm, hnme⟩ : ∃ nm, lv[f] = nm := ⟨_, rfl⟩
              rw [hnme] at hcn d1 hnm
              have VT := hid (varTok nm hnm)
              have k0' : (0 : Int) ≤ (f : Int) := by omega
              have k1' : (f : Int) < (lv.length : Int) := by omega
              have HO2 := hid (World.ownsRow_lit (base := w.heap.size) (e := 49) (size := 3) w2 #[.int .i64 1, .int .i64 0, .string nm] 1 z2 (by decide) rfl)
              clear hcn hnme hnm y0 y1
              go_wp2
              go_ret
              refine ⟨_, [⟨1, 0, nm⟩], rfl, by have := HO2.out; simpa [toksV, tokV] using this, part_head _ 0 VT.out.1 VT.out.2, bd_pos n, fun t ht => by rw [List.mem_singleton] at ht; rw [ht]; exact VT.out.1, K2.out.alloc _, grown_alloc L2.out _⟩
            case false =>
              clear hb0
              go_wp2_with fail
              refine (d_pickint c a len cap z wc.heap.size 6 [0, 1, 2, 3, 10, 999] 0 999 _ (KB.out.alloc _) rfl (by omega) (by omega) (heap_alloc_new wc _) (by have := KB.out.lt; omega) (by decide)).mono ?_
              rintro e w2 ⟨y, y0, y1, rfl, H2, G2⟩
              have K2 := hid H2
              have L2 := hid ((grown_alloc LB.out _).trans G2)
              have z2 : w.heap.size ≤ w2.heap.size := L2.out.size
              clear H2 G2
              have NT := hid (numTok y y0 y1)
              have HO2 := hid (World.ownsRow_lit (base := w.heap.size) (e := 49) (size := 3) w2 #[.int .i64 0, .int .i64 y, .string ⟨#[]⟩] 1 z2 (by decide) rfl)
              go_wp2
              go_ret
              refine ⟨_, [⟨0, y, ⟨#[]⟩⟩], rfl, by have := HO2.out; simpa [toksV, tokV] using this, part_head _ 0 NT.out.1 NT.out.2, bd_pos n, fun t ht => by rw [List.mem_singleton] at ht; rw [ht]; exact NT.out.1, K2.out.alloc _, grown_alloc L2.out _⟩
end Go.Proofs.YtaplbefdijcceaaGreatDoor
