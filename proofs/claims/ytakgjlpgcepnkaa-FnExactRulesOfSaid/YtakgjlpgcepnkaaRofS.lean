/- RulesOf, the model's. -/
import Derived.Test.YtakgjlpgcepnkaaRows
import Derived.Test.YtakgjlpgcepnkaaRofPlain
import Derived.Test.YtakgjlpgcepnkaaRuTo
import Derived.Test.YtakgjlpgcepnkaaPlaRow
import Derived.Test.YtakgjlpgcepnkaaHeldEnd
import Derived.Test.YtakgjlpgcepnkaaOpSpec
import Derived.Deep.RegionHeld3
import Derived.Deep.Cut
import Derived.Deep.DeepCutAuto
import Derived.Deep.QuietTactic
import Derived.BigQuiet
namespace Go.Proofs.Ytakgjlpgcepnkaa
open Go.RowKit Go.Lib

theorem below_appT {B e n s : Nat} {w0 wr w1 : World} {X : Obj} {v : Value} {xs : List Value} (hown : wr.ownsRow B e s v n xs) (hbel : Below B w0 wr) (hB : B ≤ wr.heap.size)
    (hg : (wr.alloc X).grownBy w1 v.ownBlock) : Below B w0 w1 :=
  (hbel.alloc hB X).grown hg (by simp; omega) (fun k hk => (hown.lt k hk).1)

theorem ret_bRs {p q : Bool} (h : p = q) : Ending.returned (.bool p) = .returned (.bool q) := by rw [h]
theorem s_inRf (x a b : Int) (w : World) : Calls Try.prog 32 #[.int .i64 x, .int .i64 a, .int .i64 b] w fun e w' => e = .returned (.bool (decide (a ≤ x) && decide (x ≤ b))) ∧ w = w' := by
  by_cases h1 : a ≤ x <;> by_cases h2 : x ≤ b
  all_goals
    go_enter Try.func32, Try.ntmps32
    go_wp2
    go_ret
    exact ⟨ret_bRs (by simp [h1, h2]), rfl⟩
theorem nearB_all (l : List PPl) (n : Nat) (h : l.length ≤ n) (h0 : nearB (l.take n) = true) : nearB l = true := by rwa [List.take_of_length_le h] at h0
set_option maxRecDepth 100000 in
set_option maxHeartbeats 4000000 in
theorem s_near (a : Option Addr) (cap n : Nat) (X : List VPl) (w : World) (hr : RowP w (.slice a n cap) X) (hn : X.length = n) (hl : n ≤ 1048576) :
    Calls Try.prog 45 #[.slice a n cap] w fun e w' => e = .returned (.bool (nearB (X.map (·.pp)))) ∧ Below w.heap.size w w' := by
  have HR := Lib.hid hr
  have HN := Lib.hid hn
  obtain ⟨ps, hps⟩ : ∃ ps, X.map (·.pp) = ps := ⟨_, rfl⟩
  have HPS := Lib.hid hps
  have HPL : Hid (ps.length = n) := Lib.hid (by rw [← hps]; simpa using hn)
  have BAD := Lib.hid (nearB_bad ps)
  have NXT := Lib.hid (nearB_next ps)
  rw [hps]
  clear hr hn hps
  go_enter Try.func45, Try.ntmps45
  go_wp2_with fail
  go_loopw [3] (fun x wr => ∃ (k : Nat), k ≤ n ∧ x = .int .i64 (k : Int) ∧ Hid (nearB (ps.take k) = true) ∧ Below w.heap.size w wr) (fun x _ => n - (RowKit.intOf x).toNat)
  case atStart => exact ⟨0, Nat.zero_le _, rfl, Lib.hid (by rw [List.take_zero]; rfl), Below.refl _ _⟩
  case round =>
    obtain ⟨k, hk, rfl, HNB, hbel⟩ := hrel
    have HB := Lib.hid hbel
    have hB := hbel.size
    by_cases hlt : k < n
    · have hx1 : k < X.length := by rw [HN.out]; exact hlt
      have hx2 : k < ps.length := by rw [HPL.out]; exact hlt
      obtain ⟨g, xa, xc, rfl, _, _, c0, _⟩ := (HR.out.below hbel).at k hx1
      have hpk : ps[k] = X[k].pp := by have h := HPS.out; subst h; simp
      have BADk := Lib.hid (BAD.out k hx2)
      have NXTk := Lib.hid (NXT.out k hx2 HNB.out)
      rw [hpk] at BADk NXTk
      generalize X[k] = y at *
      obtain ⟨of, yx⟩ := y
      dsimp only [VPl.pp] at c0 BADk NXTk
      have k0 : (0 : Int) ≤ (k : Int) := by omega
      have k1 : (k : Int) < (n : Int) := by omega
      have I1 := Lib.hid (fun W => s_inRf of 0 1000000 W)
      clear hbel hpk hx1 hx2
      cases hb : (decide (0 ≤ of) && decide (of ≤ 1000000)) with
      | false =>
        have HZ : Hid (false = nearB ps) := Lib.hid (BADk.out (by unfold nearO; exact hb)).symm
        rw [hb] at I1
        clear hb BADk NXTk
        go_wp2_with fail
        refine (I1.out _).mono ?_
        rintro e w' ⟨rfl, rfl⟩
        go_wp2
        go_ret
        exact ⟨ret_bRs HZ.out, HB.out⟩
      | true =>
        have HNX := Lib.hid (NXTk.out (by unfold nearO; exact hb))
        rw [hb] at I1
        clear hb BADk NXTk
        go_wp2_with fail
        refine (I1.out _).mono ?_
        rintro e w' ⟨rfl, rfl⟩
        go_wp2
        go_roundw
        case rel => exact ⟨k + 1, by omega, by go_num, HNX, HB.out⟩
        case measure => simp [RowKit.intOf]; omega
    · have hkk : k = n := by omega
      subst hkk
      have HZ : Hid (true = nearB ps) := Lib.hid (nearB_all ps k (by rw [HPL.out]; exact Nat.le_refl _) HNB.out).symm
      clear hbel
      go_wp2
      go_ret
      exact ⟨ret_bRs HZ.out, HB.out⟩
set_option maxRecDepth 100000 in
set_option maxHeartbeats 8000000 in
theorem s_rulesOf (a : Option Addr) (cap n : Nat) (X : List VPl) (w : World) (hr : RowP w (.slice a n cap) X) (hn : X.length = n) (hl : n ≤ 1048576) :
    Calls Try.prog 15 #[.slice a n cap] w (RuRow 43 w.heap.size (rofZ (X.map (·.pp))) w) := by
  obtain ⟨i0, hi, hz0, hz1, hz2⟩ := info_parts infoRu
  have HO0 : Hid ((w.alloc (.cells #[] 43)).ownsRow w.heap.size 43 4 (.slice (some ⟨w.heap.size, 0, none⟩) 0 0) ([] : List RuL).length (rusV [])) := Lib.hid (World.ownsRow_lit (base := w.heap.size) (e := 43) (size := 4) w #[] 0 (Nat.le_refl _) (by decide) rfl)
  have HB0 : Hid (Below w.heap.size w (w.alloc (.cells #[] 43))) := Lib.hid ((Below.refl _ _).alloc (Nat.le_refl _) _)
  have NR := Lib.hid (s_near a cap n X _ (hr.below HB0.out) hn hl)
  have HR := Lib.hid hr
  have HN := Lib.hid hn
  obtain ⟨ps, hps⟩ : ∃ ps, X.map (·.pp) = ps := ⟨_, rfl⟩
  have HPS := Lib.hid hps
  have HPL : Hid (ps.length = n) := Lib.hid (by rw [← hps]; simpa using hn)
  have RNX := Lib.hid (rofF_next ps)
  have NALL : Hid (nearB ps = true → ∀ k (h : k < ps.length), nearO ps[k] = true) := Lib.hid (fun h k hk => by unfold nearB at h; rw [List.all_eq_true] at h; exact h _ (List.getElem_mem hk))
  rw [hps] at NR ⊢
  clear hr hn hps
  cases hnb : nearB ps with
  | false =>
    have HZ : Hid (rofZ ps = []) := Lib.hid (rofZ_bad ps hnb)
    rw [hnb] at NR
    clear hnb
    go_enter Try.func15, Try.ntmps15
    go_wp2_with fail
    refine NR.out.mono ?_
    rintro e w1 ⟨rfl, b1⟩
    have HB1 : Hid (Below w.heap.size w w1) := Lib.hid (HB0.out.trans (b1.mono HB0.out.size))
    have HO1 := Lib.hid (owns_blks HO0.out (fun g hg => b1.block g (HO0.out.lt g hg).2))
    clear b1
    go_wp2
    go_ret
    exact ⟨_, rfl, by rw [HZ.out]; exact HO1.out, HB1.out⟩
  | true =>
  have HZ : Hid (rofZ ps = rofF [] ps) := Lib.hid (rofZ_all ps hnb)
  have NAL := Lib.hid (NALL.out hnb)
  rw [hnb] at NR
  clear hnb NALL
  go_enter Try.func15, Try.ntmps15
  go_wp2_with fail
  refine NR.out.mono ?_
  rintro e w1 ⟨rfl, b1⟩
  have HB1 : Hid (Below w.heap.size w w1) := Lib.hid (HB0.out.trans (b1.mono HB0.out.size))
  have HO1 := Lib.hid (owns_blks HO0.out (fun g hg => b1.block g (HO0.out.lt g hg).2))
  clear b1 NR HO0 HB0
  go_wp2_with fail
  go_loopw [3, 4] (fun v x wr => ∃ (k : Nat) (D : List RuL), k ≤ n ∧ x = .int .i64 (k : Int) ∧ Hid (rofF [] (ps.take k) = D) ∧ D.length ≤ k ∧ wr.ownsRow w.heap.size 43 4 v D.length (rusV D) ∧ Below w.heap.size w wr) (fun _ x _ => n - (RowKit.intOf x).toNat)
  case atStart => exact ⟨0, [], Nat.zero_le _, rfl, Lib.hid (by rw [List.take_zero]; rfl), Nat.le_refl _, HO1.out, HB1.out⟩
  case round =>
    obtain ⟨k, D, hk, rfl, HD, hDk, hown, hbel⟩ := hrel
    obtain ⟨pa, pc, rfl⟩ := slice_shape hown
    obtain ⟨N, hN⟩ : ∃ N, D.length = N := ⟨_, rfl⟩
    have HDN := Lib.hid hN
    rw [hN] at hown hDk ⊢
    clear hN
    have HO := Lib.hid hown
    have HB := Lib.hid hbel
    have hB := hbel.size
    clear hown
    by_cases hlt : k < n
    · have hx1 : k < X.length := by rw [HN.out]; exact hlt
      have hx2 : k < ps.length := by rw [HPL.out]; exact hlt
      obtain ⟨g, xa, xc, rfl, _, _, c0, c1, c2, c3, c4, c5, c6, c7⟩ := (HR.out.below hbel).at k hx1
      have hpk : ps[k] = X[k].pp := by have h := HPS.out; subst h; simp
      have RNXk := Lib.hid (RNX.out k hx2)
      have NAk := NAL.out k hx2
      rw [hpk] at RNXk NAk
      rw [HD.out] at RNXk
      generalize X[k] = y at *
      obtain ⟨of, ⟨⟨co, ar, li, st, ch, de, en⟩, yv⟩⟩ := y
      dsimp only [VPl.pp] at c0 c1 c2 c3 c4 c5 c6 c7 NAk RNXk
      generalize ch.length = chl at *
      have k0 : (0 : Int) ≤ (k : Int) := by omega
      have k1 : (k : Int) < (n : Int) := by omega
      have hof : 0 ≤ of ∧ of ≤ 1000000 := nearO_is NAk
      have SZ := Lib.hid (fun W => s_size co W)
      have hsz := sizZ_in co
      unfold rofR at RNXk
      dsimp only at RNXk
      obtain ⟨sz, hsz'⟩ : ∃ s, sizZ co = s := ⟨_, rfl⟩
      rw [hsz'] at SZ RNXk hsz
      obtain ⟨sp, hsp⟩ : ∃ s, of + sz = s := ⟨_, rfl⟩
      have wu1 : IntKind.i64.wrap (of + sz) = sp := by rw [hsp]; exact IntWalk.i64_in _ (by omega)
      have HU1 := Lib.hid wu1
      rw [hsp] at RNXk
      have hspb : sp ≤ 1000009 ∧ 0 ≤ sp := by omega
      obtain ⟨sp1, sp0⟩ := hspb
      have QX := Lib.hid (heap_alloc_new wr (.cells #[.int .i64 of, .int .i64 co, .int .i64 ar, .int .i64 li, .bool st, .slice xa chl xc, .int .i64 de, .bool en] 39))
      have BX := Lib.hid ((Below.refl wr.heap.size wr).alloc (Nat.le_refl _) (.cells #[.int .i64 of, .int .i64 co, .int .i64 ar, .int .i64 li, .bool st, .slice xa chl xc, .int .i64 de, .bool en] 39))
      have tz : (wr.alloc (.cells #[.int .i64 of, .int .i64 co, .int .i64 ar, .int .i64 li, .bool st, .slice xa chl xc, .int .i64 de, .bool en] 39)).heap.size = wr.heap.size + 1 := by simp
      obtain ⟨W1, hW1⟩ : ∃ W, wr.alloc (.cells #[.int .i64 of, .int .i64 co, .int .i64 ar, .int .i64 li, .bool st, .slice xa chl xc, .int .i64 de, .bool en] 39) = W := ⟨_, rfl⟩
      rw [hW1] at QX BX tz
      have HW1 := Lib.hid hW1
      clear hW1
      have KX : Hid (∀ W, Below W1.heap.size W1 W → (W.cell? ⟨wr.heap.size, 0, none⟩ = some (.int .i64 of) ∧ W.cell? ⟨wr.heap.size, 1, none⟩ = some (.int .i64 co) ∧ W.cell? ⟨wr.heap.size, 2, none⟩ = some (.int .i64 ar) ∧ W.cell? ⟨wr.heap.size, 3, none⟩ = some (.int .i64 li) ∧ W.cell? ⟨wr.heap.size, 4, none⟩ = some (.bool st) ∧ W.cell? ⟨wr.heap.size, 5, none⟩ = some (.slice xa chl xc) ∧ W.cell? ⟨wr.heap.size, 6, none⟩ = some (.int .i64 de) ∧ W.cell? ⟨wr.heap.size, 7, none⟩ = some (.bool en))) := Lib.hid (fun W hb => by
        have hq := (hb.block wr.heap.size (by omega)).trans QX.out
        exact ⟨(blk hq).1 0 _ rfl, (blk hq).1 1 _ rfl, (blk hq).1 2 _ rfl, (blk hq).1 3 _ rfl, (blk hq).1 4 _ rfl, (blk hq).1 5 _ rfl, (blk hq).1 6 _ rfl, (blk hq).1 7 _ rfl⟩)
      have DD : Hid (Below W1.heap.size W1 W1.drew) := Lib.hid (Below.refl _ _).drew
      have HB1' : Hid (Below w.heap.size w W1) := Lib.hid (HB.out.trans (BX.out.mono hB))
      have HOX := Lib.hid (owns_blks HO.out (fun g hg => BX.out.block g (HO.out.lt g hg).2))
      have HTZ := Lib.hid tz
      clear hbel hpk hx1 hx2 NAk hsz' hsp wu1 hof hsz QX BX tz
      go_upto_region 8 with fail
      rw [HW1.out]
      clear HW1 c0 c1 c2 c3 c4 c5 c6 c7
      go_cut [6] (fun s wx => ∃ nb, s = .pointer (some ⟨nb, 0, none⟩) ∧ Hid (wx.heap[nb]? = some (.cells #[.int .i64 of, .int .i64 sp, .bool en, .int .i64 de] 43 (0, 0))) ∧ Hid (Below W1.heap.size W1 wx) ∧ W1.heap.size ≤ nb)
      case first =>
        have wu1 := HU1.out
        refine E_start (S := (fun w' => w'.cell? ⟨wr.heap.size, 0, none⟩ = some (.int .i64 of) ∧ w'.cell? ⟨wr.heap.size, 1, none⟩ = some (.int .i64 co) ∧ w'.cell? ⟨wr.heap.size, 2, none⟩ = some (.int .i64 ar) ∧ w'.cell? ⟨wr.heap.size, 3, none⟩ = some (.int .i64 li) ∧ w'.cell? ⟨wr.heap.size, 4, none⟩ = some (.bool st) ∧ w'.cell? ⟨wr.heap.size, 5, none⟩ = some (.slice xa chl xc) ∧ w'.cell? ⟨wr.heap.size, 6, none⟩ = some (.int .i64 de) ∧ w'.cell? ⟨wr.heap.size, 7, none⟩ = some (.bool en))) 18 (by kernel_rfl) (KX.out _ DD.out) (fun hHeld => ?_)
        refine E_take (i := 0) (oi := _) (v := ?_) rfl (by kernel_rfl) (fun _ _ _ h => h) ?_ (by assumption) ?_
        rotate_left 1
        · first | (refine Or.inl ⟨by rfl, ?_⟩; intro w hSw; (try dsimp only at hSw); (try simp only [List.getElem_toArray, List.getElem_cons_zero, List.getElem_cons_succ]); go_simp; done) | (refine Or.inl ⟨by rfl, ?_⟩; intro w hSw; (try dsimp only at hSw); (try simp only [List.getElem_toArray, List.getElem_cons_zero, List.getElem_cons_succ]); go_simp; with_reducible rfl)
        try simp only [Act.put, List.setIfInBounds_toArray, List.set_cons_zero, List.set_cons_succ, List.getElem_toArray, List.getElem_cons_zero, List.getElem_cons_succ]
        refine E_take (i := 1) (oi := _) (v := ?_) rfl (by kernel_rfl) (fun _ _ _ h => h) ?_ (by assumption) ?_
        rotate_left 1
        · first | (refine Or.inl ⟨by rfl, ?_⟩; intro w hSw; (try dsimp only at hSw); (try simp only [List.getElem_toArray, List.getElem_cons_zero, List.getElem_cons_succ]); go_simp; done) | (refine Or.inl ⟨by rfl, ?_⟩; intro w hSw; (try dsimp only at hSw); (try simp only [List.getElem_toArray, List.getElem_cons_zero, List.getElem_cons_succ]); go_simp; with_reducible rfl)
        try simp only [Act.put, List.setIfInBounds_toArray, List.set_cons_zero, List.set_cons_succ, List.getElem_toArray, List.getElem_cons_zero, List.getElem_cons_succ]
        refine E_take (i := 2) (oi := _) (v := ?_) rfl (by kernel_rfl) (fun _ _ _ h => h) ?_ (by assumption) ?_
        rotate_left 1
        · first | (refine Or.inl ⟨by rfl, ?_⟩; intro w hSw; (try dsimp only at hSw); (try simp only [List.getElem_toArray, List.getElem_cons_zero, List.getElem_cons_succ]); go_simp; done) | (refine Or.inl ⟨by rfl, ?_⟩; intro w hSw; (try dsimp only at hSw); (try simp only [List.getElem_toArray, List.getElem_cons_zero, List.getElem_cons_succ]); go_simp; with_reducible rfl)
        try simp only [Act.put, List.setIfInBounds_toArray, List.set_cons_zero, List.set_cons_succ, List.getElem_toArray, List.getElem_cons_zero, List.getElem_cons_succ]
        refine E_take (i := 3) (oi := _) (v := ?_) rfl (by kernel_rfl) (fun _ _ _ h => h) ?_ (by assumption) ?_
        rotate_left 1
        · first | (refine Or.inl ⟨by rfl, ?_⟩; intro w hSw; (try dsimp only at hSw); (try simp only [List.getElem_toArray, List.getElem_cons_zero, List.getElem_cons_succ]); go_simp; done) | (refine Or.inl ⟨by rfl, ?_⟩; intro w hSw; (try dsimp only at hSw); (try simp only [List.getElem_toArray, List.getElem_cons_zero, List.getElem_cons_succ]); go_simp; with_reducible rfl)
        try simp only [Act.put, List.setIfInBounds_toArray, List.set_cons_zero, List.set_cons_succ, List.getElem_toArray, List.getElem_cons_zero, List.getElem_cons_succ]
        refine E_take (i := 4) (oi := _) (v := ?_) rfl (by kernel_rfl) (fun _ _ _ h => h) ?_ (by assumption) ?_
        rotate_left 1
        · first | (refine Or.inl ⟨by rfl, ?_⟩; intro w hSw; (try dsimp only at hSw); (try simp only [List.getElem_toArray, List.getElem_cons_zero, List.getElem_cons_succ]); go_simp; done) | (refine Or.inl ⟨by rfl, ?_⟩; intro w hSw; (try dsimp only at hSw); (try simp only [List.getElem_toArray, List.getElem_cons_zero, List.getElem_cons_succ]); go_simp; with_reducible rfl)
        try simp only [Act.put, List.setIfInBounds_toArray, List.set_cons_zero, List.set_cons_succ, List.getElem_toArray, List.getElem_cons_zero, List.getElem_cons_succ]
        refine E_take (i := 5) (oi := _) (v := ?_) rfl (by kernel_rfl) (fun _ _ _ h => h) ?_ (by assumption) ?_
        rotate_left 1
        · first | (refine Or.inl ⟨by rfl, ?_⟩; intro w hSw; (try dsimp only at hSw); (try simp only [List.getElem_toArray, List.getElem_cons_zero, List.getElem_cons_succ]); go_simp; done) | (refine Or.inl ⟨by rfl, ?_⟩; intro w hSw; (try dsimp only at hSw); (try simp only [List.getElem_toArray, List.getElem_cons_zero, List.getElem_cons_succ]); go_simp; with_reducible rfl)
        try simp only [Act.put, List.setIfInBounds_toArray, List.set_cons_zero, List.set_cons_succ, List.getElem_toArray, List.getElem_cons_zero, List.getElem_cons_succ]
        refine E_take (i := 6) (oi := _) (v := ?_) rfl (by kernel_rfl) (fun _ _ _ h => h) ?_ (by assumption) ?_
        rotate_left 1
        · first | (refine Or.inl ⟨by rfl, ?_⟩; intro w hSw; (try dsimp only at hSw); (try simp only [List.getElem_toArray, List.getElem_cons_zero, List.getElem_cons_succ]); go_simp; done) | (refine Or.inl ⟨by rfl, ?_⟩; intro w hSw; (try dsimp only at hSw); (try simp only [List.getElem_toArray, List.getElem_cons_zero, List.getElem_cons_succ]); go_simp; with_reducible rfl)
        try simp only [Act.put, List.setIfInBounds_toArray, List.set_cons_zero, List.set_cons_succ, List.getElem_toArray, List.getElem_cons_zero, List.getElem_cons_succ]
        refine E_take (i := 7) (oi := _) (v := ?_) rfl (by kernel_rfl) (fun _ _ _ h => h) ?_ (by assumption) ?_
        rotate_left 1
        · first | (refine Or.inl ⟨by rfl, ?_⟩; intro w hSw; (try dsimp only at hSw); (try simp only [List.getElem_toArray, List.getElem_cons_zero, List.getElem_cons_succ]); go_simp; done) | (refine Or.inl ⟨by rfl, ?_⟩; intro w hSw; (try dsimp only at hSw); (try simp only [List.getElem_toArray, List.getElem_cons_zero, List.getElem_cons_succ]); go_simp; with_reducible rfl)
        try simp only [Act.put, List.setIfInBounds_toArray, List.set_cons_zero, List.set_cons_succ, List.getElem_toArray, List.getElem_cons_zero, List.getElem_cons_succ]
        refine E_take (i := 10) (oi := _) (v := ?_) rfl (by kernel_rfl) (fun _ _ _ h => h) ?_ (by assumption) ?_
        rotate_left 1
        · first | (refine Or.inl ⟨by rfl, ?_⟩; intro w hSw; (try dsimp only at hSw); (try simp only [List.getElem_toArray, List.getElem_cons_zero, List.getElem_cons_succ]); go_simp; done) | (refine Or.inl ⟨by rfl, ?_⟩; intro w hSw; (try dsimp only at hSw); (try simp only [List.getElem_toArray, List.getElem_cons_zero, List.getElem_cons_succ]); go_simp; with_reducible rfl)
        try simp only [Act.put, List.setIfInBounds_toArray, List.set_cons_zero, List.set_cons_succ, List.getElem_toArray, List.getElem_cons_zero, List.getElem_cons_succ]
        refine E_take (i := 11) (oi := _) (v := ?_) rfl (by kernel_rfl) (fun _ _ _ h => h) ?_ (by assumption) ?_
        rotate_left 1
        · first | (refine Or.inl ⟨by rfl, ?_⟩; intro w hSw; (try dsimp only at hSw); (try simp only [List.getElem_toArray, List.getElem_cons_zero, List.getElem_cons_succ]); go_simp; done) | (refine Or.inl ⟨by rfl, ?_⟩; intro w hSw; (try dsimp only at hSw); (try simp only [List.getElem_toArray, List.getElem_cons_zero, List.getElem_cons_succ]); go_simp; with_reducible rfl)
        try simp only [Act.put, List.setIfInBounds_toArray, List.set_cons_zero, List.set_cons_succ, List.getElem_toArray, List.getElem_cons_zero, List.getElem_cons_succ]
        refine E_take (i := 12) (oi := _) (v := ?_) rfl (by kernel_rfl) (fun _ _ _ h => h) ?_ (by assumption) ?_
        rotate_left 1
        · first | (refine Or.inl ⟨by rfl, ?_⟩; intro w hSw; (try dsimp only at hSw); (try simp only [List.getElem_toArray, List.getElem_cons_zero, List.getElem_cons_succ]); go_simp; done) | (refine Or.inl ⟨by rfl, ?_⟩; intro w hSw; (try dsimp only at hSw); (try simp only [List.getElem_toArray, List.getElem_cons_zero, List.getElem_cons_succ]); go_simp; with_reducible rfl)
        try simp only [Act.put, List.setIfInBounds_toArray, List.set_cons_zero, List.set_cons_succ, List.getElem_toArray, List.getElem_cons_zero, List.getElem_cons_succ]
        refine E_take (i := 13) (oi := _) (v := ?_) rfl (by kernel_rfl) (fun _ _ _ h => h) ?_ (by assumption) ?_
        rotate_left 1
        · first | (refine Or.inl ⟨by rfl, ?_⟩; intro w hSw; (try dsimp only at hSw); (try simp only [List.getElem_toArray, List.getElem_cons_zero, List.getElem_cons_succ]); go_simp; done) | (refine Or.inl ⟨by rfl, ?_⟩; intro w hSw; (try dsimp only at hSw); (try simp only [List.getElem_toArray, List.getElem_cons_zero, List.getElem_cons_succ]); go_simp; with_reducible rfl)
        try simp only [Act.put, List.setIfInBounds_toArray, List.set_cons_zero, List.set_cons_succ, List.getElem_toArray, List.getElem_cons_zero, List.getElem_cons_succ]
        refine E_take (i := 14) (oi := _) (v := ?_) rfl (by kernel_rfl) (fun _ _ _ h => h) ?_ (by assumption) ?_
        rotate_left 1
        · first | (refine Or.inl ⟨by rfl, ?_⟩; intro w hSw; (try dsimp only at hSw); (try simp only [List.getElem_toArray, List.getElem_cons_zero, List.getElem_cons_succ]); go_simp; done) | (refine Or.inl ⟨by rfl, ?_⟩; intro w hSw; (try dsimp only at hSw); (try simp only [List.getElem_toArray, List.getElem_cons_zero, List.getElem_cons_succ]); go_simp; with_reducible rfl)
        try simp only [Act.put, List.setIfInBounds_toArray, List.set_cons_zero, List.set_cons_succ, List.getElem_toArray, List.getElem_cons_zero, List.getElem_cons_succ]
        refine E_take (i := 15) (oi := _) (v := ?_) rfl (by kernel_rfl) (fun _ _ _ h => h) ?_ (by assumption) ?_
        rotate_left 1
        · first | (refine Or.inl ⟨by rfl, ?_⟩; intro w hSw; (try dsimp only at hSw); (try simp only [List.getElem_toArray, List.getElem_cons_zero, List.getElem_cons_succ]); go_simp; done) | (refine Or.inl ⟨by rfl, ?_⟩; intro w hSw; (try dsimp only at hSw); (try simp only [List.getElem_toArray, List.getElem_cons_zero, List.getElem_cons_succ]); go_simp; with_reducible rfl)
        try simp only [Act.put, List.setIfInBounds_toArray, List.set_cons_zero, List.set_cons_succ, List.getElem_toArray, List.getElem_cons_zero, List.getElem_cons_succ]
        refine E_ready (rs := [8, 17]) (by kernel_rfl) (by decide) ?_
        refine AllE.cons (o := _) rfl (fun K hK => ?_) (AllE.cons (o := _) rfl (fun K hK => ?_) AllE.nil)
        · try simp only [List.getElem_toArray, List.getElem_cons_zero, List.getElem_cons_succ]
          go_simp
          refine (SZ.out _).mono ?_
          rintro e w' ⟨rfl, rfl⟩
          go_wp2_with fail
          refine hK.out _ _ (KX.out _ DD.out) (fun hHeld => ?_)
          clear hK K
          try simp only [Act.put, List.setIfInBounds_toArray, List.set_cons_zero, List.set_cons_succ, List.getElem_toArray, List.getElem_cons_zero, List.getElem_cons_succ]
          refine E_take (i := 9) (oi := _) (v := ?_) rfl (by kernel_rfl) (fun _ _ _ h => h) ?_ (by assumption) ?_
          rotate_left 1
          · first | (refine Or.inl ⟨by rfl, ?_⟩; intro w hSw; (try dsimp only at hSw); (try simp only [List.getElem_toArray, List.getElem_cons_zero, List.getElem_cons_succ]); go_simp; done) | (refine Or.inl ⟨by rfl, ?_⟩; intro w hSw; (try dsimp only at hSw); (try simp only [List.getElem_toArray, List.getElem_cons_zero, List.getElem_cons_succ]); go_simp; with_reducible rfl)
          try simp only [Act.put, List.setIfInBounds_toArray, List.set_cons_zero, List.set_cons_succ, List.getElem_toArray, List.getElem_cons_zero, List.getElem_cons_succ]
          refine E_take (i := 16) (oi := _) (v := ?_) rfl (by kernel_rfl) (fun _ _ _ h => h) ?_ (by assumption) ?_
          rotate_left 1
          · first | (refine Or.inl ⟨by rfl, ?_⟩; intro w hSw; (try dsimp only at hSw); (try simp only [List.getElem_toArray, List.getElem_cons_zero, List.getElem_cons_succ]); go_simp; done) | (refine Or.inl ⟨by rfl, ?_⟩; intro w hSw; (try dsimp only at hSw); (try simp only [List.getElem_toArray, List.getElem_cons_zero, List.getElem_cons_succ]); go_simp; with_reducible rfl)
          try simp only [Act.put, List.setIfInBounds_toArray, List.set_cons_zero, List.set_cons_succ, List.getElem_toArray, List.getElem_cons_zero, List.getElem_cons_succ]
          refine E_ready (rs := [17]) (by kernel_rfl) (by decide) ?_
          refine AllE.cons (o := _) rfl (fun K hK => ?_) AllE.nil
          try simp only [List.getElem_toArray, List.getElem_cons_zero, List.getElem_cons_succ]
          go_simp
          have QB : Hid ((W1.alloc (.cells #[.int .i64 0, .int .i64 0, .bool false, .int .i64 0] 43)).drew.heap[W1.heap.size]? = some (.cells #[.int .i64 0, .int .i64 0, .bool false, .int .i64 0] 43 (0, 0))) := Lib.hid (heap_alloc_new W1 _)
          replace DD : Hid (Below W1.heap.size W1 (W1.alloc (.cells #[.int .i64 0, .int .i64 0, .bool false, .int .i64 0] 43)).drew) := Lib.hid (((Below.refl W1.heap.size W1).alloc (Nat.le_refl _) (.cells #[.int .i64 0, .int .i64 0, .bool false, .int .i64 0] 43)).drew)
          obtain ⟨nb, hnb⟩ : ∃ k, W1.heap.size = k := ⟨_, rfl⟩
          have HZB : Hid (W1.heap.size ≤ nb) := Lib.hid (Nat.le_of_eq hnb)
          rw [hnb] at QB
          obtain ⟨WA, hWA⟩ : ∃ W, (W1.alloc (.cells #[.int .i64 0, .int .i64 0, .bool false, .int .i64 0] 43)).drew = W := ⟨_, rfl⟩
          rw [hWA] at QB DD
          first | rw [hWA] | skip
          first | rw [hnb] | skip
          clear hnb hWA
          refine hK.out _ _ (KX.out _ DD.out) (fun hHeld => ?_)
          clear hK K
          try simp only [Act.put, List.setIfInBounds_toArray, List.set_cons_zero, List.set_cons_succ, List.getElem_toArray, List.getElem_cons_zero, List.getElem_cons_succ]
          obtain ⟨jj, gj, lj⟩ := blk QB.out
          have j0 : WA.cell? ⟨nb, 0, none⟩ = some (.int .i64 0) := jj 0 _ rfl
          have j1 : WA.cell? ⟨nb, 1, none⟩ = some (.int .i64 0) := jj 1 _ rfl
          have j2 : WA.cell? ⟨nb, 2, none⟩ = some (.bool false) := jj 2 _ rfl
          have j3 : WA.cell? ⟨nb, 3, none⟩ = some (.int .i64 0) := jj 3 _ rfl
          clear jj
          have QF : Hid (((((WA.setCell ⟨nb, 0, none⟩ (.int .i64 of)).setCell ⟨nb, 1, none⟩ (.int .i64 sp)).setCell ⟨nb, 2, none⟩ (.bool en)).setCell ⟨nb, 3, none⟩ (.int .i64 de)).heap[nb]? = some (.cells #[.int .i64 of, .int .i64 sp, .bool en, .int .i64 de] 43 (0, 0))) := Lib.hid (by have h0 := heap_setCell_at QB.out (.int .i64 of) (j := 0); have h1 := heap_setCell_at h0 (.int .i64 sp) (j := 1); have h2 := heap_setCell_at h1 (.bool en) (j := 2); exact heap_setCell_at h2 (.int .i64 de) (j := 3))
          have BF : Hid (Below W1.heap.size W1 ((((WA.setCell ⟨nb, 0, none⟩ (.int .i64 of)).setCell ⟨nb, 1, none⟩ (.int .i64 sp)).setCell ⟨nb, 2, none⟩ (.bool en)).setCell ⟨nb, 3, none⟩ (.int .i64 de))) := Lib.hid ((((DD.out.setCell HZB.out _).setCell HZB.out _).setCell HZB.out _).setCell HZB.out _)
          refine E_last (o := _) (by kernel_rfl) rfl (by kernel_rfl) (fun K hK => ?_)
          try simp only [List.getElem_toArray, List.getElem_cons_zero, List.getElem_cons_succ]
          go_simp
          refine hK.out _ _ ?_
          clear hK K
          go_wp2
          go_meet
          exact ⟨nb, rfl, QF, BF, HZB.out⟩
        · try simp only [List.getElem_toArray, List.getElem_cons_zero, List.getElem_cons_succ]
          go_simp
          have QB : Hid ((W1.alloc (.cells #[.int .i64 0, .int .i64 0, .bool false, .int .i64 0] 43)).drew.heap[W1.heap.size]? = some (.cells #[.int .i64 0, .int .i64 0, .bool false, .int .i64 0] 43 (0, 0))) := Lib.hid (heap_alloc_new W1 _)
          replace DD : Hid (Below W1.heap.size W1 (W1.alloc (.cells #[.int .i64 0, .int .i64 0, .bool false, .int .i64 0] 43)).drew) := Lib.hid (((Below.refl W1.heap.size W1).alloc (Nat.le_refl _) (.cells #[.int .i64 0, .int .i64 0, .bool false, .int .i64 0] 43)).drew)
          obtain ⟨nb, hnb⟩ : ∃ k, W1.heap.size = k := ⟨_, rfl⟩
          have HZB : Hid (W1.heap.size ≤ nb) := Lib.hid (Nat.le_of_eq hnb)
          rw [hnb] at QB
          obtain ⟨WA, hWA⟩ : ∃ W, (W1.alloc (.cells #[.int .i64 0, .int .i64 0, .bool false, .int .i64 0] 43)).drew = W := ⟨_, rfl⟩
          rw [hWA] at QB DD
          first | rw [hWA] | skip
          first | rw [hnb] | skip
          clear hnb hWA
          refine hK.out _ _ (KX.out _ DD.out) (fun hHeld => ?_)
          clear hK K
          try simp only [Act.put, List.setIfInBounds_toArray, List.set_cons_zero, List.set_cons_succ, List.getElem_toArray, List.getElem_cons_zero, List.getElem_cons_succ]
          refine E_ready (rs := [8]) (by kernel_rfl) (by decide) ?_
          refine AllE.cons (o := _) rfl (fun K hK => ?_) AllE.nil
          try simp only [List.getElem_toArray, List.getElem_cons_zero, List.getElem_cons_succ]
          go_simp
          refine (SZ.out _).mono ?_
          rintro e w' ⟨rfl, rfl⟩
          go_wp2_with fail
          refine hK.out _ _ (KX.out _ DD.out) (fun hHeld => ?_)
          clear hK K
          try simp only [Act.put, List.setIfInBounds_toArray, List.set_cons_zero, List.set_cons_succ, List.getElem_toArray, List.getElem_cons_zero, List.getElem_cons_succ]
          refine E_take (i := 9) (oi := _) (v := ?_) rfl (by kernel_rfl) (fun _ _ _ h => h) ?_ (by assumption) ?_
          rotate_left 1
          · first | (refine Or.inl ⟨by rfl, ?_⟩; intro w hSw; (try dsimp only at hSw); (try simp only [List.getElem_toArray, List.getElem_cons_zero, List.getElem_cons_succ]); go_simp; done) | (refine Or.inl ⟨by rfl, ?_⟩; intro w hSw; (try dsimp only at hSw); (try simp only [List.getElem_toArray, List.getElem_cons_zero, List.getElem_cons_succ]); go_simp; with_reducible rfl)
          try simp only [Act.put, List.setIfInBounds_toArray, List.set_cons_zero, List.set_cons_succ, List.getElem_toArray, List.getElem_cons_zero, List.getElem_cons_succ]
          refine E_take (i := 16) (oi := _) (v := ?_) rfl (by kernel_rfl) (fun _ _ _ h => h) ?_ (by assumption) ?_
          rotate_left 1
          · first | (refine Or.inl ⟨by rfl, ?_⟩; intro w hSw; (try dsimp only at hSw); (try simp only [List.getElem_toArray, List.getElem_cons_zero, List.getElem_cons_succ]); go_simp; done) | (refine Or.inl ⟨by rfl, ?_⟩; intro w hSw; (try dsimp only at hSw); (try simp only [List.getElem_toArray, List.getElem_cons_zero, List.getElem_cons_succ]); go_simp; with_reducible rfl)
          try simp only [Act.put, List.setIfInBounds_toArray, List.set_cons_zero, List.set_cons_succ, List.getElem_toArray, List.getElem_cons_zero, List.getElem_cons_succ]
          obtain ⟨jj, gj, lj⟩ := blk QB.out
          have j0 : WA.cell? ⟨nb, 0, none⟩ = some (.int .i64 0) := jj 0 _ rfl
          have j1 : WA.cell? ⟨nb, 1, none⟩ = some (.int .i64 0) := jj 1 _ rfl
          have j2 : WA.cell? ⟨nb, 2, none⟩ = some (.bool false) := jj 2 _ rfl
          have j3 : WA.cell? ⟨nb, 3, none⟩ = some (.int .i64 0) := jj 3 _ rfl
          clear jj
          have QF : Hid (((((WA.setCell ⟨nb, 0, none⟩ (.int .i64 of)).setCell ⟨nb, 1, none⟩ (.int .i64 sp)).setCell ⟨nb, 2, none⟩ (.bool en)).setCell ⟨nb, 3, none⟩ (.int .i64 de)).heap[nb]? = some (.cells #[.int .i64 of, .int .i64 sp, .bool en, .int .i64 de] 43 (0, 0))) := Lib.hid (by have h0 := heap_setCell_at QB.out (.int .i64 of) (j := 0); have h1 := heap_setCell_at h0 (.int .i64 sp) (j := 1); have h2 := heap_setCell_at h1 (.bool en) (j := 2); exact heap_setCell_at h2 (.int .i64 de) (j := 3))
          have BF : Hid (Below W1.heap.size W1 ((((WA.setCell ⟨nb, 0, none⟩ (.int .i64 of)).setCell ⟨nb, 1, none⟩ (.int .i64 sp)).setCell ⟨nb, 2, none⟩ (.bool en)).setCell ⟨nb, 3, none⟩ (.int .i64 de))) := Lib.hid ((((DD.out.setCell HZB.out _).setCell HZB.out _).setCell HZB.out _).setCell HZB.out _)
          refine E_last (o := _) (by kernel_rfl) rfl (by kernel_rfl) (fun K hK => ?_)
          try simp only [List.getElem_toArray, List.getElem_cons_zero, List.getElem_cons_succ]
          go_simp
          refine hK.out _ _ ?_
          clear hK K
          go_wp2
          go_meet
          exact ⟨nb, rfl, QF, BF, HZB.out⟩
      case rest =>
        rename World => w2
        obtain ⟨nb, rfl, QN, BN, hnb⟩ := hcut
        have z2 := BN.out.size
        have tz := HTZ.out
        have hnb2 : nb < w2.heap.size := (blk QN.out).2.2
        have HB3 : Hid (Below w.heap.size w w2) := Lib.hid (HB1'.out.trans (BN.out.mono (by omega)))
        have hown2 := owns_blks HOX.out (fun g hg => BN.out.block g (HOX.out.lt g hg).2)
        have n0 : w2.cell? ⟨nb, 0, none⟩ = some (.int .i64 of) := (blk QN.out).1 0 _ rfl
        have n1 : w2.cell? ⟨nb, 1, none⟩ = some (.int .i64 sp) := (blk QN.out).1 1 _ rfl
        have n2 : w2.cell? ⟨nb, 2, none⟩ = some (.bool en) := (blk QN.out).1 2 _ rfl
        have n3 : w2.cell? ⟨nb, 3, none⟩ = some (.int .i64 de) := (blk QN.out).1 3 _ rfl
        clear KX DD HOX HB1' BN HU1
        rcases List.eq_nil_or_concat D with hD | ⟨P, b, hD⟩
        · subst hD
          obtain rfl : N = 0 := HDN.out.symm
          have RN' : Hid (rofF [] (ps.take (k + 1)) = [⟨of, sp, en, de⟩]) := Lib.hid (by rw [RNXk.out, rofS_nil])
          have h63 : 0 + 1 ≤ maxLen := by unfold maxLen; simp
          have hby : (0 + 1) * 32 ≤ 140737488355328 := by simp
          clear RNXk
          go_wp2_with fail
          go_quiet (fail)
          go_wp2_with (at_builtin; refine wpList_append_own _ rfl _ _ 31 rfl w.heap.size 43 i0 _ 4 32 Try.underlying31 hi hz0 hz1 hz2 rfl (by decide) _ _ _ rfl (hown2.alloc _) ⟨w2.heap.size, 0, none⟩ 1 1 [.int .i64 of, .int .i64 sp, .bool en, .int .i64 de] rfl rfl ?c1 ?c2 h63 hby ?c5 ?_)
          case c1 =>
            have hb := heap_alloc_new w2 (.cells #[.int .i64 of, .int .i64 sp, .bool en, .int .i64 de] 43)
            have hb' : (w2.alloc (.cells #[.int .i64 of, .int .i64 sp, .bool en, .int .i64 de] 43)).heap[w2.heap.size]? = some (.cells #[.int .i64 of, .int .i64 sp, .bool en, .int .i64 de] 43 (0, 0)) := by simpa using hb
            first | exact World.news_of_block hb' | (intro j u hu; have h := World.news_of_block hb' j u (by simpa using hu); have e : (⟨w2.heap.size, 0, none⟩ : Addr).add j = ⟨w2.heap.size, j, none⟩ := (by cases j with | zero => rfl | succ j => simp [Addr.add]); rw [e] at h; exact h)
          case c2 => first | exact ⟨rfl, rfl, rfl, rfl⟩ | (intro u hu; simp at hu; rcases hu with rfl | rfl | rfl | rfl <;> rfl)
          case c5 => first | omega | (simp; omega) | (have := HB3.out.size; simp; omega)
          intro v' w3 hown3 hgrow _
          have HO4 : Hid (w3.ownsRow w.heap.size 43 4 v' (([] : List RuL) ++ [(⟨of, sp, en, de⟩ : RuL)]).length (rusV (([] : List RuL) ++ [(⟨of, sp, en, de⟩ : RuL)]))) := Lib.hid (by rw [rusV_append, List.length_append]; exact hown3)
          have HB4 : Hid (Below w.heap.size w w3) := Lib.hid (below_appT (wr := w2.drewN _) hown2 (below_drewN HB3.out _) (by simp [World.drewN]; omega) hgrow)
          clear hown2 hown3 hgrow
          go_wp2
          go_roundw
          case rel => exact ⟨k + 1, [⟨of, sp, en, de⟩], by omega, by go_num, RN', by simp, HO4.out, HB4.out⟩
          case measure => simp [RowKit.intOf]; omega
        · rw [List.concat_eq_append] at hD
          subst hD
          have hM : P.length + 1 = N := by have h := HDN.out; simpa using h
          obtain ⟨M, hM'⟩ : ∃ M, P.length = M := ⟨_, rfl⟩
          rw [hM'] at hM
          have HMM := Lib.hid hM'
          subst hM
          clear hM'
          obtain ⟨g2, hg2⟩ : ∃ g2, pa = some ⟨g2, 0, none⟩ := by
            rcases hown2.2 with ⟨_, h0⟩ | ⟨g2, cap2, cur2, e, _⟩
            · omega
            · injection e with e; exact ⟨g2, e⟩
          subst hg2
          have LC : Hid (∀ i, i < 4 → w2.cell? ⟨g2, M * 4 + i, none⟩ = (ruV b)[i]?) := Lib.hid (fun i hi => by
            rw [hown2.cellAt (M * 4 + i) (by have := rusV_length (P ++ [b]); have := HMM.out; simp at *; omega), ← HMM.out]
            exact rusV_last P b i hi)
          have STP := Lib.hid (rusV_stop P b sp)
          rw [HMM.out] at STP
          obtain ⟨bs, bp, bf, bd⟩ := b
          dsimp only at STP RNXk
          have q0 : w2.cell? ⟨g2, M * 4, none⟩ = some (.int .i64 bs) := LC.out 0 (by omega)
          have q1 : w2.cell? ⟨g2, M * 4 + 1, none⟩ = some (.int .i64 bp) := LC.out 1 (by omega)
          have q2 : w2.cell? ⟨g2, M * 4 + 2, none⟩ = some (.bool bf) := LC.out 2 (by omega)
          have q3 : w2.cell? ⟨g2, M * 4 + 3, none⟩ = some (.int .i64 bd) := LC.out 3 (by omega)
          have m0 : (0 : Int) ≤ (M : Int) := by omega
          have m1 : (M : Int) < (M : Int) + 1 := by omega
          have m2 : (0 : Int) < (M : Int) + 1 := by omega
          have hpl : (P ++ [(⟨bs, bp, bf, bd⟩ : RuL)]).length = M + 1 := by simp [HMM.out]
          have HPL2 := Lib.hid hpl
          clear hpl
          have hgl : w.heap.size ≤ g2 ∧ g2 < w2.heap.size := hown2.lt g2 rfl
          go_upto_region 10 with fail
          go_cut [76] (fun s wx => s = .bool (rofJ ⟨bs, bp, bf, bd⟩ ⟨of, sp, en, de⟩) ∧ ∃ q, wx = w2.drewN q)
          case first =>
            by_cases h1 : bp = of
            · subst h1
              cases bf <;> cases en
              all_goals
                by_cases h3 : bd = de
                · subst h3
                  go_quiet (fail)
                  go_wp2
                  go_meet
                  exact ⟨by unfold rofJ; simp, _, rfl⟩
                · have h3b : (bd == de) = false := by simp [h3]
                  go_quiet (fail)
                  go_wp2
                  go_meet
                  exact ⟨by unfold rofJ; simp [h3], _, rfl⟩
            · have h1b : (bp == of) = false := by simp [h1]
              go_quiet (fail)
              go_wp2
              go_meet
              exact ⟨by unfold rofJ; simp [h1], _, rfl⟩
          case rest =>
            obtain ⟨rfl, q, rfl⟩ := hcut
            cases hj : rofJ ⟨bs, bp, bf, bd⟩ ⟨of, sp, en, de⟩ with
            | true =>
              have RN' : Hid (rofF [] (ps.take (k + 1)) = P ++ [⟨bs, sp, bf, bd⟩]) := Lib.hid (by rw [RNXk.out, rofS_join _ _ _ hj])
              have fr := hown2.frozenAt
              have S1 := hown2.stored (M * 4 + 1) (.int .i64 sp)
              have HO6 := Lib.hid (STP.out ▸ S1.1)
              have HB6 : Hid (Below w.heap.size w ((w2.drewN q).setCell ⟨g2, M * 4 + 1, none⟩ (.int .i64 sp))) := Lib.hid (below_drewN (HB3.out.grown S1.2 (by exact HB3.out.size) (fun j hj => by injection hj with e; omega)) q)
              clear S1 hj RNXk
              go_wp2
              go_roundw
              case rel => exact ⟨k + 1, P ++ [⟨bs, sp, bf, bd⟩], by omega, by go_num, RN', by simp; have := HMM.out; omega, by rw [show (P ++ [(⟨bs, sp, bf, bd⟩ : RuL)]).length = M + 1 from by simp [HMM.out]]; exact HO6.out, HB6.out⟩
              case measure => simp [RowKit.intOf]; omega
            | false =>
              have RN' : Hid (rofF [] (ps.take (k + 1)) = P ++ [⟨bs, bp, bf, bd⟩] ++ [⟨of, sp, en, de⟩]) := Lib.hid (by rw [RNXk.out, rofS_new _ _ _ hj])
              have h63 : M + 1 + 1 ≤ maxLen := by unfold maxLen; omega
              have hby : (M + 1 + 1) * 32 ≤ 140737488355328 := by omega
              clear hj RNXk
              go_wp2_with (at_builtin; refine wpList_append_own _ rfl _ _ 31 rfl w.heap.size 43 i0 _ 4 32 Try.underlying31 hi hz0 hz1 hz2 rfl (by decide) _ _ _ rfl (hown2.alloc _) ⟨w2.heap.size, 0, none⟩ 1 1 [.int .i64 of, .int .i64 sp, .bool en, .int .i64 de] rfl rfl ?c1 ?c2 h63 hby ?c5 ?_)
              case c1 =>
                have hb := heap_alloc_new w2 (.cells #[.int .i64 of, .int .i64 sp, .bool en, .int .i64 de] 43)
                have hb' : (w2.alloc (.cells #[.int .i64 of, .int .i64 sp, .bool en, .int .i64 de] 43)).heap[w2.heap.size]? = some (.cells #[.int .i64 of, .int .i64 sp, .bool en, .int .i64 de] 43 (0, 0)) := by simpa using hb
                first | exact World.news_of_block hb' | (intro j u hu; have h := World.news_of_block hb' j u (by simpa using hu); have e : (⟨w2.heap.size, 0, none⟩ : Addr).add j = ⟨w2.heap.size, j, none⟩ := (by cases j with | zero => rfl | succ j => simp [Addr.add]); rw [e] at h; exact h)
              case c2 => first | exact ⟨rfl, rfl, rfl, rfl⟩ | (intro u hu; simp at hu; rcases hu with rfl | rfl | rfl | rfl <;> rfl)
              case c5 => first | omega | (simp; omega) | (have := HB3.out.size; simp; omega)
              intro v' w3 hown3 hgrow _
              have HO4 : Hid (w3.ownsRow w.heap.size 43 4 v' (P ++ [(⟨bs, bp, bf, bd⟩ : RuL)] ++ [(⟨of, sp, en, de⟩ : RuL)]).length (rusV (P ++ [(⟨bs, bp, bf, bd⟩ : RuL)] ++ [(⟨of, sp, en, de⟩ : RuL)]))) := Lib.hid (by rw [rusV_append, List.length_append, HPL2.out]; exact hown3)
              have HB4 : Hid (Below w.heap.size w w3) := Lib.hid (below_appT (wr := w2.drewN _) hown2 (below_drewN HB3.out _) (by simp [World.drewN]; omega) hgrow)
              clear hown2 hown3 hgrow
              go_wp2
              go_roundw
              case rel => exact ⟨k + 1, P ++ [⟨bs, bp, bf, bd⟩] ++ [⟨of, sp, en, de⟩], by omega, by go_num, RN', by simp; have := HMM.out; omega, HO4.out, HB4.out⟩
              case measure => simp [RowKit.intOf]; omega
    · have hkk : k = n := by omega
      subst hkk
      have HZ2 : Hid (rofZ ps = D) := Lib.hid (by have h2 := HD.out; rw [List.take_of_length_le (by rw [HPL.out]; exact Nat.le_refl _)] at h2; rw [HZ.out]; exact h2)
      clear hbel
      go_wp2
      go_ret
      exact ⟨_, rfl, by rw [HZ2.out, HDN.out]; exact HO.out, HB.out⟩
end Go.Proofs.Ytakgjlpgcepnkaa
