/- The program's replaces: the bodies around, then the three bounds. -/
import Derived.Test.YtaplbefdijcceaaGreatDoorI14
namespace Go.Proofs.YtaplbefdijcceaaGreatDoor
open Go.RowKit Go.Lib Go.Maps
def Arnd (T : JT) (w : World) : Option Nat → List ScL → Prop
 | none, [] => True
 | some a, sc :: r => ∃ (cs : Array Value) (ab : Option Nat), w.heap[a]? = some (.cells cs T.b (0, 0)) ∧ cs[1]? = some (ptrV ab) ∧ cs[2]? = some (.int .i64 (sc.f : Int)) ∧ (∀ a', ab = some a' → a' < a) ∧ Arnd T w ab r
 | none, _ :: _ => False
 | some _, [] => False
theorem Arnd.keep {T : JT} {w w' : World} : ∀ {r : List ScL} {ab : Option Nat} (n : Nat), Arnd T w ab r → (∀ a, ab = some a → a < n) → (∀ k cs fr, k < n → w.heap[k]? = some (.cells cs T.b fr) → w'.heap[k]? = w.heap[k]?) → Arnd T w' ab r
 | [], none, _, _, _, _ => trivial
 | [], some _, _, h, _, _ => h.elim
 | _ :: _, none, _, h, _, _ => h.elim
 | sc :: r, some a, n, ⟨cs, ab, h1, h2, h3, h4, h5⟩, hn, hk => ⟨cs, ab, (hk a cs (0, 0) (hn a rfl) h1).trans h1, h2, h3, h4, Arnd.keep a h5 h4 fun k cs fr hka hkk => hk k cs fr (Nat.lt_trans hka (hn a rfl)) hkk⟩
def blkV : Value → Nat
 | .pointer (some a) => a.block + 1
 | _ => 0
set_option maxRecDepth 100000 in
set_option maxHeartbeats 4000000 in
theorem i_replaces (B cb : Nat) (K : KcE) (t : CiS) (iv : Value) (X : List ItW) (sc : ScL) (rest scs : List ScL) (b : BdW) (jv : Value) (line g : Nat) (pa : Option Addr) (pc : Nat) (PX : List LnL) (fa : Option Addr) (fc : Nat) (wb w : World)
  (h : CiAt jT Tryz.prog B cb w K t iv X sc b jv line) (hscs : scs = sc :: rest) (hlen : sc.chain.length + 1 = scs.length) (hab : Arnd jT w b.ab rest) (halt : ∀ a, b.ab = some a → a < b.bb) (hl4 : scs.length ≤ 4) (hs : Sm8 t) (hP : PgI K pa pc PX fa fc wb) (hW : Below wb.heap.size wb w) (hg : g ≤ 1000) :
  Calls Tryz.prog 203 #[.pointer (some ⟨b.bb, 0, none⟩), .int .i64 (g : Int)] w fun e w' => e = .returned (.bool (replJ K.E scs t.items.length g)) ∧ Below w.heap.size w w' := by
 have HH := hid h
 have hpl := hP.len
 have hplen : K.E.p.length ≤ 60 := hP.ok.1.1
 have hil := hP.inl
 obtain ⟨va, vc, rfl⟩ := own_sh h.cc.its
 obtain ⟨ha, hcq, hchv⟩ := own_sh h.bd.ch
 have hcl : sc.chain.length = scs.length - 1 := by omega
 rw [hcl] at hchv
 have hxl : X.length = t.items.length := h.len
 have hX4 : X.length ≤ 4000000 := by have := hs.n; omega
 have HAR : Hid (Arnd jT w (some b.bb) scs) := hid (by rw [hscs]; exact ⟨_, b.ab, h.bd.row, rfl, rfl, halt, hab⟩)
 have HS4 : Hid (∀ W, Below w.heap.size w W → W.cell? ⟨b.bb, 3, none⟩ = some (.slice ha (scs.length - 1) hcq) ∧ W.cell? ⟨b.bb, 0, none⟩ = some (.pointer (some ⟨cb, 0, none⟩)) ∧ W.cell? ⟨cb, 2, none⟩ = some (.int .i64 (K.E.inl : Int)) ∧ W.cell? ⟨cb, 0, none⟩ = some (.slice pa PX.length pc) ∧ W.cell? ⟨cb, 8, none⟩ = some (.slice va X.length vc)) := hid (fun W hb => by
  have h1 := HH.out.below hb
  exact ⟨by rw [← hchv]; exact (blk h1.bd.row).1 3 _ rfl, h1.cells.1, (blk h1.cc.row).1 2 _ rfl, by rw [← hP.pv]; exact (blk h1.cc.row).1 0 _ rfl, (blk h1.cc.row).1 8 _ rfl⟩)
 obtain ⟨z, hz⟩ : ∃ z, beZ K.E.p (g : Int) = z := ⟨_, rfl⟩
 have hbz := beZ_lt K.E.p (g : Int)
 rw [hz] at hbz
 have hz1 := hbz.1
 have hz2 : z ≤ 60 := by omega
 have EN : Hid (∀ W, Below w.heap.size w W → Calls Tryz.prog 135 #[.slice pa PX.length pc, .int .i64 (g : Int)] W fun e w' => e = .returned (.int .i64 z) ∧ Below W.heap.size W w') := hid (fun W hb => by
  have h := i_endOf pa pc PX (g : Int) W (by omega) ((hP.read.below hW).below hb)
  rw [hP.prog, hz] at h
  exact h)
 obtain ⟨bb, hbb⟩ : ∃ bb, b.bb = bb := ⟨_, rfl⟩
 rw [hbb] at HAR HS4 ⊢
 have PN := fun W a => (ptr_none W a).1
 have u1 : IntKind.i64.wrap (z - (g : Int)) = z - (g : Int) := IntWalk.i64_in _ (by omega)
 obtain ⟨R, hR⟩ : ∃ R, replJ K.E scs t.items.length g = R := ⟨_, rfl⟩
 rw [hR]
 unfold replJ at hR
 rw [hz, ← hxl] at hR
 have HR := hid hR
 have S0 := hid (HS4.out w (Below.refl _ _))
 have B0 : Hid (∀ q, Below w.heap.size w (w.drewN q)) := hid (fun q => below_drewN (Below.refl _ _) q)
 have B1 : Hid (Below w.heap.size w w.drew) := hid (Below.refl _ _).drew
 clear h hscs hlen hab halt hs hP hW hchv hxl hcl hz hbz hR hbb hplen hpl
 go_enter Tryz.func203, Tryz.ntmps203
 go_wp2_with fail
 go_loopw [5] (fun p wr => ∃ (ab : Option Nat) (r : List ScL), p = ptrV ab ∧ wr = w ∧ Hid (Arnd jT w ab r) ∧ Hid ((scs.all fun sc => decide (sc.f ≠ g)) = r.all fun sc => decide (sc.f ≠ g))) (fun p _ => blkV p)
 case atStart => exact ⟨some bb, scs, rfl, rfl, HAR, hid rfl⟩
 case round =>
  obtain ⟨ab, r, rfl, rfl, HA, HL⟩ := hrel
  cases ab with
  | some a =>
   cases r with
   | nil => exact HA.out.elim
   | cons s r =>
    obtain ⟨cs, ab', h1, h2, h3, h4, h5⟩ := HA.out
    have c1 : wr.cell? ⟨a, 1, none⟩ = some (ptrV ab') := (blk h1).1 1 _ h2
    have c2 : wr.cell? ⟨a, 2, none⟩ = some (.int .i64 (s.f : Int)) := (blk h1).1 2 _ h3
    have PN1 : ∀ W, (binOp .neq 135 (.pointer (some ⟨a, 0, none⟩)) (.pointer none)).run Tryz.prog W = .ok (.bool true) W := fun W => PN W (some a)
    have HA5 := hid h5
    have HA4 := hid h4
    clear h1 h2 h3 h4 h5 HA
    by_cases hsg : s.f = g
    ·have q1 : ((s.f : Int) == (g : Int)) = true := by rw [hsg]; simp
     have HF : Hid (false = R) := hid (by
      have h := HR.out
      rw [HL.out, List.all_cons, decide_eq_false (show ¬ (s.f ≠ g) from fun e => e hsg)] at h
      simpa using h)
     clear hsg
     unfold ptrV
     go_wp2_with fail
     go_ret
     exact ⟨by rw [← HF.out]; rfl, Below.refl _ _⟩
    ·have q1 : ((s.f : Int) == (g : Int)) = false := by simpa using fun e => hsg (by omega)
     have HL2 : Hid ((scs.all fun sc => decide (sc.f ≠ g)) = r.all fun sc => decide (sc.f ≠ g)) := hid (by
      rw [HL.out, List.all_cons, decide_eq_true hsg, Bool.true_and])
     clear hsg
     unfold ptrV
     cases ab' with
     | none =>
      have c1' : wr.cell? ⟨a, 1, none⟩ = some (.pointer none) := c1
      clear c1
      go_wp2_with fail
      go_roundw
      case rel => exact ⟨none, r, (by first | trivial | rfl), (by first | trivial | rfl), HA5, HL2⟩
      case measure => simp [blkV]
     | some a' =>
      have c1' : wr.cell? ⟨a, 1, none⟩ = some (.pointer (some ⟨a', 0, none⟩)) := c1
      have hlt := HA4.out a' rfl
      clear c1
      go_wp2_with fail
      go_roundw
      case rel => exact ⟨some a', r, (by first | trivial | rfl), (by first | trivial | rfl), HA5, HL2⟩
      case measure => simp [blkV]; omega
  | none =>
   cases r with
   | cons s r => exact HA.out.elim
   | nil =>
    have PN1 : ∀ W, (binOp .neq 135 (.pointer none) (.pointer none)).run Tryz.prog W = .ok (.bool false) W := fun W => PN W none
    have HR1 : Hid ((!(decide (K.E.inl ≤ scs.length - 1) || (decide (9 < z - (g : Int)) || decide (200 ≤ X.length)))) = R) := hid (by
     have h := HR.out
     rw [HL.out] at h
     simpa using h)
    clear HA HL HR PN
    unfold ptrV
    go_upto_region 6 with fail
    obtain ⟨s3, s0, sk2, sk0, sk8⟩ := S0.out
    by_cases c1 : K.E.inl ≤ scs.length - 1
    ·have q1 : decide (scs.length - 1 < K.E.inl) = false := by rw [decide_eq_false_iff_not]; omega
     have q1' : decide (((scs.length - 1 : Nat) : Int) < (K.E.inl : Int)) = false := by rw [decide_eq_false_iff_not]; omega
     have HQ : Hid (false = R) := hid (by have h := HR1.out; rw [decide_eq_true c1] at h; simpa using h)
     clear c1
     go_quiet (fail)
     go_wp2
     go_ret
     exact ⟨by rw [← HQ.out]; rfl, B0.out _⟩
    ·have q1 : decide (scs.length - 1 < K.E.inl) = true := by rw [decide_eq_true_eq]; omega
     have q1' : decide (((scs.length - 1 : Nat) : Int) < (K.E.inl : Int)) = true := by rw [decide_eq_true_eq]; omega
     by_cases c2 : 9 < z - (g : Int)
     ·have q2 : decide (z - (g : Int) ≤ 9) = false := by rw [decide_eq_false_iff_not]; omega
      have HQ : Hid (false = R) := hid (by have h := HR1.out; rw [decide_eq_true c2] at h; simpa using h)
      clear c1 c2
      refine E_start (S := (fun w' => w'.cell? ⟨bb, 3, none⟩ = some (.slice ha (scs.length - 1) hcq) ∧ w'.cell? ⟨bb, 0, none⟩ = some (.pointer (some ⟨cb, 0, none⟩)) ∧ w'.cell? ⟨cb, 2, none⟩ = some (.int .i64 (K.E.inl : Int)) ∧ w'.cell? ⟨cb, 0, none⟩ = some (.slice pa PX.length pc) ∧ w'.cell? ⟨cb, 8, none⟩ = some (.slice va X.length vc))) 38 (by kernel_rfl) (S0.out) (fun hHeld => ?_)
      refine E_take (i := 0) (oi := _) (v := ?_) rfl (by kernel_rfl) (fun _ _ _ h => h) ?_ (by assumption) ?_
      rotate_left 1
      ·(refine Or.inl ⟨by rfl, ?_⟩; intro w hSw; (try dsimp only at hSw); (try simp only [eA1, eA2, eA3]); go_simp; (first | done | with_reducible rfl))
      try simp only [Act.put, eS1, eS2, eS3, eA1, eA2, eA3]
      refine E_take (i := 1) (oi := _) (v := ?_) rfl (by kernel_rfl) (fun _ _ _ h => h) ?_ (by assumption) ?_
      rotate_left 1
      ·(refine Or.inl ⟨by rfl, ?_⟩; intro w hSw; (try dsimp only at hSw); (try simp only [eA1, eA2, eA3]); go_simp; (first | done | with_reducible rfl))
      try simp only [Act.put, eS1, eS2, eS3, eA1, eA2, eA3]
      refine E_take (i := 2) (oi := _) (v := ?_) rfl (by kernel_rfl) (fun _ _ _ h => h) ?_ (by assumption) ?_
      rotate_left 1
      ·(refine Or.inl ⟨by rfl, ?_⟩; intro w hSw; (try dsimp only at hSw); (try simp only [eA1, eA2, eA3]); go_simp; (first | done | with_reducible rfl))
      try simp only [Act.put, eS1, eS2, eS3, eA1, eA2, eA3]
      refine E_take (i := 3) (oi := _) (v := ?_) rfl (by kernel_rfl) (fun _ _ _ h => h) ?_ (by assumption) ?_
      rotate_left 1
      ·(refine Or.inl ⟨by rfl, ?_⟩; intro w hSw; (try dsimp only at hSw); (try simp only [eA1, eA2, eA3]); go_simp; (first | done | with_reducible rfl))
      try simp only [Act.put, eS1, eS2, eS3, eA1, eA2, eA3]
      refine E_take (i := 4) (oi := _) (v := ?_) rfl (by kernel_rfl) (fun _ _ _ h => h) ?_ (by assumption) ?_
      rotate_left 1
      ·(refine Or.inl ⟨by rfl, ?_⟩; intro w hSw; (try dsimp only at hSw); (try simp only [eA1, eA2, eA3]); go_simp; (first | done | with_reducible rfl))
      try simp only [Act.put, eS1, eS2, eS3, eA1, eA2, eA3]
      refine E_take (i := 5) (oi := _) (v := ?_) rfl (by kernel_rfl) (fun _ _ _ h => h) ?_ (by assumption) ?_
      rotate_left 1
      ·(refine Or.inl ⟨by rfl, ?_⟩; intro w hSw; (try dsimp only at hSw); (try simp only [eA1, eA2, eA3]); go_simp; (first | done | with_reducible rfl))
      try simp only [Act.put, eS1, eS2, eS3, eA1, eA2, eA3]
      refine E_take (i := 6) (oi := _) (v := ?_) rfl (by kernel_rfl) (fun _ _ _ h => h) ?_ (by assumption) ?_
      rotate_left 1
      ·(refine Or.inl ⟨by rfl, ?_⟩; intro w hSw; (try dsimp only at hSw); (try simp only [eA1, eA2, eA3]); go_simp; (first | done | with_reducible rfl))
      try simp only [Act.put, eS1, eS2, eS3, eA1, eA2, eA3]
      refine E_take (i := 7) (oi := _) (v := ?_) rfl (by kernel_rfl) (fun _ _ _ h => h) ?_ (by assumption) ?_
      rotate_left 1
      ·(refine Or.inl ⟨by rfl, ?_⟩; intro w hSw; (try dsimp only at hSw); (try simp only [eA1, eA2, eA3]); go_simp; (first | done | with_reducible rfl))
      try simp only [Act.put, eS1, eS2, eS3, eA1, eA2, eA3]
      refine E_take (i := 8) (oi := _) (v := ?_) rfl (by kernel_rfl) (fun _ _ _ h => h) ?_ (by assumption) ?_
      rotate_left 1
      ·(refine Or.inl ⟨by rfl, ?_⟩; intro w hSw; (try dsimp only at hSw); (try simp only [eA1, eA2, eA3]); go_simp; (first | done | with_reducible rfl))
      try simp only [Act.put, eS1, eS2, eS3, eA1, eA2, eA3]
      refine E_take (i := 9) (oi := _) (v := ?_) rfl (by kernel_rfl) (fun _ _ _ h => h) ?_ (by assumption) ?_
      rotate_left 1
      ·(refine Or.inl ⟨by rfl, ?_⟩; intro w hSw; (try dsimp only at hSw); (try simp only [eA1, eA2, eA3]); go_simp; (first | done | with_reducible rfl))
      try simp only [Act.put, eS1, eS2, eS3, eA1, eA2, eA3]
      refine E_take (i := 10) (oi := _) (v := ?_) rfl (by kernel_rfl) (fun _ _ _ h => h) ?_ (by assumption) ?_
      rotate_left 1
      ·(refine Or.inl ⟨by rfl, ?_⟩; intro w hSw; (try dsimp only at hSw); (try simp only [eA1, eA2, eA3]); go_simp; (first | done | with_reducible rfl))
      try simp only [Act.put, eS1, eS2, eS3, eA1, eA2, eA3]
      refine E_take (i := 11) (oi := _) (v := ?_) rfl (by kernel_rfl) (fun _ _ _ h => h) ?_ (by assumption) ?_
      rotate_left 1
      ·(refine Or.inl ⟨by rfl, ?_⟩; intro w hSw; (try dsimp only at hSw); (try simp only [eA1, eA2, eA3]); go_simp; (first | done | with_reducible rfl))
      try simp only [Act.put, eS1, eS2, eS3, eA1, eA2, eA3]
      refine E_take (i := 12) (oi := _) (v := ?_) rfl (by kernel_rfl) (fun _ _ _ h => h) ?_ (by assumption) ?_
      rotate_left 1
      ·(refine Or.inl ⟨by rfl, ?_⟩; intro w hSw; (try dsimp only at hSw); (try simp only [eA1, eA2, eA3]); go_simp; (first | done | with_reducible rfl))
      try simp only [Act.put, eS1, eS2, eS3, eA1, eA2, eA3]
      refine E_take (i := 13) (oi := _) (v := ?_) rfl (by kernel_rfl) (fun _ _ _ h => h) ?_ (by assumption) ?_
      rotate_left 1
      ·(refine Or.inl ⟨by rfl, ?_⟩; intro w hSw; (try dsimp only at hSw); (try simp only [eA1, eA2, eA3]); go_simp; (first | done | with_reducible rfl))
      try simp only [Act.put, eS1, eS2, eS3, eA1, eA2, eA3]
      refine E_take (i := 14) (oi := _) (v := ?_) rfl (by kernel_rfl) (fun _ _ _ h => h) ?_ (by assumption) ?_
      rotate_left 1
      ·(refine Or.inl ⟨by rfl, ?_⟩; intro w hSw; (try dsimp only at hSw); (try simp only [eA1, eA2, eA3]); go_simp; (first | done | with_reducible rfl))
      try simp only [Act.put, eS1, eS2, eS3, eA1, eA2, eA3]
      refine E_take (i := 15) (oi := _) (v := ?_) rfl (by kernel_rfl) (fun _ _ _ h => h) ?_ (by assumption) ?_
      rotate_left 1
      ·(refine Or.inl ⟨by rfl, ?_⟩; intro w hSw; (try dsimp only at hSw); (try simp only [eA1, eA2, eA3]); go_simp; (first | done | with_reducible rfl))
      try simp only [Act.put, eS1, eS2, eS3, eA1, eA2, eA3]
      refine E_take (i := 16) (oi := _) (v := ?_) rfl (by kernel_rfl) (fun _ _ _ h => h) ?_ (by assumption) ?_
      rotate_left 1
      ·(refine Or.inl ⟨by rfl, ?_⟩; intro w hSw; (try dsimp only at hSw); (try simp only [eA1, eA2, eA3]); go_simp; (first | done | with_reducible rfl))
      try simp only [Act.put, eS1, eS2, eS3, eA1, eA2, eA3]
      refine E_take (i := 17) (oi := _) (v := ?_) rfl (by kernel_rfl) (fun _ _ _ h => h) ?_ (by assumption) ?_
      rotate_left 1
      ·(refine Or.inl ⟨by rfl, ?_⟩; intro w hSw; (try dsimp only at hSw); (try simp only [eA1, eA2, eA3]); go_simp; (first | done | with_reducible rfl))
      try simp only [Act.put, eS1, eS2, eS3, eA1, eA2, eA3]
      refine E_take (i := 18) (oi := _) (v := ?_) rfl (by kernel_rfl) (fun _ _ _ h => h) ?_ (by assumption) ?_
      rotate_left 1
      ·(refine Or.inl ⟨by rfl, ?_⟩; intro w hSw; (try dsimp only at hSw); (try simp only [eA1, eA2, eA3]); go_simp; (first | done | with_reducible rfl))
      try simp only [Act.put, eS1, eS2, eS3, eA1, eA2, eA3]
      refine E_take (i := 19) (oi := _) (v := ?_) rfl (by kernel_rfl) (fun _ _ _ h => h) ?_ (by assumption) ?_
      rotate_left 1
      ·(refine Or.inl ⟨by rfl, ?_⟩; intro w hSw; (try dsimp only at hSw); (try simp only [eA1, eA2, eA3]); go_simp; (first | done | with_reducible rfl))
      try simp only [Act.put, eS1, eS2, eS3, eA1, eA2, eA3]
      refine E_take (i := 20) (oi := _) (v := ?_) rfl (by kernel_rfl) (fun _ _ _ h => h) ?_ (by assumption) ?_
      rotate_left 1
      ·(refine Or.inl ⟨by rfl, ?_⟩; intro w hSw; (try dsimp only at hSw); (try simp only [eA1, eA2, eA3]); go_simp; (first | done | with_reducible rfl))
      try simp only [Act.put, eS1, eS2, eS3, eA1, eA2, eA3]
      refine E_take (i := 21) (oi := _) (v := ?_) rfl (by kernel_rfl) (fun _ _ _ h => h) ?_ (by assumption) ?_
      rotate_left 1
      ·(refine Or.inl ⟨by rfl, ?_⟩; intro w hSw; (try dsimp only at hSw); (try simp only [eA1, eA2, eA3]); go_simp; (first | done | with_reducible rfl))
      try simp only [Act.put, eS1, eS2, eS3, eA1, eA2, eA3]
      refine E_take (i := 23) (oi := _) (v := ?_) rfl (by kernel_rfl) (fun _ _ _ h => h) ?_ (by assumption) ?_
      rotate_left 1
      ·(refine Or.inl ⟨by rfl, ?_⟩; intro w hSw; (try dsimp only at hSw); (try simp only [eA1, eA2, eA3]); go_simp; (first | done | with_reducible rfl))
      try simp only [Act.put, eS1, eS2, eS3, eA1, eA2, eA3]
      refine E_ready (rs := [22]) (by kernel_rfl) (by decide) ?_
      refine AllE.cons (o := _) rfl (fun K hK => ?_) AllE.nil
      try simp only [eA1, eA2, eA3]
      go_simp
      refine (EN.out _ B1.out).mono ?_
      rintro e w1 ⟨rfl, b1⟩
      go_wp2_with fail
      have HB1 : Hid (Below wr.heap.size wr w1) := hid (B1.out.trans b1)
      clear b1
      have S1 := hid (HS4.out _ HB1.out)
      refine hK.out _ _ S1.out (fun hHeld => ?_)
      clear hK K
      try simp only [Act.put, eS1, eS2, eS3, eA1, eA2, eA3]
      refine E_take (i := 24) (oi := _) (v := ?_) rfl (by kernel_rfl) (fun _ _ _ h => h) ?_ (by assumption) ?_
      rotate_left 1
      ·(refine Or.inl ⟨by rfl, ?_⟩; intro w hSw; (try dsimp only at hSw); (try simp only [eA1, eA2, eA3]); go_simp; (first | done | with_reducible rfl))
      try simp only [Act.put, eS1, eS2, eS3, eA1, eA2, eA3]
      refine E_take (i := 25) (oi := _) (v := ?_) rfl (by kernel_rfl) (fun _ _ _ h => h) ?_ (by assumption) ?_
      rotate_left 1
      ·(refine Or.inl ⟨by rfl, ?_⟩; intro w hSw; (try dsimp only at hSw); (try simp only [eA1, eA2, eA3]); go_simp; (first | done | with_reducible rfl))
      try simp only [Act.put, eS1, eS2, eS3, eA1, eA2, eA3]
      refine E_take (i := 26) (oi := _) (v := ?_) rfl (by kernel_rfl) (fun _ _ _ h => h) ?_ (by assumption) ?_
      rotate_left 1
      ·(refine Or.inl ⟨by rfl, ?_⟩; intro w hSw; (try dsimp only at hSw); (try simp only [eA1, eA2, eA3]); go_simp; (first | done | with_reducible rfl))
      try simp only [Act.put, eS1, eS2, eS3, eA1, eA2, eA3]
      refine E_take (i := 27) (oi := _) (v := ?_) rfl (by kernel_rfl) (fun _ _ _ h => h) ?_ (by assumption) ?_
      rotate_left 1
      ·(refine Or.inl ⟨by rfl, ?_⟩; intro w hSw; (try dsimp only at hSw); (try simp only [eA1, eA2, eA3]); go_simp; (first | done | with_reducible rfl))
      try simp only [Act.put, eS1, eS2, eS3, eA1, eA2, eA3]
      refine E_take (i := 28) (oi := _) (v := undef) rfl (by kernel_rfl) (fun _ _ _ h => h) (Or.inr ⟨by kernel_rfl, rfl⟩) (by assumption) ?_
      try simp only [Act.put, eS1, eS2, eS3, eA1, eA2, eA3]
      refine E_take (i := 29) (oi := _) (v := undef) rfl (by kernel_rfl) (fun _ _ _ h => h) (Or.inr ⟨by kernel_rfl, rfl⟩) (by assumption) ?_
      try simp only [Act.put, eS1, eS2, eS3, eA1, eA2, eA3]
      refine E_take (i := 30) (oi := _) (v := undef) rfl (by kernel_rfl) (fun _ _ _ h => h) (Or.inr ⟨by kernel_rfl, rfl⟩) (by assumption) ?_
      try simp only [Act.put, eS1, eS2, eS3, eA1, eA2, eA3]
      refine E_take (i := 31) (oi := _) (v := undef) rfl (by kernel_rfl) (fun _ _ _ h => h) (Or.inr ⟨by kernel_rfl, rfl⟩) (by assumption) ?_
      try simp only [Act.put, eS1, eS2, eS3, eA1, eA2, eA3]
      refine E_take (i := 32) (oi := _) (v := undef) rfl (by kernel_rfl) (fun _ _ _ h => h) (Or.inr ⟨by kernel_rfl, rfl⟩) (by assumption) ?_
      try simp only [Act.put, eS1, eS2, eS3, eA1, eA2, eA3]
      refine E_take (i := 33) (oi := _) (v := undef) rfl (by kernel_rfl) (fun _ _ _ h => h) (Or.inr ⟨by kernel_rfl, rfl⟩) (by assumption) ?_
      try simp only [Act.put, eS1, eS2, eS3, eA1, eA2, eA3]
      refine E_take (i := 34) (oi := _) (v := undef) rfl (by kernel_rfl) (fun _ _ _ h => h) (Or.inr ⟨by kernel_rfl, rfl⟩) (by assumption) ?_
      try simp only [Act.put, eS1, eS2, eS3, eA1, eA2, eA3]
      refine E_take (i := 35) (oi := _) (v := undef) rfl (by kernel_rfl) (fun _ _ _ h => h) (Or.inr ⟨by kernel_rfl, rfl⟩) (by assumption) ?_
      try simp only [Act.put, eS1, eS2, eS3, eA1, eA2, eA3]
      refine E_take (i := 36) (oi := _) (v := undef) rfl (by kernel_rfl) (fun _ _ _ h => h) (Or.inr ⟨by kernel_rfl, rfl⟩) (by assumption) ?_
      try simp only [Act.put, eS1, eS2, eS3, eA1, eA2, eA3]
      refine E_take (i := 37) (oi := _) (v := ?_) rfl (by kernel_rfl) (fun _ _ _ h => h) ?_ (by assumption) ?_
      rotate_left 1
      ·(refine Or.inl ⟨by rfl, ?_⟩; intro w hSw; (try dsimp only at hSw); (try simp only [eA1, eA2, eA3]); go_simp; (first | done | with_reducible rfl))
      try simp only [Act.put, eS1, eS2, eS3, eA1, eA2, eA3]
      refine E_last (o := _) (by kernel_rfl) rfl (by kernel_rfl) (fun K hK => ?_)
      try simp only [eA1, eA2, eA3]
      go_simp
      refine hK.out _ _ ?_
      clear hK K
      go_wp2
      go_ret
      exact ⟨by rw [← HQ.out]; rfl, HB1.out⟩
     ·have q2 : decide (z - (g : Int) ≤ 9) = true := by rw [decide_eq_true_eq]; omega
      have HQ : Hid (decide ((X.length : Int) < 200) = R) := hid (by
       have h := HR1.out
       rw [decide_eq_false c1, decide_eq_false c2] at h
       rw [← h]
       by_cases hx : X.length < 200
       ·rw [decide_eq_true (show (X.length : Int) < 200 from by omega), decide_eq_false (show ¬ 200 ≤ X.length from by omega)]; rfl
       ·rw [decide_eq_false (show ¬ (X.length : Int) < 200 from by omega), decide_eq_true (show 200 ≤ X.length from by omega)]; rfl)
      clear c1 c2
      refine E_start (S := (fun w' => w'.cell? ⟨bb, 3, none⟩ = some (.slice ha (scs.length - 1) hcq) ∧ w'.cell? ⟨bb, 0, none⟩ = some (.pointer (some ⟨cb, 0, none⟩)) ∧ w'.cell? ⟨cb, 2, none⟩ = some (.int .i64 (K.E.inl : Int)) ∧ w'.cell? ⟨cb, 0, none⟩ = some (.slice pa PX.length pc) ∧ w'.cell? ⟨cb, 8, none⟩ = some (.slice va X.length vc))) 38 (by kernel_rfl) (S0.out) (fun hHeld => ?_)
      refine E_take (i := 0) (oi := _) (v := ?_) rfl (by kernel_rfl) (fun _ _ _ h => h) ?_ (by assumption) ?_
      rotate_left 1
      ·(refine Or.inl ⟨by rfl, ?_⟩; intro w hSw; (try dsimp only at hSw); (try simp only [eA1, eA2, eA3]); go_simp; (first | done | with_reducible rfl))
      try simp only [Act.put, eS1, eS2, eS3, eA1, eA2, eA3]
      refine E_take (i := 1) (oi := _) (v := ?_) rfl (by kernel_rfl) (fun _ _ _ h => h) ?_ (by assumption) ?_
      rotate_left 1
      ·(refine Or.inl ⟨by rfl, ?_⟩; intro w hSw; (try dsimp only at hSw); (try simp only [eA1, eA2, eA3]); go_simp; (first | done | with_reducible rfl))
      try simp only [Act.put, eS1, eS2, eS3, eA1, eA2, eA3]
      refine E_take (i := 2) (oi := _) (v := ?_) rfl (by kernel_rfl) (fun _ _ _ h => h) ?_ (by assumption) ?_
      rotate_left 1
      ·(refine Or.inl ⟨by rfl, ?_⟩; intro w hSw; (try dsimp only at hSw); (try simp only [eA1, eA2, eA3]); go_simp; (first | done | with_reducible rfl))
      try simp only [Act.put, eS1, eS2, eS3, eA1, eA2, eA3]
      refine E_take (i := 3) (oi := _) (v := ?_) rfl (by kernel_rfl) (fun _ _ _ h => h) ?_ (by assumption) ?_
      rotate_left 1
      ·(refine Or.inl ⟨by rfl, ?_⟩; intro w hSw; (try dsimp only at hSw); (try simp only [eA1, eA2, eA3]); go_simp; (first | done | with_reducible rfl))
      try simp only [Act.put, eS1, eS2, eS3, eA1, eA2, eA3]
      refine E_take (i := 4) (oi := _) (v := ?_) rfl (by kernel_rfl) (fun _ _ _ h => h) ?_ (by assumption) ?_
      rotate_left 1
      ·(refine Or.inl ⟨by rfl, ?_⟩; intro w hSw; (try dsimp only at hSw); (try simp only [eA1, eA2, eA3]); go_simp; (first | done | with_reducible rfl))
      try simp only [Act.put, eS1, eS2, eS3, eA1, eA2, eA3]
      refine E_take (i := 5) (oi := _) (v := ?_) rfl (by kernel_rfl) (fun _ _ _ h => h) ?_ (by assumption) ?_
      rotate_left 1
      ·(refine Or.inl ⟨by rfl, ?_⟩; intro w hSw; (try dsimp only at hSw); (try simp only [eA1, eA2, eA3]); go_simp; (first | done | with_reducible rfl))
      try simp only [Act.put, eS1, eS2, eS3, eA1, eA2, eA3]
      refine E_take (i := 6) (oi := _) (v := ?_) rfl (by kernel_rfl) (fun _ _ _ h => h) ?_ (by assumption) ?_
      rotate_left 1
      ·(refine Or.inl ⟨by rfl, ?_⟩; intro w hSw; (try dsimp only at hSw); (try simp only [eA1, eA2, eA3]); go_simp; (first | done | with_reducible rfl))
      try simp only [Act.put, eS1, eS2, eS3, eA1, eA2, eA3]
      refine E_take (i := 7) (oi := _) (v := ?_) rfl (by kernel_rfl) (fun _ _ _ h => h) ?_ (by assumption) ?_
      rotate_left 1
      ·(refine Or.inl ⟨by rfl, ?_⟩; intro w hSw; (try dsimp only at hSw); (try simp only [eA1, eA2, eA3]); go_simp; (first | done | with_reducible rfl))
      try simp only [Act.put, eS1, eS2, eS3, eA1, eA2, eA3]
      refine E_take (i := 8) (oi := _) (v := ?_) rfl (by kernel_rfl) (fun _ _ _ h => h) ?_ (by assumption) ?_
      rotate_left 1
      ·(refine Or.inl ⟨by rfl, ?_⟩; intro w hSw; (try dsimp only at hSw); (try simp only [eA1, eA2, eA3]); go_simp; (first | done | with_reducible rfl))
      try simp only [Act.put, eS1, eS2, eS3, eA1, eA2, eA3]
      refine E_take (i := 9) (oi := _) (v := ?_) rfl (by kernel_rfl) (fun _ _ _ h => h) ?_ (by assumption) ?_
      rotate_left 1
      ·(refine Or.inl ⟨by rfl, ?_⟩; intro w hSw; (try dsimp only at hSw); (try simp only [eA1, eA2, eA3]); go_simp; (first | done | with_reducible rfl))
      try simp only [Act.put, eS1, eS2, eS3, eA1, eA2, eA3]
      refine E_take (i := 10) (oi := _) (v := ?_) rfl (by kernel_rfl) (fun _ _ _ h => h) ?_ (by assumption) ?_
      rotate_left 1
      ·(refine Or.inl ⟨by rfl, ?_⟩; intro w hSw; (try dsimp only at hSw); (try simp only [eA1, eA2, eA3]); go_simp; (first | done | with_reducible rfl))
      try simp only [Act.put, eS1, eS2, eS3, eA1, eA2, eA3]
      refine E_take (i := 11) (oi := _) (v := ?_) rfl (by kernel_rfl) (fun _ _ _ h => h) ?_ (by assumption) ?_
      rotate_left 1
      ·(refine Or.inl ⟨by rfl, ?_⟩; intro w hSw; (try dsimp only at hSw); (try simp only [eA1, eA2, eA3]); go_simp; (first | done | with_reducible rfl))
      try simp only [Act.put, eS1, eS2, eS3, eA1, eA2, eA3]
      refine E_take (i := 12) (oi := _) (v := ?_) rfl (by kernel_rfl) (fun _ _ _ h => h) ?_ (by assumption) ?_
      rotate_left 1
      ·(refine Or.inl ⟨by rfl, ?_⟩; intro w hSw; (try dsimp only at hSw); (try simp only [eA1, eA2, eA3]); go_simp; (first | done | with_reducible rfl))
      try simp only [Act.put, eS1, eS2, eS3, eA1, eA2, eA3]
      refine E_take (i := 13) (oi := _) (v := ?_) rfl (by kernel_rfl) (fun _ _ _ h => h) ?_ (by assumption) ?_
      rotate_left 1
      ·(refine Or.inl ⟨by rfl, ?_⟩; intro w hSw; (try dsimp only at hSw); (try simp only [eA1, eA2, eA3]); go_simp; (first | done | with_reducible rfl))
      try simp only [Act.put, eS1, eS2, eS3, eA1, eA2, eA3]
      refine E_take (i := 14) (oi := _) (v := ?_) rfl (by kernel_rfl) (fun _ _ _ h => h) ?_ (by assumption) ?_
      rotate_left 1
      ·(refine Or.inl ⟨by rfl, ?_⟩; intro w hSw; (try dsimp only at hSw); (try simp only [eA1, eA2, eA3]); go_simp; (first | done | with_reducible rfl))
      try simp only [Act.put, eS1, eS2, eS3, eA1, eA2, eA3]
      refine E_take (i := 15) (oi := _) (v := ?_) rfl (by kernel_rfl) (fun _ _ _ h => h) ?_ (by assumption) ?_
      rotate_left 1
      ·(refine Or.inl ⟨by rfl, ?_⟩; intro w hSw; (try dsimp only at hSw); (try simp only [eA1, eA2, eA3]); go_simp; (first | done | with_reducible rfl))
      try simp only [Act.put, eS1, eS2, eS3, eA1, eA2, eA3]
      refine E_take (i := 16) (oi := _) (v := ?_) rfl (by kernel_rfl) (fun _ _ _ h => h) ?_ (by assumption) ?_
      rotate_left 1
      ·(refine Or.inl ⟨by rfl, ?_⟩; intro w hSw; (try dsimp only at hSw); (try simp only [eA1, eA2, eA3]); go_simp; (first | done | with_reducible rfl))
      try simp only [Act.put, eS1, eS2, eS3, eA1, eA2, eA3]
      refine E_take (i := 17) (oi := _) (v := ?_) rfl (by kernel_rfl) (fun _ _ _ h => h) ?_ (by assumption) ?_
      rotate_left 1
      ·(refine Or.inl ⟨by rfl, ?_⟩; intro w hSw; (try dsimp only at hSw); (try simp only [eA1, eA2, eA3]); go_simp; (first | done | with_reducible rfl))
      try simp only [Act.put, eS1, eS2, eS3, eA1, eA2, eA3]
      refine E_take (i := 18) (oi := _) (v := ?_) rfl (by kernel_rfl) (fun _ _ _ h => h) ?_ (by assumption) ?_
      rotate_left 1
      ·(refine Or.inl ⟨by rfl, ?_⟩; intro w hSw; (try dsimp only at hSw); (try simp only [eA1, eA2, eA3]); go_simp; (first | done | with_reducible rfl))
      try simp only [Act.put, eS1, eS2, eS3, eA1, eA2, eA3]
      refine E_take (i := 19) (oi := _) (v := ?_) rfl (by kernel_rfl) (fun _ _ _ h => h) ?_ (by assumption) ?_
      rotate_left 1
      ·(refine Or.inl ⟨by rfl, ?_⟩; intro w hSw; (try dsimp only at hSw); (try simp only [eA1, eA2, eA3]); go_simp; (first | done | with_reducible rfl))
      try simp only [Act.put, eS1, eS2, eS3, eA1, eA2, eA3]
      refine E_take (i := 20) (oi := _) (v := ?_) rfl (by kernel_rfl) (fun _ _ _ h => h) ?_ (by assumption) ?_
      rotate_left 1
      ·(refine Or.inl ⟨by rfl, ?_⟩; intro w hSw; (try dsimp only at hSw); (try simp only [eA1, eA2, eA3]); go_simp; (first | done | with_reducible rfl))
      try simp only [Act.put, eS1, eS2, eS3, eA1, eA2, eA3]
      refine E_take (i := 21) (oi := _) (v := ?_) rfl (by kernel_rfl) (fun _ _ _ h => h) ?_ (by assumption) ?_
      rotate_left 1
      ·(refine Or.inl ⟨by rfl, ?_⟩; intro w hSw; (try dsimp only at hSw); (try simp only [eA1, eA2, eA3]); go_simp; (first | done | with_reducible rfl))
      try simp only [Act.put, eS1, eS2, eS3, eA1, eA2, eA3]
      refine E_take (i := 23) (oi := _) (v := ?_) rfl (by kernel_rfl) (fun _ _ _ h => h) ?_ (by assumption) ?_
      rotate_left 1
      ·(refine Or.inl ⟨by rfl, ?_⟩; intro w hSw; (try dsimp only at hSw); (try simp only [eA1, eA2, eA3]); go_simp; (first | done | with_reducible rfl))
      try simp only [Act.put, eS1, eS2, eS3, eA1, eA2, eA3]
      refine E_ready (rs := [22]) (by kernel_rfl) (by decide) ?_
      refine AllE.cons (o := _) rfl (fun K hK => ?_) AllE.nil
      try simp only [eA1, eA2, eA3]
      go_simp
      refine (EN.out _ B1.out).mono ?_
      rintro e w1 ⟨rfl, b1⟩
      go_wp2_with fail
      have HB1 : Hid (Below wr.heap.size wr w1) := hid (B1.out.trans b1)
      clear b1
      have S1 := hid (HS4.out _ HB1.out)
      refine hK.out _ _ S1.out (fun hHeld => ?_)
      clear hK K
      try simp only [Act.put, eS1, eS2, eS3, eA1, eA2, eA3]
      refine E_take (i := 24) (oi := _) (v := ?_) rfl (by kernel_rfl) (fun _ _ _ h => h) ?_ (by assumption) ?_
      rotate_left 1
      ·(refine Or.inl ⟨by rfl, ?_⟩; intro w hSw; (try dsimp only at hSw); (try simp only [eA1, eA2, eA3]); go_simp; (first | done | with_reducible rfl))
      try simp only [Act.put, eS1, eS2, eS3, eA1, eA2, eA3]
      refine E_take (i := 25) (oi := _) (v := ?_) rfl (by kernel_rfl) (fun _ _ _ h => h) ?_ (by assumption) ?_
      rotate_left 1
      ·(refine Or.inl ⟨by rfl, ?_⟩; intro w hSw; (try dsimp only at hSw); (try simp only [eA1, eA2, eA3]); go_simp; (first | done | with_reducible rfl))
      try simp only [Act.put, eS1, eS2, eS3, eA1, eA2, eA3]
      refine E_take (i := 26) (oi := _) (v := ?_) rfl (by kernel_rfl) (fun _ _ _ h => h) ?_ (by assumption) ?_
      rotate_left 1
      ·(refine Or.inl ⟨by rfl, ?_⟩; intro w hSw; (try dsimp only at hSw); (try simp only [eA1, eA2, eA3]); go_simp; (first | done | with_reducible rfl))
      try simp only [Act.put, eS1, eS2, eS3, eA1, eA2, eA3]
      refine E_take (i := 27) (oi := _) (v := ?_) rfl (by kernel_rfl) (fun _ _ _ h => h) ?_ (by assumption) ?_
      rotate_left 1
      ·(refine Or.inl ⟨by rfl, ?_⟩; intro w hSw; (try dsimp only at hSw); (try simp only [eA1, eA2, eA3]); go_simp; (first | done | with_reducible rfl))
      try simp only [Act.put, eS1, eS2, eS3, eA1, eA2, eA3]
      refine E_take (i := 28) (oi := _) (v := ?_) rfl (by kernel_rfl) (fun _ _ _ h => h) ?_ (by assumption) ?_
      rotate_left 1
      ·(refine Or.inl ⟨by rfl, ?_⟩; intro w hSw; (try dsimp only at hSw); (try simp only [eA1, eA2, eA3]); go_simp; (first | done | with_reducible rfl))
      try simp only [Act.put, eS1, eS2, eS3, eA1, eA2, eA3]
      refine E_take (i := 29) (oi := _) (v := ?_) rfl (by kernel_rfl) (fun _ _ _ h => h) ?_ (by assumption) ?_
      rotate_left 1
      ·(refine Or.inl ⟨by rfl, ?_⟩; intro w hSw; (try dsimp only at hSw); (try simp only [eA1, eA2, eA3]); go_simp; (first | done | with_reducible rfl))
      try simp only [Act.put, eS1, eS2, eS3, eA1, eA2, eA3]
      refine E_take (i := 30) (oi := _) (v := ?_) rfl (by kernel_rfl) (fun _ _ _ h => h) ?_ (by assumption) ?_
      rotate_left 1
      ·(refine Or.inl ⟨by rfl, ?_⟩; intro w hSw; (try dsimp only at hSw); (try simp only [eA1, eA2, eA3]); go_simp; (first | done | with_reducible rfl))
      try simp only [Act.put, eS1, eS2, eS3, eA1, eA2, eA3]
      refine E_take (i := 31) (oi := _) (v := ?_) rfl (by kernel_rfl) (fun _ _ _ h => h) ?_ (by assumption) ?_
      rotate_left 1
      ·(refine Or.inl ⟨by rfl, ?_⟩; intro w hSw; (try dsimp only at hSw); (try simp only [eA1, eA2, eA3]); go_simp; (first | done | with_reducible rfl))
      try simp only [Act.put, eS1, eS2, eS3, eA1, eA2, eA3]
      refine E_take (i := 32) (oi := _) (v := ?_) rfl (by kernel_rfl) (fun _ _ _ h => h) ?_ (by assumption) ?_
      rotate_left 1
      ·(refine Or.inl ⟨by rfl, ?_⟩; intro w hSw; (try dsimp only at hSw); (try simp only [eA1, eA2, eA3]); go_simp; (first | done | with_reducible rfl))
      try simp only [Act.put, eS1, eS2, eS3, eA1, eA2, eA3]
      refine E_take (i := 33) (oi := _) (v := ?_) rfl (by kernel_rfl) (fun _ _ _ h => h) ?_ (by assumption) ?_
      rotate_left 1
      ·(refine Or.inl ⟨by rfl, ?_⟩; intro w hSw; (try dsimp only at hSw); (try simp only [eA1, eA2, eA3]); go_simp; (first | done | with_reducible rfl))
      try simp only [Act.put, eS1, eS2, eS3, eA1, eA2, eA3]
      refine E_take (i := 34) (oi := _) (v := ?_) rfl (by kernel_rfl) (fun _ _ _ h => h) ?_ (by assumption) ?_
      rotate_left 1
      ·(refine Or.inl ⟨by rfl, ?_⟩; intro w hSw; (try dsimp only at hSw); (try simp only [eA1, eA2, eA3]); go_simp; (first | done | with_reducible rfl))
      try simp only [Act.put, eS1, eS2, eS3, eA1, eA2, eA3]
      refine E_take (i := 35) (oi := _) (v := ?_) rfl (by kernel_rfl) (fun _ _ _ h => h) ?_ (by assumption) ?_
      rotate_left 1
      ·(refine Or.inl ⟨by rfl, ?_⟩; intro w hSw; (try dsimp only at hSw); (try simp only [eA1, eA2, eA3]); go_simp; (first | done | with_reducible rfl))
      try simp only [Act.put, eS1, eS2, eS3, eA1, eA2, eA3]
      refine E_take (i := 36) (oi := _) (v := ?_) rfl (by kernel_rfl) (fun _ _ _ h => h) ?_ (by assumption) ?_
      rotate_left 1
      ·(refine Or.inl ⟨by rfl, ?_⟩; intro w hSw; (try dsimp only at hSw); (try simp only [eA1, eA2, eA3]); go_simp; (first | done | with_reducible rfl))
      try simp only [Act.put, eS1, eS2, eS3, eA1, eA2, eA3]
      refine E_take (i := 37) (oi := _) (v := ?_) rfl (by kernel_rfl) (fun _ _ _ h => h) ?_ (by assumption) ?_
      rotate_left 1
      ·(refine Or.inl ⟨by rfl, ?_⟩; intro w hSw; (try dsimp only at hSw); (try simp only [eA1, eA2, eA3]); go_simp; (first | done | with_reducible rfl))
      try simp only [Act.put, eS1, eS2, eS3, eA1, eA2, eA3]
      refine E_last (o := _) (by kernel_rfl) rfl (by kernel_rfl) (fun K hK => ?_)
      try simp only [eA1, eA2, eA3]
      go_simp
      refine hK.out _ _ ?_
      clear hK K
      go_wp2
      go_ret
      exact ⟨by rw [← HQ.out]; rfl, HB1.out⟩
end Go.Proofs.YtaplbefdijcceaaGreatDoor
