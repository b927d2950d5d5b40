/- The library's walk over a row of numbers by fours: what its closure does with whatever rounds. -/
import Derived.RangeFuncBox
import Derived.RangeFuncLeaves
import Derived.RangeFuncWrites
import Derived.Shelf.Abstract
import Derived.WalkKit
import Derived.OwnWalkIn
import Derived.TacticsInMore
import Derived.LoopNIn
import Derived.LoopIn
import Derived.Lib.MinMax
import Derived.RangeFuncCalls
import Derived.OrdersIn
import Derived.RowsInLaws
import Derived.Test.YtfemkbdgbpgjgaaDrPlain
import Derived.Test.YtfemkbdgbpgjgaaHeldEnd
namespace Go.Proofs.Ytfemkbdgbpgjgaa
open Go.RowKit Go.Shelf Go.Lib

/-- A chunk's number, where there are any. -/
abbrev ChT (n : Nat) := { j : Nat // n = 0 ∨ 4 * j < n }
def chAt (n j : Nat) : ChT n := ⟨min j ((n - 1) / 4), by omega⟩
def chT (n k : Nat) : List (ChT n) := (List.range k).map (chAt n)
theorem chT_succ (n k : Nat) : chT n (k + 1) = chT n k ++ [chAt n k] := by simp [chT, List.range_succ]
theorem chT_length (n k : Nat) : (chT n k).length = k := by simp [chT]
theorem chAt_val (n k : Nat) (h : 4 * k < n) : (chAt n k).1 = k := by show min k ((n - 1) / 4) = k; omega
/-- How many numbers a chunk has. -/
def chN (n j : Nat) : Nat := min 4 (n - 4 * j)
def chS (g n : Nat) (x : ChT n) : Value := .slice (some ⟨g, 4 * x.1, none⟩) (chN n x.1) (chN n x.1)
def chV (g n : Nat) (x : ChT n) : Array Value := #[chS g n x]
/-- Two blocks lie as they lay. -/
def Kq2 (a b : Nat) (W W' : World) : Prop := W'.heap[a]? = W.heap[a]? ∧ W'.heap[b]? = W.heap[b]?
theorem Kq2.trans {a b : Nat} {A B C : World} (h : Kq2 a b A B) (k : Kq2 a b B C) : Kq2 a b A C := ⟨k.1.trans h.1, k.2.trans h.2⟩

section
attribute [local go_sem] Oper.semAt_some
set_option maxRecDepth 100000 in
set_option maxHeartbeats 2000000 in
theorem chunk_inT (N : Nat) (hN : 1 ≤ N) (l Bs Bn g cap n : Nat) (a : Option Addr) (hn : n ≤ 1048576) (ha : 0 < n → a = some ⟨g, 0, none⟩ ∧ n ≤ cap) (J Jx : List (ChT n) → World → Prop) (hJd : ∀ s W, J s W → J s W.drew)
    (hY : ∀ pre (x : ChT n) W, J pre W → pre.length < (n + 3) / 4 → YieldAt Fence.wide (N - 1) Try.prog l (chV g n x) W fun e W' =>
      (e = .returned (.bool true) ∧ J (pre ++ [x]) W' ∧ Kq2 Bs Bn W W') ∨ (e = .returned (.bool false) ∧ Jx (pre ++ [x]) W'))
    (W : World) (hBs : W.cell? ⟨Bs, 0, none⟩ = some (.slice a n cap)) (hBn : W.cell? ⟨Bn, 0, none⟩ = some (.int .i64 4)) (h0 : J [] W) :
    CallsIn Fence.wide N Try.prog 65 #[.func (.yield l) #[] #[], .pointer (some ⟨Bs, 0, none⟩), .pointer (some ⟨Bn, 0, none⟩)] W fun e W' => (∃ v, e = .returned v) ∧
      ((∃ ys, ys = chT n ((n + 3) / 4) ∧ J ys W') ∨ (∃ pre, (∃ k, k ≤ (n + 3) / 4 ∧ pre = chT n k) ∧ Jx pre W')) := by
  refine callsIn_of_wp Try.func65 rfl trivial ?_ rfl
  simp only [Try.ntmps65, List.size_toArray, List.length_cons, List.length_nil, Nat.reduceAdd, Nat.reduceSub, Array.replicate_succ, Array.replicate_zero, List.push_toArray, List.append_toArray, List.nil_append, List.cons_append]
  have HYY := Lib.hid hY
  have HAA := Lib.hid ha
  obtain ⟨m, hm⟩ : ∃ m, (n + 3) / 4 = m := ⟨_, rfl⟩
  have HM := Lib.hid hm
  rw [hm]
  have hm1 : n ≤ 4 * m := by omega
  have hm2 : 4 * m ≤ n + 3 := by omega
  clear hY ha hm
  gi_wp2
  gi_loopw [4] (fun i wr => ∃ k : Nat, k ≤ m ∧ i = .int .i64 ((4 * k : Nat) : Int) ∧ J (chT n k) wr ∧ Kq2 Bs Bn W wr)
    (fun i _ => n + 4 - (RowKit.intOf i).toNat)
  case atStart => exact ⟨0, Nat.zero_le _, rfl, h0, ⟨rfl, rfl⟩⟩
  case round =>
    obtain ⟨k, hk, rfl, hJs, hnx⟩ := hrel
    have hbs2 : wr.cell? ⟨Bs, 0, none⟩ = some (.slice a n cap) := (World.cell?_of_block (a := ⟨Bs, 0, none⟩) hnx.1).trans hBs
    have hbn2 : wr.cell? ⟨Bn, 0, none⟩ = some (.int .i64 4) := (World.cell?_of_block (a := ⟨Bn, 0, none⟩) hnx.2).trans hBn
    by_cases hlt : 4 * k < n
    · obtain ⟨rfl, hcap⟩ := HAA.out (by omega)
      obtain ⟨fn, tmps, assign, body, hy, hR⟩ := HYY.out _ (chAt n k) wr.drew (hJd _ _ hJs) (by rw [chT_length, HM.out]; omega)
      have hck := chT_succ n k
      have hcv := chAt_val n k hlt
      unfold chV chS chN at hy
      rw [hcv] at hy
      obtain ⟨X, hX⟩ : ∃ X, chAt n k = X := ⟨_, rfl⟩
      rw [hX] at hck hR hcv
      obtain ⟨e, he⟩ : ∃ e, min 4 (n - 4 * k) = e := ⟨_, rfl⟩
      have hE : Hid (e = min 4 (n - 4 * k)) := Lib.hid he.symm
      rw [he] at hy
      obtain ⟨i, hi⟩ : ∃ i, 4 * k = i := ⟨_, rfl⟩
      have hI := Lib.hid hi
      rw [hi] at hlt hy ⊢
      have e0 : 1 ≤ e := by have := hE.out; have := hI.out; omega
      have e1 : i + e ≤ n := by have := hE.out; have := hI.out; omega
      have k0 : (0 : Int) ≤ (i : Int) := by omega
      have k1 : (i : Int) < (n : Int) := by omega
      have k2 : (i : Int) ≤ (n : Int) := by omega
      have k3 : ((i : Int)).toNat = i := by omega
      have k4 : min (4 : Int) ((n - i : Nat) : Int) = (e : Int) := by have := hE.out; have := hI.out; omega
      have k5 : (0 : Int) ≤ (i : Int) + (e : Int) := by omega
      have k6 : (i : Int) ≤ (i : Int) + (e : Int) := by omega
      have k7 : (i : Int) + (e : Int) ≤ (cap : Int) := by omega
      have k8 : ((i : Int) + (e : Int)).toNat = i + e := by omega
      have k9 : (⟨g, 0, none⟩ : Addr).add i = ⟨g, i, none⟩ := by unfold Addr.add; split <;> simp_all
      have HK : Hid (Kq2 Bs Bn wr wr.drew) := Lib.hid ⟨rfl, rfl⟩
      have d0 : wr.drew.cell? ⟨Bs, 0, none⟩ = some (.slice (some ⟨g, 0, none⟩) n cap) := hbs2
      have hsl : (Instr.slice 28 (.slice (some ⟨g, 0, none⟩) n cap) (some (.int .i64 (i : Int))) (some (.int .i64 ((i : Int) + (e : Int)))) (some (.int .i64 ((i : Int) + (e : Int))))).run Try.prog wr.drew = .ok (.slice (some ⟨g, i, none⟩) e e) wr.drew := by
        rw [run_slice_lhm wr.drew 28 (some ⟨g, 0, none⟩) n cap Try.underlying28 .i64 .i64 .i64 _ _ _ k0 k6 (Int.le_refl _) k7]
        have hs1 : (sizeOf (Try.prog.elem 28)).run Try.prog wr.drew = .ok 1 wr.drew := by kernel_rfl
        rw [hs1, k3, k8]
        simp only [Result.andThen, sliced]
        rw [if_neg (by omega), Nat.mul_one]
        simp only [Option.map_some, k9]
        congr 2 <;> omega
      clear hX he hi hJs
      gi_wp2
      refine (wpIn_wide (n := N)).2 ?_
      refine E_start (S := (fun w' => w'.cell? ⟨Bs, 0, none⟩ = some (.slice (some ⟨g, 0, none⟩) n cap) ∧ w'.cell? ⟨Bn, 0, none⟩ = some (.int .i64 4))) 6 (by kernel_rfl) (⟨hbs2, hbn2⟩) (fun hHeld => ?_)
      refine E_take (i := 0) (oi := _) (v := ?_) rfl (by kernel_rfl) (fun _ _ _ h => h) ?_ (by assumption) ?_
      rotate_left 1
      · first | (refine Or.inl ⟨by rfl, ?_⟩; intro w hSw; (try dsimp only at hSw); (try simp only [List.getElem_toArray, List.getElem_cons_zero, List.getElem_cons_succ]); go_simp; done) | (refine Or.inl ⟨by rfl, ?_⟩; intro w hSw; (try dsimp only at hSw); (try simp only [List.getElem_toArray, List.getElem_cons_zero, List.getElem_cons_succ]); go_simp; with_reducible rfl)
      try simp only [Act.put, List.setIfInBounds_toArray, List.set_cons_zero, List.set_cons_succ, List.getElem_toArray, List.getElem_cons_zero, List.getElem_cons_succ]
      refine E_take (i := 1) (oi := _) (v := ?_) rfl (by kernel_rfl) (fun _ _ _ h => h) ?_ (by assumption) ?_
      rotate_left 1
      · first | (refine Or.inl ⟨by rfl, ?_⟩; intro w hSw; (try dsimp only at hSw); (try simp only [List.getElem_toArray, List.getElem_cons_zero, List.getElem_cons_succ]); go_simp; done) | (refine Or.inl ⟨by rfl, ?_⟩; intro w hSw; (try dsimp only at hSw); (try simp only [List.getElem_toArray, List.getElem_cons_zero, List.getElem_cons_succ]); go_simp; with_reducible rfl)
      try simp only [Act.put, List.setIfInBounds_toArray, List.set_cons_zero, List.set_cons_succ, List.getElem_toArray, List.getElem_cons_zero, List.getElem_cons_succ]
      refine E_take (i := 2) (oi := _) (v := ?_) rfl (by kernel_rfl) (fun _ _ _ h => h) ?_ (by assumption) ?_
      rotate_left 1
      · first | (refine Or.inl ⟨by rfl, ?_⟩; intro w hSw; (try dsimp only at hSw); (try simp only [List.getElem_toArray, List.getElem_cons_zero, List.getElem_cons_succ]); go_simp; done) | (refine Or.inl ⟨by rfl, ?_⟩; intro w hSw; (try dsimp only at hSw); (try simp only [List.getElem_toArray, List.getElem_cons_zero, List.getElem_cons_succ]); go_simp; with_reducible rfl)
      try simp only [Act.put, List.setIfInBounds_toArray, List.set_cons_zero, List.set_cons_succ, List.getElem_toArray, List.getElem_cons_zero, List.getElem_cons_succ]
      refine E_take (i := 3) (oi := _) (v := ?_) rfl (by kernel_rfl) (fun _ _ _ h => h) ?_ (by assumption) ?_
      rotate_left 1
      · first | (refine Or.inl ⟨by rfl, ?_⟩; intro w hSw; (try dsimp only at hSw); (try simp only [List.getElem_toArray, List.getElem_cons_zero, List.getElem_cons_succ]); go_simp; done) | (refine Or.inl ⟨by rfl, ?_⟩; intro w hSw; (try dsimp only at hSw); (try simp only [List.getElem_toArray, List.getElem_cons_zero, List.getElem_cons_succ]); go_simp; with_reducible rfl)
      try simp only [Act.put, List.setIfInBounds_toArray, List.set_cons_zero, List.set_cons_succ, List.getElem_toArray, List.getElem_cons_zero, List.getElem_cons_succ]
      refine E_take (i := 4) (oi := _) (v := ?_) rfl (by kernel_rfl) (fun _ _ _ h => h) ?_ (by assumption) ?_
      rotate_left 1
      · first | (refine Or.inl ⟨by rfl, ?_⟩; intro w hSw; (try dsimp only at hSw); (try simp only [List.getElem_toArray, List.getElem_cons_zero, List.getElem_cons_succ]); go_simp; done) | (refine Or.inl ⟨by rfl, ?_⟩; intro w hSw; (try dsimp only at hSw); (try simp only [List.getElem_toArray, List.getElem_cons_zero, List.getElem_cons_succ]); go_simp; with_reducible rfl)
      try simp only [Act.put, List.setIfInBounds_toArray, List.set_cons_zero, List.set_cons_succ, List.getElem_toArray, List.getElem_cons_zero, List.getElem_cons_succ]
      refine E_take (i := 5) (oi := _) (v := ?_) rfl (by kernel_rfl) (fun _ _ _ h => h) ?_ (by assumption) ?_
      rotate_left 1
      · first | (refine Or.inl ⟨by rfl, ?_⟩; intro w hSw; (try dsimp only at hSw); (try simp only [List.getElem_toArray, List.getElem_cons_zero, List.getElem_cons_succ]); go_simp; done) | (refine Or.inl ⟨by rfl, ?_⟩; intro w hSw; (try dsimp only at hSw); (try simp only [List.getElem_toArray, List.getElem_cons_zero, List.getElem_cons_succ]); go_simp; with_reducible rfl)
      try simp only [Act.put, List.setIfInBounds_toArray, List.set_cons_zero, List.set_cons_succ, List.getElem_toArray, List.getElem_cons_zero, List.getElem_cons_succ]
      refine E_last (o := _) (by kernel_rfl) rfl (by kernel_rfl) (fun K hK => ?_)
      try simp only [List.getElem_toArray, List.getElem_cons_zero, List.getElem_cons_succ]
      go_simp
      refine hK.out _ _ ?_
      clear hK K
      clear hbs2 hbn2
      gi_wp2
      refine hR.mono ?_
      rintro e' W3 (⟨rfl, hJ3, hk3⟩ | ⟨rfl, hJx3⟩)
      · have hnx3 := hnx.trans (HK.out.trans hk3)
        have hbn3 : W3.cell? ⟨Bn, 0, none⟩ = some (.int .i64 4) := (World.cell?_of_block (a := ⟨Bn, 0, none⟩) hnx3.2).trans hBn
        have HN3 := Lib.hid hnx3
        clear hnx3
        gi_wp2
        go_roundw
        case rel => exact ⟨k + 1, by have := hI.out; omega, by have := hI.out; go_num, by rw [hck]; exact hJ3, HN3.out⟩
        case measure => simp [RowKit.intOf] <;> omega
      · gi_wp2
        refine bodyPost_ret (results_none rfl _ _ _) rfl ?_
        exact ⟨⟨_, rfl⟩, .inr ⟨_, ⟨k + 1, by have := hI.out; omega, hck.symm⟩, hJx3⟩⟩
    · obtain rfl : k = m := by have := HM.out; omega
      have q2 : ¬ (((4 * k : Nat) : Int)) < (n : Int) := by omega
      gi_wp2
      go_end0
      exact ⟨⟨_, rfl⟩, .inl hJs⟩
end
/-! A region that draws its order, within a round -/
def noDefer (ops : Array Oper) : Bool := ops.all fun o => match o.op with | .defer _ => false | _ => true
theorem noDefer_at {ops : Array Oper} (h : noDefer ops = true) {i : Nat} {o : Oper} (hi : ops[i]? = some o) : ∀ c, o.op ≠ .defer c := fun c e => by
  obtain ⟨hl, rfl⟩ := Array.getElem?_eq_some_iff.1 hi
  have := (Array.all_eq_true.1 h) i hl
  rw [e] at this
  cases this
section
variable {P : Program} {ops : Array Oper} {Q : Exit → Act → World → Prop} {S : World → Prop} {m l : Nat}
theorem oper_round {o : Oper} {a : Act} {w : World} {K : Act → World → Prop} (hd : ∀ c, o.op ≠ .defer c) (h : o.wp P a w K Q) : o.wpIn (Fence.wide.inRound l) m P a w K Q := by
  refine ⟨fun _ _ => trivial, ?_⟩
  rw [Oper.semAt_eq _ _ _ hd]
  unfold Oper.wp at h
  generalize (execOp a.eval o).run P w = r at *
  cases r with
  | ok x w' =>
    cases x with
    | value v => exact h
    | skip => exact h
    | defer d => exact h
    | enter f args => exact ⟨fun e => (nomatch e), (callsIn_wide (n := m - 1)).2 h⟩
    | row row args => exact ⟨fun e => (nomatch e), fun c cs _ => let ⟨v, w', r, s⟩ := h c cs; ⟨v, w', r, stepsIn_wide.2 s⟩⟩
    | round => exact h.elim
    | _ => exact h
  | halt x w' => cases x <;> exact h
theorem any_round (hd : noDefer ops = true) (hQ : ¬ LetsOut Q) : ∀ (f : Nat) (li : Array Bool) (a : Act) (w : World), wpAny P .any ops Q f li a w → wpAnyIn (Fence.wide.inRound l) m P .any ops Q f li a w
  | 0, _, _, _, h => h
  | f + 1, _, _, _, h => ⟨h.1, fun i hi => by
    have h1 := h.2 i hi
    unfold wpOp at h1
    unfold wpOpIn
    cases ho : ops[i]? with
    | none => rw [ho] at h1; exact any_round hd hQ f _ _ _ h1
    | some o =>
      rw [ho] at h1
      dsimp only at h1 ⊢
      split
      · rename_i hw
        rw [if_pos hw] at h1
        rcases h1 with h1 | h1
        · exact Oper.wpIn_mono (fun a' w' h2 => any_round hd hQ f _ _ _ h2) (oper_round (noDefer_at hd ho) h1)
        · exact absurd h1.2 hQ
      · rename_i hw
        rw [if_neg hw] at h1
        exact ⟨fun _ _ => trivial, any_round hd hQ f _ _ _ h1⟩⟩
theorem R_start {id : Nat} {a : Act} {w : World} (n : Nat) (hm : P.follows .mixedOrders = true) (hd : noDefer ops = true) (hQ : ¬ LetsOut Q) (hS : S w.drew) (h : S w.drew → AnyT P ops Q S n ops.size (Array.replicate ops.size false) a w.drew) : (Code.region id ops true).wpIn (Fence.wide.inRound l) m P Q a w :=
  wpIn_region_any hm (any_round hd hQ _ _ _ _ (any_of_E _ _ _ _ (h hS (head_start n _ rfl))))
end
end Go.Proofs.Ytfemkbdgbpgjgaa
