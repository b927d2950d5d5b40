/- The program's EncodeOp. -/
import Derived.Test.YtcflojdkaddemaaOpBytesB
import Derived.Test.YtcflojdkaddemaaOpOk
import Derived.Test.YtcflojdkaddemaaOpEncA
import Derived.Deep.RegionLaw
namespace Go.Proofs.Ytcflojdkaddemaa
open Go.RowKit Go.Lib

/-- An append within a region that draws, of as many elements as there are, none too. -/
theorem step_append_own7 {P : Program} (w : World) {ops : Array Oper} {o : Oper} {a : Act} {K : Act → World → Prop} {Q : Exit → Act → World → Prop} {E : Prop} (hgd : o.guard = none) (s x : Operand) (t : TypeId)
    (ho : o.op = .call { callee := .builtin .append, args := #[s, x], argTypes := #[t, t] })
    (base : Nat) (e : TypeId) (i : TypeInfo) (z : Value) (size bytes : Nat) (ht : P.underlying t = some (.slice e)) (hi : P.info? e = some i) (hz : i.zero = some z)
    (hsize : i.size = size) (hby : i.bytes = bytes) (hzs : z.cells.size = size) (hsz : 0 < size)
    (v : Value) (n : Nat) (xs : List Value) (hs : a.eval s = v) (hown : w.ownsRow base e size v n xs)
    (ad : Addr) (m c : Nat) (news : List Value) (hx : a.eval x = .slice (some ad) m c) (hl : news.length = m * size) (hnews : ∀ j u, news[j]? = some u → w.cell? (ad.add j) = some u) (h1 : ∀ u ∈ news, u.oneCell' = true)
    (h63 : n + m ≤ maxLen) (hbytes : (n + m) * bytes ≤ 140737488355328) (hbase : base ≤ w.heap.size)
    (h : ∀ v' w', w'.ownsRow base e size v' (n + m) (xs ++ news) → w.grownBy w' v.ownBlock → K (a.put o.dst v') w') :
    if Region.wanted o (yielded ops a.tmps) = true then Oper.wp P o a w K Q else E := by
  have hw : Region.wanted o (yielded ops a.tmps) = true := by simp [Region.wanted, hgd]
  rw [if_pos hw]
  exact wp_append_own w s x t ho base e i z size bytes ht hi hz hsize hby hzs hsz v n xs hs hown ad m c news hx hl hnews h1 h63 hbytes hbase fun v' w' h2 h3 _ => h v' w' h2 h3

theorem arr_cells (l : List UInt8) (B m : Nat) (T : TypeId) (w : World) (h : w.heap[B]? = some (.cells (arrC l) T (0, 0))) : ∀ j u, (byteCells (l.take m))[j]? = some u → w.cell? ((⟨B, 0, none⟩ : Addr).add j) = some u := fun j u hu => by
  have hadd : (⟨B, 0, none⟩ : Addr).add j = ⟨B, j, none⟩ := by unfold Addr.add; split <;> simp_all
  rw [hadd, cell_of_row w B j (arrC l) T (0, 0) h]
  unfold arrC
  unfold byteCells at hu ⊢
  rw [List.getElem?_map, List.getElem?_take] at hu
  split at hu
  · simpa using hu
  · cases hu

theorem undrewA {W w' : World} {X : Obj} (h : Below (W.alloc X).heap.size (W.alloc X) w') : Below W.heap.size W w' := ((Below.refl W.heap.size W).alloc (Nat.le_refl _) X).trans (h.mono (by simp))
theorem undrewB {W w' : World} {X : Obj} (h : Below (W.alloc X).drew.heap.size (W.alloc X).drew w') : Below W.heap.size W w' := undrewA (undrew h)
set_option maxHeartbeats 2000000 in
theorem i_enc7 (c a : Int) (w : World) (ha : (Lit.int .i64 a).wf = true) :
    Calls Try.prog 11 #[.agg #[.int .i64 c, .int .i64 a]] w fun e w' => e = .returned (.string ⟨(encL ⟨c, a⟩).toArray⟩) ∧ Below w.heap.size w w' := by
  have OK := Lib.hid (fun W => i_ok7 c a W ha)
  have HB0 := Lib.hid (fun (o : Obj) => ((Below.refl w.heap.size w).alloc (Nat.le_refl _) o))
  cases hi : insB ⟨c, a⟩ with
  | false =>
    rw [hi] at OK
    have HE := Lib.hid (encL_no c a hi)
    clear hi
    go_enter Try.func11, Try.ntmps11
    go_wp2_with fail
    refine (OK.out _).mono ?_
    rintro e w1 ⟨rfl, b1⟩
    have HB1 := Lib.hid ((HB0.out _).trans (b1.mono (by simp)))
    go_wp2_with fail
    go_ret
    rw [HE.out]
    exact ⟨rfl, HB1.out⟩
  | true =>
    rw [hi] at OK
    have HE := Lib.hid (encL_yes c a hi)
    have hcc := (insB_parts _ hi).1
    have SH := Lib.hid (fun W => i_shape c W)
    have BY := Lib.hid (fun W => i_bytes a W ha)
    obtain ⟨x0, x1, x2, x3, x4, x5, x6, x7, hx⟩ := arr8 (argB a 8) (argB_length a 8)
    have HX := Lib.hid hx
    rw [hx] at BY
    have hm := widN_le c
    obtain ⟨m, hme⟩ : ∃ m : Nat, widN c = m := ⟨_, rfl⟩
    rw [hme] at HE SH hm
    obtain ⟨i0, hi0, hz0, hz1, hz2⟩ := info_parts info7
    have h0 : 0 ≤ c := hcc.1
    have h1 : c ≤ 17 := hcc.2
    have hcb : Hid (c = ((UInt8.ofNat c.toNat).toNat : Int)) := Lib.hid (by rw [byte_of c h0 (by omega)])
    clear hi hcc hme hx ha
    go_enter Try.func11, Try.ntmps11
    go_wp2_with fail
    refine (OK.out _).mono ?_
    rintro e w1 ⟨rfl, b1⟩
    have HB1 := Lib.hid ((HB0.out _).trans (b1.mono (by simp)))
    have c0 : w1.cell? ⟨w.heap.size, 0, none⟩ = some (.int .i64 c) := (b1.cell (p := ⟨w.heap.size, 0, none⟩) (by simp)).trans ((blk (heap_alloc_new w _)).1 0 _ rfl)
    have c1 : w1.cell? ⟨w.heap.size, 1, none⟩ = some (.int .i64 a) := (b1.cell (p := ⟨w.heap.size, 1, none⟩) (by simp)).trans ((blk (heap_alloc_new w _)).1 1 _ rfl)
    have z1 : w.heap.size < w1.heap.size := by have := b1.size; simp at this; omega
    clear b1
    go_wp2_with fail
    refine (BY.out _).mono ?_
    rintro e w2 ⟨rfl, b2⟩
    have HB2 := Lib.hid (HB1.out.trans (b2.mono (by omega)))
    have d0 : w2.cell? ⟨w.heap.size, 0, none⟩ = some (.int .i64 c) := (b2.cell (p := ⟨w.heap.size, 0, none⟩) z1).trans c0
    have z2 : w.heap.size < w2.heap.size := by have := b2.size; omega
    clear b2 c0 c1
    go_wp2_with fail
    obtain ⟨W1, hW1⟩ : ∃ W, w2.alloc (.cells #[.int .u8 x0, .int .u8 x1, .int .u8 x2, .int .u8 x3, .int .u8 x4, .int .u8 x5, .int .u8 x6, .int .u8 x7] 71) = W := ⟨_, rfl⟩
    have HA : Hid (Below w2.heap.size w2 W1) := Lib.hid (hW1 ▸ (Below.refl _ _).alloc (Nat.le_refl _) _)
    have HP : Hid (W1.heap[w2.heap.size]? = some (.cells (arrC (argB a 8)) 71 (0, 0))) := Lib.hid (by rw [HX.out, ← hW1]; exact heap_alloc_new w2 _)
    have HC0 : Hid (W1.cell? ⟨w.heap.size, 0, none⟩ = some (.int .i64 c)) := Lib.hid ((HA.out.cell (p := ⟨w.heap.size, 0, none⟩) z2).trans d0)
    have z3 : w2.heap.size < W1.heap.size := (blk HP.out).2.2
    have KEEP : Hid (∀ W, Below W1.heap.size W1 W → W.cell? ⟨w.heap.size, 0, none⟩ = some (.int .i64 c) ∧ W.heap[w2.heap.size]? = some (.cells (arrC (argB a 8)) 71 (0, 0))) := Lib.hid (fun W hb =>
      ⟨(hb.cell (p := ⟨w.heap.size, 0, none⟩) (show w.heap.size < W1.heap.size by omega)).trans HC0.out, (hb.block _ z3).trans HP.out⟩)
    have HBW : Hid (Below w.heap.size w W1) := Lib.hid (HB2.out.trans (HA.out.mono (by omega)))
    have hfl := fun (W : World) => run_shape0 (m : Int) (sgnB c) W
    have hm0 : (0 : Int) ≤ (m : Int) := by omega
    have hm8 : (m : Int) ≤ 8 := by omega
    rw [hW1]
    clear hW1 d0 HB0 HB1 HB2
    obtain ⟨b, hb⟩ : ∃ b, UInt8.ofNat c.toNat = b := ⟨_, rfl⟩
    rw [hb] at HE hcb
    clear hb
    have HCW : Hid (IntKind.u8.wrap c = (b.toNat : Int)) := Lib.hid (by rw [IntKind.wrap_u8']; have := hcb.out; omega)
    have NL : Hid ((byteCells ((argB a 8).take m)).length = m * 1) := Lib.hid (by rw [byteCells_length, List.length_take, argB_length]; omega)
    have h63 : 1 + m ≤ maxLen := by unfold maxLen; omega
    have hby : (1 + m) * 1 ≤ 140737488355328 := by omega
    have ZB : Hid (∀ W, Below W1.heap.size W1 W → W1.heap.size ≤ W.heap.size) := Lib.hid (fun W h => h.size)
    have ZC : Hid (∀ W, Below W1.heap.size W1 W → w.heap.size < W.heap.size) := Lib.hid (fun W h => by have := h.size; omega)
    have hw0 : W1.cell? ⟨w.heap.size, 0, none⟩ = some (.int .i64 c) := HC0.out
    have hwz : w.heap.size < W1.heap.size := by omega
    have HOA : Hid (∀ W, Below (W1.alloc (.cells #[.int .u8 (IntKind.u8.wrap c)] 5)).heap.size (W1.alloc (.cells #[.int .u8 (IntKind.u8.wrap c)] 5)) W → W.ownsRow W1.heap.size 5 1 (.slice (some ⟨W1.heap.size, 0, none⟩) 1 1) 1 [.int .u8 (IntKind.u8.wrap c)]) := Lib.hid (fun W h => owns3_below (World.ownsRow_lit (base := W1.heap.size) (e := 5) (size := 1) W1 #[.int .u8 (IntKind.u8.wrap c)] 1 (Nat.le_refl _) (by decide) rfl) h)
    have HOB : Hid (∀ W, Below W1.heap.size W1 W → (W.alloc (.cells #[.int .u8 (IntKind.u8.wrap c)] 5)).ownsRow W1.heap.size 5 1 (.slice (some ⟨W.heap.size, 0, none⟩) 1 1) 1 [.int .u8 (IntKind.u8.wrap c)]) := Lib.hid (fun W h => World.ownsRow_lit (base := W1.heap.size) (e := 5) (size := 1) W #[.int .u8 (IntKind.u8.wrap c)] 1 h.size (by decide) rfl)
    have GR : Hid (∀ (W W' : World) (g : Nat), Below W1.heap.size W1 W → W.grownBy W' (some g) → W1.heap.size ≤ g → Below W1.heap.size W1 W') := Lib.hid (fun W W' g h hg hk => h.grown hg h.size (fun k e => by cases e; exact hk))
    have RW : Hid (∀ (v : Value) (W : World), W.ownsRow W1.heap.size 5 1 v (1 + m) ([.int .u8 (IntKind.u8.wrap c)] ++ byteCells ((argB a 8).take m)) → W.ownsRow W1.heap.size 5 1 v (b :: argB a m).length (byteCells (b :: argB a m))) := Lib.hid (fun v W h => by
      have e : byteCells (b :: argB a m) = [.int .u8 (IntKind.u8.wrap c)] ++ byteCells ((argB a 8).take m) := by rw [HCW.out, argB_take a m (by omega)]; rfl
      have e2 : (b :: argB a m).length = 1 + m := by rw [List.length_cons, argB_length]; omega
      rw [e, e2]; exact h)
    go_region_law (first
      | (go_simp; go_at_call 38; (with_reducible refine (SH.out _).mono ?_); rintro e w4 ⟨rfl, b4⟩; have c4 : w4.cell? ⟨w.heap.size, 0, none⟩ = some (.int .i64 c) := (KEEP.out _ (by first | exact undrew b4 | exact undrewA b4 | exact undrewB b4)).1; have z4 : w.heap.size < w4.heap.size := ZC.out _ (by first | exact undrew b4 | exact undrewA b4 | exact undrewB b4))
      | ((refine step_append_own7 _ ?_ (.tmp 13) (.tmp 18) 22 ?_ W1.heap.size 5 i0 (.int .u8 0) 1 1 Try.underlying22 hi0 hz0 hz1 hz2 rfl (by decide) _ 1 [.int .u8 (IntKind.u8.wrap c)] ?_ (HOA.out _ (undrew b4)) ⟨w2.heap.size, 0, none⟩ m 8 (byteCells ((argB a 8).take m)) ?_ NL.out ?_ (byteCells_one _) h63 hby ?_ ?_; rfl; rfl; rfl; rfl; exact arr_cells _ _ _ _ _ (KEEP.out _ (by first | exact undrewA b4 | exact undrewB b4 | exact (undrew b4).alloc (undrew b4).size _)).2; exact ZB.out _ (by first | assumption | exact undrew b4 | exact undrewA b4 | exact undrewB b4 | exact (undrew b4).alloc (undrew b4).size _); intro v' w5 hown5 hgrow5; have hb5 := GR.out _ _ _ (by first | exact undrewA b4 | exact undrewB b4 | exact (undrew b4).alloc (undrew b4).size _) hgrow5 (by first | exact Nat.le_refl _ | exact (undrew b4).size); have hcv := conv_own (P := Try.prog) w5 W1.heap.size 22 9 5 v' (b :: argB a m) Try.underlying22 Try.underlying5 Try.underlying9 (RW.out _ _ hown5)))
      | (refine step_append_own7 _ ?_ (.tmp 13) (.tmp 18) 22 ?_ W1.heap.size 5 i0 (.int .u8 0) 1 1 Try.underlying22 hi0 hz0 hz1 hz2 rfl (by decide) _ 1 [.int .u8 (IntKind.u8.wrap c)] ?_ (HOB.out _ (undrew b4)) ⟨w2.heap.size, 0, none⟩ m 8 (byteCells ((argB a 8).take m)) ?_ NL.out ?_ (byteCells_one _) h63 hby ?_ ?_; rfl; rfl; rfl; rfl; exact arr_cells _ _ _ _ _ (KEEP.out _ (by first | exact undrewA b4 | exact undrewB b4 | exact (undrew b4).alloc (undrew b4).size _)).2; exact ZB.out _ (by first | assumption | exact undrew b4 | exact undrewA b4 | exact undrewB b4 | exact (undrew b4).alloc (undrew b4).size _); intro v' w5 hown5 hgrow5; have hb5 := GR.out _ _ _ (by first | exact undrewA b4 | exact undrewB b4 | exact (undrew b4).alloc (undrew b4).size _) hgrow5 (by first | exact Nat.le_refl _ | exact (undrew b4).size); have hcv := conv_own (P := Try.prog) w5 W1.heap.size 22 9 5 v' (b :: argB a m) Try.underlying22 Try.underlying5 Try.underlying9 (RW.out _ _ hown5)))
    all_goals
      have HB5 : Hid (Below w.heap.size w w5) := Lib.hid (HBW.out.trans (hb5.mono (by omega)))
      clear hb5 hcv hown5 hgrow5 b4
      go_wp2
      go_ret
      have HE' : encL ⟨c, a⟩ = b :: argB a m := HE.out
      rw [HE']
      exact ⟨rfl, HB5.out⟩
end Go.Proofs.Ytcflojdkaddemaa
