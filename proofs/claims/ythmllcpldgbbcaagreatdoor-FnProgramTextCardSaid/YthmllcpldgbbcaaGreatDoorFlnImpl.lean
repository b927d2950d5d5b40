/- The program's FormatLine. -/
import Derived.Test.YthmllcpldgbbcaaGreatDoorLokImpl
import Derived.Test.YthmllcpldgbbcaaGreatDoorFexImpl
import Derived.Test.YthmllcpldgbbcaaGreatDoorPlainB
import Derived.Deep.DeepCutAuto
import Derived.Maps.AppendAt
import Derived.Laws.AppendOwnNone
namespace Go.Proofs.YthmllcpldgbbcaaGreatDoor
open Go.RowKit Go.Lib

theorem infoStL : (Tryz.prog.info? 9).map (fun i => (i.zero, i.size, i.bytes)) = some (some (.string ⟨#[]⟩), 1, 16) := by kernel_rfl
/-- The words so far: the word; the name; the arguments. -/
def wnL (p : PLine) : List ByteArray := [wordZ p.kind] ++ (if p.name.size = 0 then [] else [p.name])
theorem wordsL_wn (p : PLine) : wordsL p = wnL p ++ (p.args ++ (if p.expr.length = 0 then [] else [⟨(jn p.expr).toArray⟩])) := by unfold wordsL wnL; rw [List.append_assoc]
theorem wnL_len (p : PLine) : (wnL p).length ≤ 2 := by unfold wnL; split <;> simp
theorem news_strs {w : World} {a : Option Addr} {l : List ByteArray} (h : ReadS w a l) (g : Nat) (ha : a = some ⟨g, 0, none⟩) : ∀ j u, (strV l)[j]? = some u → w.cell? ((⟨g, 0, none⟩ : Addr).add j) = some u := by
  intro j u hu
  have hj : j < l.length := by have := (List.getElem?_eq_some_iff.1 hu).1; rwa [strV_length] at this
  obtain ⟨g', e, c⟩ := h j hj
  rw [ha] at e
  injection e with e
  injection e with e
  subst e
  rw [add_plain, Nat.zero_add, c]
  unfold strV at hu
  rw [List.getElem?_map, List.getElem?_eq_getElem hj] at hu
  exact hu
theorem strs_one (l : List ByteArray) : ∀ u ∈ strV l, u.oneCell' = true := by
  intro u hu
  obtain ⟨s, _, rfl⟩ := List.mem_map.1 hu
  rfl

theorem own_blk {B T : Nat} {w : World} {v : Value} {l : List ByteArray} (h : w.ownsRow B T 1 v l.length (strV l)) (hn : 0 < l.length) : ∃ g cap, v = .slice (some ⟨g, 0, none⟩) l.length cap ∧ g < w.heap.size ∧ l.length ≤ cap ∧ (∀ (j : Nat) x, l[j]? = some x → w.cell? ⟨g, 0 + j, none⟩ = some (.string x)) := by
  rcases h.2 with ⟨rfl, h0⟩ | ⟨g, cap, cur, rfl, hB, hg, hc, _⟩
  · omega
  · refine ⟨g, cap, rfl, (h.lt g rfl).2, hc, fun j x hx => ?_⟩
    have := h.cells rfl j (.string x) (by unfold strV; rw [List.getElem?_map, hx]; rfl)
    rwa [add_plain] at this
/-- Onto a row of one's own, from a source that may be nil. -/
theorem wpList_append_src {P : Program} {w : World} {ops : Array Oper} {rest : List Oper} {o : Oper} {a : Act} {Q : Exit → Act → World → Prop} (hgd : o.guard = none) (s x : Operand) (t : TypeId)
    (ho : o.op = .call { callee := .builtin .append, args := #[s, x], argTypes := #[t, t] }) (base : Nat) (e : TypeId) (i : TypeInfo) (z : Value) (bytes : Nat) (ht : P.underlying t = some (.slice e)) (hi : P.info? e = some i) (hz : i.zero = some z)
    (hsize : i.size = 1) (hby : i.bytes = bytes) (hzs : z.cells.size = 1) (v : Value) (n : Nat) (xs : List Value) (hs : a.eval s = v) (hown : w.ownsRow base e 1 v n xs) (A : Option Addr) (m c : Nat) (news : List Value) (hx : a.eval x = .slice A m c)
    (hnil : A = none → m = 0 ∧ c = 0) (hl : news.length = m) (hA : ∀ ad, A = some ad → ∀ j u, news[j]? = some u → w.cell? (ad.add j) = some u) (h1 : ∀ u ∈ news, u.oneCell' = true) (h63 : n + m ≤ maxLen) (hbytes : (n + m) * bytes ≤ 140737488355328) (hbase : base ≤ w.heap.size)
    (h : ∀ v' w', w'.ownsRow base e 1 v' (n + m) (xs ++ news) → w.grownBy w' v.ownBlock → wpList P ops Q rest (a.put o.dst v') w') : wpList P ops Q (o :: rest) a w := by
  cases A with
  | none =>
    obtain ⟨rfl, rfl⟩ := hnil rfl
    obtain rfl := List.length_eq_zero_iff.1 hl
    exact wpList_append_own_none hgd s x t ho base e i 1 ht hi v n xs hs hown hx (h v w (by simpa using hown) (World.grownBy.refl _ _))
  | some ad => exact wpList_append_own w hgd s x t ho base e i z 1 bytes ht hi hz hsize hby hzs (by decide) v n xs hs hown ad m c news hx (by omega) (hA ad rfl) h1 h63 hbytes hbase (fun v' w' h2 h3 _ => h v' w' h2 h3)

set_option maxRecDepth 100000 in
set_option maxHeartbeats 4000000 in
theorem i_fline_yes (p : PLine) (a b : Option Addr) (c d : Nat) (w : World) (hA : ReadS w a p.args) (hT : ReadT w b p.expr) (hl : lineB p = true) (hs : SzOk p c) (hsh : Shapes w) (htab : Tab w) (hnil : a = none → c = 0) :
    Calls Tryz.prog 10 #[.agg #[.int .i64 p.kind, .string p.name, .slice a p.args.length c, .slice b p.expr.length d]] w fun e w' => e = .returned (.string (lineT p)) ∧ Below w.heap.size w w' := by
  have HV := Lib.hid (lineT_yes p hl)
  have l1 := line_args p hl
  have l4 := (ef_small _ _ ((lineB_iff p).1 hl).2.2.2).1
  have LX := Lib.hid (line_expr p hl)
  have S := Lib.hid (fun W h1 h2 h3 => hl ▸ i_lineok p a b c d W h1 h2 hs h3)
  obtain ⟨hk0, hk7⟩ := line_kind p hl
  have LW := Lib.hid (lnB_words p)
  have WN := Lib.hid (wordsL_wn p)
  have LL := Lib.hid (lnB_len p hl)
  have WL := wnL_len p
  have HSH := Lib.hid hsh
  have HTAB := Lib.hid htab
  have HN7 := Lib.hid hs.2.2.2.2.2.2
  obtain ⟨i0, hi, hz0, hz1, hz2⟩ := info_parts infoStL
  obtain ⟨k, nm, gs, ex⟩ := p
  dsimp only at HV hA hT l1 l4 LX S hk0 hk7 LW WN LL WL HN7 ⊢
  have HR := Lib.hid hA
  have HT := Lib.hid hT
  have HNIL := Lib.hid hnil
  clear hA hT hl hs hsh htab hnil
  obtain ⟨n, rfl⟩ := Int.eq_ofNat_of_zero_le hk0
  have hn8 : n < 8 := by omega
  have k1 : (n : Int) < 8 := by omega
  have HB0 := Lib.hid ((Below.refl w.heap.size w).alloc (Nat.le_refl _) (.cells #[.int .i64 (n : Int), .string nm, .slice a gs.length c, .slice b ex.length d] 32))
  have T0 := Lib.hid (heap_alloc_new w (.cells #[.int .i64 (n : Int), .string nm, .slice a gs.length c, .slice b ex.length d] 32))
  go_enter Tryz.func10, Tryz.ntmps10
  go_wp2_with fail
  refine (S.out _ (HR.out.below HB0.out) (HT.out.below HB0.out) (HSH.out.on HB0.out)).mono ?_
  rintro e w1 ⟨rfl, b1⟩
  have tz : (w.alloc (.cells #[.int .i64 (n : Int), .string nm, .slice a gs.length c, .slice b ex.length d] 32)).heap.size = w.heap.size + 1 := by simp
  have z1 := b1.size
  rw [tz] at z1 b1
  have P1 := Lib.hid ((b1.block _ (by omega)).trans T0.out)
  have HB1 : Hid (Below w.heap.size w w1) := Lib.hid (HB0.out.trans (b1.mono (by omega)))
  have e0 : w1.cell? ⟨w.heap.size, 0, none⟩ = some (.int .i64 (n : Int)) := (blk P1.out).1 0 _ rfl
  have e1 : w1.cell? ⟨w.heap.size, 1, none⟩ = some (.string nm) := (blk P1.out).1 1 _ rfl
  have s0 := ((HSH.out.on HB1.out).at n hn8).1
  obtain ⟨wd, hwd⟩ : ∃ x, wordZ (n : Int) = x := ⟨_, rfl⟩
  rw [hwd] at s0
  have HW := Lib.hid hwd
  have O1 := World.ownsRow_lit (base := w1.heap.size) (e := 9) (size := 1) w1 #[.string wd] 1 (Nat.le_refl _) (by decide) rfl
  have HO1 := Lib.hid O1
  have HB2 : Hid (Below w.heap.size w (w1.alloc (.cells #[.string wd] 9))) := Lib.hid (HB1.out.alloc (by omega) _)
  have hzz : (w1.alloc (.cells #[.string wd] 9)).heap.size = w1.heap.size + 1 := by simp
  have P2 := Lib.hid ((Below.heap_alloc w1 (.cells #[.string wd] 9) _ (by omega : w.heap.size < w1.heap.size)).trans P1.out)
  obtain ⟨W2, hW2⟩ : ∃ W, w1.alloc (.cells #[.string wd] 9) = W := ⟨_, rfl⟩
  rw [hW2] at HO1 HB2 hzz P2
  have hzi : w1.heap.size + 1 ≤ W2.heap.size := by omega
  have HW2 := Lib.hid hW2
  obtain ⟨nb, hnb⟩ : ∃ x, (!nm.toList.isEmpty) = x := ⟨_, rfl⟩
  have HNB := Lib.hid hnb
  have ll : w.heap.size < w1.heap.size := by omega
  clear tz b1 T0 HB0 O1 hwd hW2 hnb hzz
  go_upto_region 4 with fail
  go_cut [3, 15] (fun v s wx => v = .slice (some ⟨w1.heap.size, 0, none⟩) 1 1 ∧ s = .bool nb ∧ wx = W2)
  case first =>
    go_wp2_with fail
    go_meet
    exact ⟨rfl, by rw [HNB.out], HW2.out⟩
  case rest =>
  obtain ⟨rfl, rfl, rfl⟩ := hcut
  rename World => wx
  have e1 : wx.cell? ⟨w.heap.size, 1, none⟩ = some (.string nm) := (blk P2.out).1 1 _ rfl
  have lx : w.heap.size < wx.heap.size := by omega
  go_upto_if 15 with fail
  go_cut [3] (fun v wy => Hid (wy.ownsRow w1.heap.size 9 1 v (wnL ⟨(n : Int), nm, gs, ex⟩).length (strV (wnL ⟨(n : Int), nm, gs, ex⟩))) ∧ w1.heap.size ≤ wy.heap.size ∧ Hid (Below w.heap.size w wy) ∧ Hid (wy.heap[w.heap.size]? = some (.cells #[.int .i64 (n : Int), .string nm, .slice a gs.length c, .slice b ex.length d] 32 (0, 0))))
  case first =>
    cases nb
    · have hn0 : nm.size = 0 := by
        rcases Nat.eq_zero_or_pos nm.size with h | h
        · exact h
        · have h1 := empty_no nm (by omega); have h2 := HNB.out; rw [h1] at h2; cases h2
      have HX : Hid (wnL ⟨(n : Int), nm, gs, ex⟩ = [wd]) := Lib.hid (by unfold wnL; dsimp only; rw [if_pos hn0, HW.out]; rfl)
      clear hn0
      go_wp2_with fail
      go_meet
      exact ⟨Lib.hid (by rw [HX.out]; exact HO1.out), by omega, HB2, P2⟩
    · have hn0 : ¬ nm.size = 0 := fun h => by have h2 := HNB.out; rw [empty_of nm h, show (⟨#[]⟩ : ByteArray).toList = [] from by rw [ByteArray.toList_eq]] at h2; exact absurd h2 (by decide)
      have HX : Hid (wnL ⟨(n : Int), nm, gs, ex⟩ = [wd] ++ [nm]) := Lib.hid (by unfold wnL; dsimp only; rw [if_neg hn0, HW.out])
      have hown := HO1.out
      clear hn0
      go_wp2_with (at_builtin; refine wpList_append_own _ rfl _ _ 29 rfl w1.heap.size 9 i0 _ 1 16 Tryz.underlying29 hi hz0 hz1 hz2 rfl (by decide) _ _ _ rfl (hown.alloc _) ⟨wx.heap.size, 0, none⟩ 1 1 [.string nm] rfl rfl ?c1 ?c2 (by decide) (by decide) ?c5 ?_)
      case c1 => exact cell_one_new _ _ _
      case c2 => intro u hu; simp at hu; subst hu; rfl
      case c5 => simp; omega
      intro v' w4 hown4 hgrow _
      have HO4 := Lib.hid (owns_strs (l := [wd] ++ [nm]) hown4 (by rw [strV_append]; rfl))
      have HG := Lib.hid hgrow
      have P4 := Lib.hid ((hgrow.block _ (by simp; omega) (fun e => by have := (hown.lt _ e.symm).1; omega)).trans ((Below.heap_alloc wx _ _ lx).trans P2.out))
      have HB4 : Hid (Below w.heap.size w w4) := Lib.hid ((HB2.out.alloc (by omega) _).grown hgrow (by simp; omega) (fun j hj => by have := (hown.lt j hj).1; omega))
      have hz4 : w1.heap.size ≤ w4.heap.size := by have := hgrow.size; simp at this; omega
      clear hown4 hgrow hown
      go_wp2_with fail
      go_meet
      exact ⟨Lib.hid (by rw [HX.out]; exact HO4.out), hz4, HB4, P4⟩
  case rest =>
  obtain ⟨HOQ, hzy, HB3, P3⟩ := hcut
  rename World => wy
  have hq2 : (wnL ⟨(n : Int), nm, gs, ex⟩).length ≤ 2 := WL
  obtain ⟨Q, hQ⟩ : ∃ Q, wnL ⟨(n : Int), nm, gs, ex⟩ = Q := ⟨_, rfl⟩
  rw [hQ] at HOQ hq2
  have HQ := Lib.hid hQ
  have ly : w.heap.size < wy.heap.size := (blk P3.out).2.2
  clear hQ e1 lx
  go_upto_region 6 with fail
  go_cut [3] (fun v wz => Hid (wz.ownsRow w1.heap.size 9 1 v (Q ++ gs).length (strV (Q ++ gs))) ∧ w1.heap.size ≤ wz.heap.size ∧ Hid (Below w.heap.size w wz) ∧ Hid (wz.heap[w.heap.size]? = some (.cells #[.int .i64 (n : Int), .string nm, .slice a gs.length c, .slice b ex.length d] 32 (0, 0))))
  case first =>
    obtain ⟨av, cv, rfl⟩ := owns_shape HOQ.out
    have e2 : wy.cell? ⟨w.heap.size, 2, none⟩ = some (.slice a gs.length c) := (blk P3.out).1 2 _ rfl
    have RY := Lib.hid (HR.out.below HB3.out)
    have hown := HOQ.out
    have h63 : Q.length + gs.length ≤ maxLen := by unfold maxLen; omega
    have hby : (Q.length + gs.length) * 16 ≤ 140737488355328 := by omega
    have hnews : ∀ ad, a = some ad → ∀ j u, (strV gs)[j]? = some u → wy.cell? (ad.add j) = some u := by
      intro ad ha j u hu
      have hj : j < gs.length := by have := (List.getElem?_eq_some_iff.1 hu).1; rwa [strV_length] at this
      obtain ⟨g, e, cc⟩ := RY.out j hj
      rw [ha] at e
      injection e with e
      subst e
      rw [add_plain, Nat.zero_add, cc]
      unfold strV at hu
      rw [List.getElem?_map, List.getElem?_eq_getElem hj] at hu
      exact hu
    have HNW := Lib.hid hnews
    have HNL : Hid (a = none → gs.length = 0 ∧ c = 0) := Lib.hid (fun ha => by
      refine ⟨?_, HNIL.out ha⟩
      rcases Nat.eq_zero_or_pos gs.length with h | h
      · exact h
      · obtain ⟨g, e, _⟩ := RY.out 0 h
        rw [ha] at e
        cases e)
    clear hnews
    go_wp2_with (at_builtin; refine wpList_append_src rfl _ _ 29 rfl w1.heap.size 9 i0 _ 16 Tryz.underlying29 hi hz0 hz1 hz2 rfl _ _ _ rfl hown a gs.length c (strV gs) rfl HNL.out (strV_length gs) HNW.out (strs_one gs) h63 hby hzy ?_)
    intro v' w4 hown4 hgrow
    have HO4 := Lib.hid (owns_strs (l := Q ++ gs) hown4 (by rw [strV_append]))
    have P4 := Lib.hid ((hgrow.block _ ly (fun e => by have := (hown.lt _ e.symm).1; omega)).trans P3.out)
    have HB4 : Hid (Below w.heap.size w w4) := Lib.hid (HB3.out.grown hgrow (by omega) (fun j hj => by have := (hown.lt j hj).1; omega))
    have hz4 : w1.heap.size ≤ w4.heap.size := by have := hgrow.size; omega
    clear hown4 hgrow hown
    go_wp2_with fail
    go_meet
    exact ⟨HO4, hz4, HB4, P4⟩
  case rest =>
  obtain ⟨HOR, hzz, HB5, P5⟩ := hcut
  rename World => wz
  have hr6 : (Q ++ gs).length ≤ 6 := by rw [List.length_append]; omega
  obtain ⟨R, hR⟩ : ∃ R, Q ++ gs = R := ⟨_, rfl⟩
  rw [hR] at HOR hr6
  have HRR := Lib.hid hR
  have lz : w.heap.size < wz.heap.size := (blk P5.out).2.2
  have e3 : wz.cell? ⟨w.heap.size, 3, none⟩ = some (.slice b ex.length d) := (blk P5.out).1 3 _ rfl
  obtain ⟨eb, heb⟩ : ∃ x, decide (0 < ex.length) = x := ⟨_, rfl⟩
  have HEB := Lib.hid heb
  clear hR heb hzy ly
  go_upto_region 7 with fail
  go_cut [28] (fun s wt => s = .bool eb ∧ wt = wz)
  case first =>
    go_wp2_with fail
    go_meet
    exact ⟨by rw [← HEB.out], rfl⟩
  case rest =>
  obtain ⟨rfl, rfl⟩ := hcut
  rename World => wt
  go_upto_if 28 with fail
  go_cut [3] (fun v wu => Hid (wu.ownsRow w1.heap.size 9 1 v (wordsL ⟨(n : Int), nm, gs, ex⟩).length (strV (wordsL ⟨(n : Int), nm, gs, ex⟩))) ∧ Hid (Below w.heap.size w wu))
  case first =>
    obtain ⟨av, cv, rfl⟩ := owns_shape HOR.out
    cases eb
    · have hx0 : ex.length = 0 := by have := of_decide_eq_false HEB.out; omega
      have HX : Hid (wordsL ⟨(n : Int), nm, gs, ex⟩ = R) := Lib.hid (by rw [WN.out]; rw [if_pos hx0, HQ.out, List.append_nil, HRR.out])
      clear hx0
      go_wp2_with fail
      go_meet
      exact ⟨Lib.hid (by rw [HX.out]; exact HOR.out), HB5⟩
    · have hx0 : ¬ ex.length = 0 := by have := of_decide_eq_true HEB.out; omega
      have hexb : exprB ex = true := by
        rcases LX.out with h | h
        · exact absurd (by rw [h]; rfl) hx0
        · exact h
      have hfz := fexZ_yes ex hexb
      obtain ⟨fx, hfx⟩ : ∃ x, fexZ ex = x := ⟨_, rfl⟩
      have HF := Lib.hid (fun W h hT => hfx ▸ i_fexpr b d ex W (by omega) h HN7.out hT)
      rw [hfx] at hfz
      have HX : Hid (wordsL ⟨(n : Int), nm, gs, ex⟩ = R ++ [fx]) := Lib.hid (by rw [WN.out]; rw [if_neg hx0, HQ.out, ← List.append_assoc, HRR.out, hfz])
      have h63 : R.length + 1 ≤ maxLen := by unfold maxLen; omega
      have hby : (R.length + 1) * 16 ≤ 140737488355328 := by omega
      have RX := Lib.hid (HT.out.below HB5.out)
      have TX := Lib.hid (pow_on HTAB.out HB5.out)
      clear hfz hfx hexb hx0
      go_wp2_with fail
      refine (HF.out _ RX.out TX.out).mono ?_
      rintro e w6 ⟨rfl, b6⟩
      have hown := owns_below HOR.out b6
      have hz6 := b6.size
      have HB6 : Hid (Below w.heap.size w w6) := Lib.hid (HB5.out.trans (b6.mono (by omega)))
      clear b6
      go_wp2_with (at_builtin; refine wpList_append_own _ rfl _ _ 29 rfl w1.heap.size 9 i0 _ 1 16 Tryz.underlying29 hi hz0 hz1 hz2 rfl (by decide) _ _ _ rfl (hown.alloc _) ⟨w6.heap.size, 0, none⟩ 1 1 [.string fx] rfl rfl ?c1 ?c2 h63 hby ?c5 ?_)
      case c1 => exact cell_one_new _ _ _
      case c2 => intro u hu; simp at hu; subst hu; rfl
      case c5 => simp; omega
      intro v' w7 hown7 hgrow _
      have HO7 := Lib.hid (owns_strs (l := R ++ [fx]) hown7 (by rw [strV_append]; rfl))
      have HB7 : Hid (Below w.heap.size w w7) := Lib.hid ((HB6.out.alloc (by omega) _).grown hgrow (by simp; omega) (fun j hj => by have := (hown.lt j hj).1; omega))
      clear hown7 hgrow hown
      go_wp2_with fail
      go_meet
      exact ⟨Lib.hid (by rw [HX.out]; exact HO7.out), HB7⟩
  case rest =>
  obtain ⟨HOW, HB8⟩ := hcut
  rename World => wu
  have hlb : (lnB ⟨(n : Int), nm, gs, ex⟩).length ≤ 460 := LL.out
  have hjb : Lib.join (bytesOf (wordsL ⟨(n : Int), nm, gs, ex⟩)) [32] = lnB ⟨(n : Int), nm, gs, ex⟩ := LW.out
  have hwl : (wordsL ⟨(n : Int), nm, gs, ex⟩).length ≤ 8 := by rw [WN.out]; rw [List.length_append, List.length_append]; have : (if ex.length = 0 then ([] : List ByteArray) else [⟨(jn ex).toArray⟩]).length ≤ 1 := by split <;> simp
                                                               omega
  have hw0 : 0 < (wordsL ⟨(n : Int), nm, gs, ex⟩).length := by rw [WN.out]; unfold wnL; simp
  obtain ⟨ws, hws⟩ : ∃ ws, wordsL ⟨(n : Int), nm, gs, ex⟩ = ws := ⟨_, rfl⟩
  rw [hws] at HOW hjb hwl hw0
  obtain ⟨g, cap, rfl, hgl, hgc, hcells⟩ := own_blk HOW.out hw0
  have J := Tryz.strings_Join g 0 cap ws ⟨#[32]⟩ wu hcells hgl (by omega) hgc (by show (Lib.join (bytesOf ws) [32]).length ≤ _; rw [hjb]; omega)
  rw [show (Lib.join (ws.map (·.data.toList)) (⟨#[32]⟩ : ByteArray).data.toList) = lnB ⟨(n : Int), nm, gs, ex⟩ from hjb] at J
  have HJ := Lib.hid J
  have hzu : w.heap.size ≤ wu.heap.size := HB8.out.size
  clear J hcells hjb hlb hws
  go_wp2_with fail
  refine HJ.out.mono ?_
  rintro e w9 ⟨rfl, b9⟩
  have HB9 : Hid (Below w.heap.size w w9) := Lib.hid (HB8.out.trans (b9.mono hzu))
  clear b9
  go_wp2
  go_ret
  exact ⟨ret_s (by rw [HV.out]), HB9.out⟩

set_option maxRecDepth 100000 in
set_option maxHeartbeats 1000000 in
theorem i_fline_no (p : PLine) (a b : Option Addr) (c d : Nat) (w : World) (hA : ReadS w a p.args) (hT : ReadT w b p.expr) (hl : lineB p = false) (hs : SzOk p c) (hsh : Shapes w) :
    Calls Tryz.prog 10 #[.agg #[.int .i64 p.kind, .string p.name, .slice a p.args.length c, .slice b p.expr.length d]] w fun e w' => e = .returned (.string (lineT p)) ∧ Below w.heap.size w w' := by
  have HV := Lib.hid (lineT_no p hl)
  have S := Lib.hid (fun W h1 h2 h3 => hl ▸ i_lineok p a b c d W h1 h2 hs h3)
  obtain ⟨k, nm, gs, ex⟩ := p
  dsimp only at HV S hA hT ⊢
  have HB0 := Lib.hid ((Below.refl w.heap.size w).alloc (Nat.le_refl _) (.cells #[.int .i64 k, .string nm, .slice a gs.length c, .slice b ex.length d] 32))
  have HR := Lib.hid hA
  have HT := Lib.hid hT
  have HSH := Lib.hid hsh
  clear hA hT hl hs hsh
  go_enter Tryz.func10, Tryz.ntmps10
  go_wp2_with fail
  refine (S.out _ (HR.out.below HB0.out) (HT.out.below HB0.out) (HSH.out.on HB0.out)).mono ?_
  rintro e w1 ⟨rfl, b1⟩
  have HB1 : Hid (Below w.heap.size w w1) := Lib.hid (HB0.out.trans (b1.mono (by simp)))
  clear b1
  go_wp2
  go_ret
  exact ⟨ret_s HV.out.symm, HB1.out⟩
theorem i_fline (p : PLine) (a b : Option Addr) (c d : Nat) (w : World) (hA : ReadS w a p.args) (hT : ReadT w b p.expr) (hs : SzOk p c) (hsh : Shapes w) (htab : Tab w) (hnil : a = none → c = 0) :
    Calls Tryz.prog 10 #[.agg #[.int .i64 p.kind, .string p.name, .slice a p.args.length c, .slice b p.expr.length d]] w fun e w' => e = .returned (.string (lineT p)) ∧ Below w.heap.size w w' := by
  cases hb : lineB p with
  | false => exact i_fline_no p a b c d w hA hT hb hs hsh
  | true => exact i_fline_yes p a b c d w hA hT hb hs hsh htab hnil
end Go.Proofs.YthmllcpldgbbcaaGreatDoor
