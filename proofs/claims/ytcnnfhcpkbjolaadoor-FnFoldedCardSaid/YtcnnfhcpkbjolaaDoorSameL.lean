/- Plain facts: '!=' between two tokens of the program's type; Two rows compared element by element: the model's functions; SameLine, of the model. Nothing of the program. -/
import Derived.Test.YtcnnfhcpkbjolaaDoorRows
import Derived.Test.YtcnnfhcpkbjolaaDoorPlainA
import Derived.Test.YtcnnfhcpkbjolaaDoorLineE
import Derived.Test.YtcnnfhcpkbjolaaDoorPlainB
import Derived.Outline
import Derived.Lib.Hide
import Derived.Laws.StructEq
import Derived.WalkSmall
import Derived.Deep.QuietTactic
import Derived.BigQuiet
/-! '!=' between two tokens of the program's type -/
namespace Go.Proofs.YtcnnfhcpkbjolaaDoor
open Go.RowKit Go.Lib

/-- Two tokens are equal in all fields. -/
def sameT (a b : TokL) : Bool := (a.kind == b.kind) && ((a.num == b.num) && (a.name.toList == b.name.toList))
theorem sameT_self (a : TokL) : sameT a a = true := by unfold sameT; simp
theorem sameT_iff (a b : TokL) : sameT a b = true ↔ a = b := by
  constructor
  · intro h
    unfold sameT at h
    simp only [Bool.and_eq_true, beq_iff_eq] at h
    obtain ⟨k, n, s⟩ := a
    obtain ⟨k', n', s'⟩ := b
    obtain ⟨h1, h2, h3⟩ := h
    dsimp only at h1 h2 h3
    subst h1 h2
    have : s = s' := bl_eq (by rw [ByteArray.toList_eq, ByteArray.toList_eq] at h3; exact h3)
    rw [this]
  · rintro rfl; exact sameT_self a
theorem tok_fields : (Tryd.prog.fieldsOf 83).toList.map (fun f => (f.name, f.type, f.offset)) = [("Kind", 3, 0), ("Num", 3, 1), ("Name", 9, 2)] := by kernel_rfl
theorem tok_u : Tryd.prog.underlying 3 = some (.int .i64) ∧ Tryd.prog.underlying 9 = some .string := ⟨by kernel_rfl, by kernel_rfl⟩
theorem tok_part (t : TypeId) (cs : Array Value) (o : Nat) (v : Value) (w : World) (ht : (isAgg t).run Tryd.prog w = .ok false w) (hv : cs[o]? = some v) : (part t cs o).run Tryd.prog w = .ok v w := by
  unfold part
  simp only [Sem.run_bind, ht, Result.andThen_ok, Bool.false_eq_true, if_false, hv, Sem.run_pure]
theorem tok_eqf (d : Nat) (a b : TokL) (w : World) (fs : List Field) (hl : fs.map (fun f => (f.name, f.type, f.offset)) = [("Kind", 3, 0), ("Num", 3, 1), ("Name", 9, 2)]) :
    (Op.eqFields (d + 1) #[.int .i64 a.kind, .int .i64 a.num, .string a.name] #[.int .i64 b.kind, .int .i64 b.num, .string b.name] fs).run Tryd.prog w = .ok (sameT a b) w := by
  have h3 : fs.length = 3 := by simpa using congrArg List.length hl
  match fs, h3 with
  | [f0, f1, f2], _ =>
    simp only [List.map_cons, List.map_nil, List.cons.injEq, Prod.mk.injEq, and_true] at hl
    obtain ⟨⟨n0, t0, o0⟩, ⟨n1, t1, o1⟩, n2, t2, o2⟩ := hl
    have aI : ∀ W, (isAgg 3).run Tryd.prog W = .ok false W := fun _ => by kernel_rfl
    have aS : ∀ W, (isAgg 9).run Tryd.prog W = .ok false W := fun _ => by kernel_rfl
    have p0 := fun W => tok_part 3 #[.int .i64 a.kind, .int .i64 a.num, .string a.name] 0 (.int .i64 a.kind) W (aI W) rfl
    have q0 := fun W => tok_part 3 #[.int .i64 b.kind, .int .i64 b.num, .string b.name] 0 (.int .i64 b.kind) W (aI W) rfl
    have p1 := fun W => tok_part 3 #[.int .i64 a.kind, .int .i64 a.num, .string a.name] 1 (.int .i64 a.num) W (aI W) rfl
    have q1 := fun W => tok_part 3 #[.int .i64 b.kind, .int .i64 b.num, .string b.name] 1 (.int .i64 b.num) W (aI W) rfl
    have p2 := fun W => tok_part 9 #[.int .i64 a.kind, .int .i64 a.num, .string a.name] 2 (.string a.name) W (aS W) rfl
    have q2 := fun W => tok_part 9 #[.int .i64 b.kind, .int .i64 b.num, .string b.name] 2 (.string b.name) W (aS W) rfl
    have eI := fun W (x y : Int) => run_equalIn_int (P := Tryd.prog) W d 3 .i64 .i64 x y tok_u.1
    have eS := fun W (x y : ByteArray) => run_equalIn_string (P := Tryd.prog) W d 9 x y tok_u.2
    simp only [Op.eqFields, n0, n1, n2, t0, t1, t2, o0, o1, o2, ne_eq, String.reduceEq, not_false_eq_true, if_true, Sem.run_bind, Result.andThen_ok, Sem.run_ite, Sem.run_pure, p0, q0, p1, q1, p2, q2, eI, eS]
    unfold sameT
    cases a.kind == b.kind <;> cases a.num == b.num <;> cases a.name.toList == b.name.toList <;> rfl
theorem tok_neq (a b : TokL) (w : World) : (binOp .neq 83 (.agg #[.int .i64 a.kind, .int .i64 a.num, .string a.name]) (.agg #[.int .i64 b.kind, .int .i64 b.num, .string b.name])).run Tryd.prog w = .ok (.bool (!sameT a b)) w := by
  rw [run_neq_struct]
  have h := run_equalIn_agg (P := Tryd.prog) w 9999 83 #[.int .i64 a.kind, .int .i64 a.num, .string a.name] #[.int .i64 b.kind, .int .i64 b.num, .string b.name] (by kernel_rfl) (by kernel_rfl)
  have h2 := tok_eqf 9998 a b w _ tok_fields
  rw [show (Op.equalIn 10000 83 (.agg #[.int .i64 a.kind, .int .i64 a.num, .string a.name]) (.agg #[.int .i64 b.kind, .int .i64 b.num, .string b.name])).run Tryd.prog w = .ok (sameT a b) w from h.trans h2]
  rfl
end Go.Proofs.YtcnnfhcpkbjolaaDoor

/-! Two rows compared element by element: the model's functions -/
namespace Go.Proofs.YtcnnfhcpkbjolaaDoor
open Go.RowKit Go.Lib

set_option maxHeartbeats 1000000 in
theorem s_texts (a b : Option Addr) (c d : Nat) (l m : List ByteArray) (w : World) (ha : ReadS w a l) (hb : ReadS w b m) (hl : l.length ≤ 2000000) (hm : m.length ≤ 2000000) :
    Calls Tryd.prog 69 #[.slice a l.length c, .slice b m.length d] w fun e w' => e = .returned (.bool (textsB l m)) ∧ Below w.heap.size w w' := by
  by_cases hlen : l.length = m.length
  · obtain ⟨n, hn⟩ : ∃ n, l.length = n := ⟨_, rfl⟩
    have HA : Hid (∀ j, j < n → ∃ h : j < l.length, True) := Lib.hid (fun j hj => ⟨by omega, trivial⟩)
    have HL := Lib.hid hn
    have HM : Hid (m.length = n) := Lib.hid (by omega)
    rw [← hlen, hn]
    have RA := Lib.hid ha
    have RB := Lib.hid hb
    have hn2 : n ≤ 2000000 := by omega
    clear ha hb hlen hn hl hm
    go_enter Tryd.func69, Tryd.ntmps69
    go_wp2_with fail
    go_loopw [5] (fun i wr => ∃ (k q : Nat), k ≤ n ∧ i = .int .i64 (k : Int) ∧ Hid (l.take k = m.take k) ∧ wr = w.drewN q) (fun i _ => n - (RowKit.intOf i).toNat)
    case atStart => exact ⟨0, 0, Nat.zero_le _, rfl, Lib.hid (by simp), rfl⟩
    case round =>
      obtain ⟨k, q, hk, rfl, HT, rfl⟩ := hrel
      by_cases hlt : k < n
      · have hla : k < l.length := by rw [HL.out]; exact hlt
        have hlb : k < m.length := by rw [HM.out]; exact hlt
        obtain ⟨g, rfl, c1⟩ := RA.out k hla
        obtain ⟨g', rfl, c2⟩ := RB.out k hlb
        have NX := Lib.hid (same_next l m k hla hlb HT.out)
        have NO := Lib.hid (textsB_no l m k hla hlb)
        obtain ⟨x, hx⟩ : ∃ x, l[k] = x := ⟨_, rfl⟩
        obtain ⟨y, hy⟩ : ∃ y, m[k] = y := ⟨_, rfl⟩
        rw [hx] at c1 NX NO
        rw [hy] at c2 NX NO
        have k0 : (0 : Int) ≤ (k : Int) := by omega
        have k1 : (k : Int) < (n : Int) := by omega
        clear hx hy hla hlb
        by_cases hxy : x = y
        · subst hxy
          have NY := Lib.hid (NX.out rfl)
          clear NX NO
          go_wp2_with fail
          go_quiet (fail)
          go_wp2
          go_roundw
          case rel => exact ⟨k + 1, _, by omega, by go_num, NY, rfl⟩
          case measure => simp [RowKit.intOf]; omega
        · have hsf := str_ne x y hxy
          have hsg := str_ne' x y hxy
          have HV := Lib.hid (NO.out hxy)
          clear hxy
          go_wp2_with fail
          go_quiet (fail)
          go_wp2
          go_ret
          exact ⟨ret_b HV.out.symm, below_drewN (below_drewN (Below.refl _ _) q) _⟩
      · have hall : l = m := by
          have h := HT.out
          rwa [List.take_of_length_le (by rw [HL.out]; omega), List.take_of_length_le (by rw [HM.out]; omega)] at h
        have HV := Lib.hid ((textsB_iff l m).2 hall)
        clear hall
        go_wp2
        go_ret
        exact ⟨ret_b HV.out.symm, below_drewN (Below.refl _ _) q⟩
  · have HV := Lib.hid (textsB_len l m hlen)
    have h1 : ((l.length : Int) == (m.length : Int)) = false := beq_eq_false_iff_ne.2 (by omega)
    have h2 : ((l.length : Int) != (m.length : Int)) = true := by simp only [bne, h1]; rfl
    have h3 : (l.length == m.length) = false := beq_eq_false_iff_ne.2 hlen
    have h4 : (l.length != m.length) = true := by simp only [bne, h3]; rfl
    clear ha hb hlen
    go_enter Tryd.func69, Tryd.ntmps69
    go_wp2
    go_ret
    exact ⟨ret_b HV.out.symm, Below.refl _ _⟩

set_option maxHeartbeats 1000000 in
theorem s_toks (a b : Option Addr) (c d : Nat) (l m : List TokL) (w : World) (ha : ReadT w a l) (hb : ReadT w b m) (hl : l.length ≤ 2000000) (hm : m.length ≤ 2000000) :
    Calls Tryd.prog 70 #[.slice a l.length c, .slice b m.length d] w fun e w' => e = .returned (.bool (toksB l m)) ∧ Below w.heap.size w w' := by
  by_cases hlen : l.length = m.length
  · obtain ⟨n, hn⟩ : ∃ n, l.length = n := ⟨_, rfl⟩
    have HA : Hid (∀ j, j < n → ∃ h : j < l.length, True) := Lib.hid (fun j hj => ⟨by omega, trivial⟩)
    have HL := Lib.hid hn
    have HM : Hid (m.length = n) := Lib.hid (by omega)
    rw [← hlen, hn]
    have RA := Lib.hid ha
    have RB := Lib.hid hb
    have hn2 : n ≤ 2000000 := by omega
    clear ha hb hlen hn hl hm
    go_enter Tryd.func70, Tryd.ntmps70
    go_wp2_with fail
    go_loopw [5] (fun i wr => ∃ (k q : Nat), k ≤ n ∧ i = .int .i64 (k : Int) ∧ Hid (l.take k = m.take k) ∧ wr = w.drewN q) (fun i _ => n - (RowKit.intOf i).toNat)
    case atStart => exact ⟨0, 0, Nat.zero_le _, rfl, Lib.hid (by simp), rfl⟩
    case round =>
      obtain ⟨k, q, hk, rfl, HT, rfl⟩ := hrel
      by_cases hlt : k < n
      · have hla : k < l.length := by rw [HL.out]; exact hlt
        have hlb : k < m.length := by rw [HM.out]; exact hlt
        obtain ⟨g, rfl, hg, c0, c1, c2⟩ := RA.out k hla
        obtain ⟨g', rfl, hg', c0', c1', c2'⟩ := RB.out k hlb
        have NX := Lib.hid (same_next l m k hla hlb HT.out)
        have NO := Lib.hid (toksB_no l m k hla hlb)
        obtain ⟨x, hx⟩ : ∃ x, l[k] = x := ⟨_, rfl⟩
        obtain ⟨y, hy⟩ : ∃ y, m[k] = y := ⟨_, rfl⟩
        rw [hx] at c0 c1 c2 NX NO
        rw [hy] at c0' c1' c2' NX NO
        have k0 : (0 : Int) ≤ (k : Int) := by omega
        have k1 : (k : Int) < (n : Int) := by omega
        have hc : ∀ i v, (w.cell? ⟨g, i, none⟩ = some v → (w.drewN q).cell? ⟨g, i, none⟩ = some v) := fun _ _ h => h
        have hg1 : g < (w.drewN q).heap.size := hg
        have hg2 : g' < (w.drewN q).heap.size := hg'
        have HNE := Lib.hid (fun W => tok_neq x y W)
        clear hx hy hla hlb hc
        by_cases hxy : x = y
        · subst hxy
          have NY := Lib.hid (NX.out rfl)
          clear NX NO
          have hne : ∀ W, (binOp .neq 83 (.agg #[.int .i64 x.kind, .int .i64 x.num, .string x.name]) (.agg #[.int .i64 x.kind, .int .i64 x.num, .string x.name])).run Tryd.prog W = .ok (.bool false) W := fun W => by rw [HNE.out W, sameT_self]; rfl
          go_wp2_with fail
          go_quiet (fail)
          go_wp2
          go_roundw
          case rel => exact ⟨k + 1, _, by omega, by go_num, NY, rfl⟩
          case measure => simp [RowKit.intOf]; omega
        · have hsf : sameT x y = false := by
            cases h : sameT x y with
            | false => rfl
            | true => exact absurd ((sameT_iff x y).1 h) hxy
          have hne : ∀ W, (binOp .neq 83 (.agg #[.int .i64 x.kind, .int .i64 x.num, .string x.name]) (.agg #[.int .i64 y.kind, .int .i64 y.num, .string y.name])).run Tryd.prog W = .ok (.bool true) W := fun W => by rw [HNE.out W, hsf]; rfl
          have HV := Lib.hid (NO.out hxy)
          clear hsf hxy
          go_wp2_with fail
          go_quiet (fail)
          go_wp2
          go_ret
          exact ⟨ret_b HV.out.symm, below_drewN (below_drewN (Below.refl _ _) q) _⟩
      · have hall : l = m := by
          have h := HT.out
          rwa [List.take_of_length_le (by rw [HL.out]; omega), List.take_of_length_le (by rw [HM.out]; omega)] at h
        have HV := Lib.hid ((toksB_iff l m).2 hall)
        clear hall
        go_wp2
        go_ret
        exact ⟨ret_b HV.out.symm, below_drewN (Below.refl _ _) q⟩
  · have HV := Lib.hid (toksB_len l m hlen)
    have h1 : ((l.length : Int) == (m.length : Int)) = false := beq_eq_false_iff_ne.2 (by omega)
    have h2 : ((l.length : Int) != (m.length : Int)) = true := by simp only [bne, h1]; rfl
    have h3 : (l.length == m.length) = false := beq_eq_false_iff_ne.2 hlen
    have h4 : (l.length != m.length) = true := by simp only [bne, h3]; rfl
    clear ha hb hlen
    go_enter Tryd.func70, Tryd.ntmps70
    go_wp2
    go_ret
    exact ⟨ret_b HV.out.symm, Below.refl _ _⟩
end Go.Proofs.YtcnnfhcpkbjolaaDoor

/-! SameLine, of the model -/
namespace Go.Proofs.YtcnnfhcpkbjolaaDoor
open Go.RowKit Go.Lib

set_option maxRecDepth 100000 in
set_option maxHeartbeats 1000000 in
theorem s_sameLine (p q : PLine) (a1 a2 b1 b2 : Option Addr) (c1 c2 d1 d2 : Nat) (w : World) (h1 : ReadS w a1 p.args) (h2 : ReadS w a2 q.args) (h3 : ReadT w b1 p.expr) (h4 : ReadT w b2 q.expr)
    (l1 : p.args.length ≤ 2000000) (l2 : q.args.length ≤ 2000000) (l3 : p.expr.length ≤ 2000000) (l4 : q.expr.length ≤ 2000000) :
    Calls Tryd.prog 34 #[.agg #[.int .i64 p.kind, .string p.name, .slice a1 p.args.length c1, .slice b1 p.expr.length d1], .agg #[.int .i64 q.kind, .string q.name, .slice a2 q.args.length c2, .slice b2 q.expr.length d2]] w
      fun e w' => e = .returned (.bool (sameLB p q)) ∧ Below w.heap.size w w' := by
  have H1 := Lib.hid h1
  have H2 := Lib.hid h2
  have H3 := Lib.hid h3
  have H4 := Lib.hid h4
  clear h1 h2 h3 h4
  obtain ⟨k, nm, gs, ex⟩ := p
  obtain ⟨k', nm', gs', ex'⟩ := q
  dsimp only at H1 H2 H3 H4 l1 l2 l3 l4 ⊢
  have T := Lib.hid (two_new w (.cells #[.int .i64 k, .string nm, .slice a1 gs.length c1, .slice b1 ex.length d1] 48) (.cells #[.int .i64 k', .string nm', .slice a2 gs'.length c2, .slice b2 ex'.length d2] 48))
  by_cases hk : k = k'
  case neg =>
    have HV : Hid (sameLB ⟨k, nm, gs, ex⟩ ⟨k', nm', gs', ex'⟩ = false) := Lib.hid (by unfold sameLB; dsimp only; rw [decide_eq_false hk]; rfl)
    have hk1 : (k == k') = false := beq_eq_false_iff_ne.2 hk
    clear hk
    go_enter Tryd.func34, Tryd.ntmps34
    go_wp2
    go_ret
    exact ⟨ret_b HV.out.symm, T.out.2.2.2⟩
  subst hk
  by_cases hn : nm = nm'
  case neg =>
    have HV : Hid (sameLB ⟨k, nm, gs, ex⟩ ⟨k, nm', gs', ex'⟩ = false) := Lib.hid (by unfold sameLB; dsimp only; rw [decide_eq_false hn, decide_eq_true rfl]; rfl)
    have hn1 := str_ne nm nm' hn
    clear hn
    go_enter Tryd.func34, Tryd.ntmps34
    go_wp2
    go_ret
    exact ⟨ret_b HV.out.symm, T.out.2.2.2⟩
  subst hn
  have HV : Hid (sameLB ⟨k, nm, gs, ex⟩ ⟨k, nm, gs', ex'⟩ = (textsB gs gs' && toksB ex ex')) := Lib.hid (by unfold sameLB; dsimp only; rw [decide_eq_true rfl, decide_eq_true rfl]; rfl)
  have S := Lib.hid (fun (W : World) h h' => s_texts a1 a2 c1 c2 gs gs' W h h' l1 l2)
  have S' := Lib.hid (fun (W : World) h h' => s_toks b1 b2 d1 d2 ex ex' W h h' l3 l4)
  obtain ⟨x, hx⟩ : ∃ x, textsB gs gs' = x := ⟨_, rfl⟩
  obtain ⟨y, hy⟩ : ∃ y, toksB ex ex' = y := ⟨_, rfl⟩
  rw [hx] at S HV
  rw [hy] at S' HV
  clear hx hy
  go_enter Tryd.func34, Tryd.ntmps34
  go_wp2_with fail
  refine (S.out _ (H1.out.below T.out.2.2.2) (H2.out.below T.out.2.2.2)).mono ?_
  rintro e w1 ⟨rfl, q1⟩
  obtain ⟨t0, t1, tz, tb⟩ := T.out
  rw [tz] at q1
  have p0 := (q1.block _ (by omega)).trans t0
  have p1 := (q1.block _ (by omega)).trans t1
  have z1 := q1.size
  rw [tz] at z1
  have HB1 : Hid (Below w.heap.size w w1) := Lib.hid (tb.trans (q1.mono (by omega)))
  have e0 : w1.cell? ⟨w.heap.size, 3, none⟩ = some (.slice b1 ex.length d1) := (blk p0).1 3 _ rfl
  have e1 : w1.cell? ⟨w.heap.size + 1, 3, none⟩ = some (.slice b2 ex'.length d2) := (blk p1).1 3 _ rfl
  clear t0 t1 tz tb p0 p1 q1
  cases x
  · go_wp2
    go_ret
    exact ⟨ret_b HV.out.symm, HB1.out⟩
  · go_wp2_with fail
    refine (S'.out _ (H3.out.below HB1.out) (H4.out.below HB1.out)).mono ?_
    rintro e w2 ⟨rfl, q2⟩
    have HB2 : Hid (Below w.heap.size w w2) := Lib.hid (HB1.out.trans (q2.mono (by omega)))
    clear q2
    go_wp2
    go_ret
    exact ⟨ret_b (by rw [HV.out]; rfl), HB2.out⟩
end Go.Proofs.YtcnnfhcpkbjolaaDoor
