/- The law FnOps holds for every row of bytes. No condition. -/
import Derived.Test.YtcflojdkaddemaaDrawOps
import Derived.Test.YtcflojdkaddemaaOpMark
import Derived.Test.YtcflojdkaddemaaOpDisI
import Derived.Test.YtcflojdkaddemaaOpEncI
import Derived.Test.YtcflojdkaddemaaBig
import Derived.Deep.QuietTactic
import Derived.BigQuiet
import Derived.ProofKit
import Derived.OpenShut
import Derived.ShutString
import Derived.ChangeOld
import Derived.Below
namespace Go.Proofs.Ytcflojdkaddemaa.fnOps
open Go.ChangeShapes Go.WideShapes Go.ChangeAt Go.RowKit Go.Lib
open Go.ChangeMaps (open_string shut_string)

/-- The bytes of instructions, as a text. -/
def txt (L : List OpL) : ByteArray := ⟨(L.flatMap opBytes).toArray⟩
theorem txt_list (L : List OpL) : (txt L).data.toList = L.flatMap opBytes := rfl
theorem txt_size (L : List OpL) : (txt L).size = (L.flatMap opBytes).length := by rw [← list_len, txt_list]
theorem flat_le (L : List OpL) : (L.flatMap opBytes).length ≤ 5 * L.length := by
  induction L with
  | nil => exact Nat.le_refl _
  | cons x r ih =>
    rw [List.flatMap_cons, List.length_append, opBytes_length, List.length_cons]
    have := widN_le x.code
    omega
theorem txt_next (L : List OpL) (k : Nat) (h : k < L.length) : txt (L.take k) ++ ⟨(opBytes L[k]).toArray⟩ = txt (L.take (k + 1)) := by
  apply bl_eq
  rw [app_list, txt_list, txt_list, List.take_succ_eq_append_getElem h, List.flatMap_append]
  simp
theorem arg_wf (x : OpL) (h : insB x = true) : (Lit.int .i64 x.arg).wf = true := by
  obtain ⟨_, h1, h2⟩ := insB_parts x h
  have h3 : -2147483648 ≤ x.arg ∧ x.arg ≤ 2147483647 := by have := fit_cases x.code; omega
  simp [Lit.wf, IntKind.min, IntKind.max, IntKind.bits, IntKind.signed]
  omega
theorem enc_is (x : OpL) (h : insB x = true) : encL ⟨x.code, x.arg⟩ = opBytes x := by unfold encL; rw [show (⟨x.code, x.arg⟩ : OpL) = x from rfl, if_pos h]
theorem siz_is (x : OpL) (h : insB x = true) : sizZ x.code = ((1 + widN x.code : Nat) : Int) := by
  have h1 := (insB_parts x h).1
  rw [sizZ_code x.code h1.1 h1.2]
  omega
theorem take_step (L : List OpL) (k : Nat) (h : k < L.length) : ((L.take (k + 1)).flatMap opBytes).length = ((L.take k).flatMap opBytes).length + (1 + widN L[k].code) := by
  rw [List.take_succ_eq_append_getElem h, List.flatMap_append, List.length_append]
  simp [opBytes_length]
theorem dec_here (L : List OpL) (k : Nat) (h : k < L.length) (hi : ∀ x ∈ L, insB x = true) :
    decZ ((⟨#[97, 98]⟩ : ByteArray) ++ txt L).data.toList ((((L.take k).flatMap opBytes).length + 2 : Nat) : Int) = some (L[k], 1 + widN L[k].code) := by
  have e : ((⟨#[97, 98]⟩ : ByteArray) ++ txt L).data.toList = ([97, 98] ++ (L.take k).flatMap opBytes) ++ (opBytes L[k] ++ (L.drop (k + 1)).flatMap opBytes) := by
    rw [app_list, txt_list]
    have : L.flatMap opBytes = (L.take k).flatMap opBytes ++ (opBytes L[k] ++ (L.drop (k + 1)).flatMap opBytes) := by
      conv => lhs; rw [← List.take_append_drop k L, List.drop_eq_getElem_cons h]
      rw [List.flatMap_append, List.flatMap_cons]
    rw [this, List.append_assoc]
  have hl : ([97, 98] ++ (L.take k).flatMap opBytes).length = ((L.take k).flatMap opBytes).length + 2 := by rw [List.length_append]; simp; omega
  rw [e, ← hl]
  exact decZ_at _ _ (hi _ (List.getElem_mem h)) _
theorem dis_here (L : List OpL) (hi : ∀ x ∈ L, insB x = true) : disL (txt L).data.toList = L ∧ disB (txt L).data.toList = true := by
  have h := disZ_enc L hi []
  rw [List.append_nil, disZ_nil] at h
  unfold disL disB
  rw [txt_list, h]
  simp
theorem dis_more (L : List OpL) (hi : ∀ x ∈ L, insB x = true) : disB (txt L ++ ⟨#[255]⟩).data.toList = false := by
  have h := disZ_enc L hi [255]
  rw [disZ_end] at h
  unfold disB
  rw [app_list, txt_list]
  show (disZ (L.flatMap opBytes ++ [255])).isSome = false
  rw [h]
  rfl
theorem run_neq_op (c a : Int) (w : World) : (binOp .neq 28 (.agg #[.int .i64 c, .int .i64 a]) (.agg #[.int .i64 c, .int .i64 a])).run Try.prog w = .ok (.bool false) w := by
  rw [run_neq_struct]
  simp [go_sem]

set_option maxRecDepth 100000 in
set_option maxHeartbeats 2000000 in
theorem walk (a0 : Option Addr) (len0 cap0 : Nat) (z0 : List Int) (w : World) (w0 : IsRow .u8 w a0 len0 cap0 z0) :
    Calls Try.prog 3 #[.slice a0 len0 cap0] w fun e w' => e = .returned (.bool true) ∧ Below w.heap.size w w' := by
  have HC := Lib.hid w0
  have hlen : len0 ≤ 9223372036854775807 := by
    rcases w0 with ⟨_, rfl, _, _⟩ | ⟨x, _, h1, h2, _⟩
    · omega
    · unfold maxLen at h2; omega
  clear w0
  by_cases hb : 1048576 < len0
  · go_enter Try.func3, Try.ntmps3
    go_wp2_with fail
    refine (big_yes a0 len0 cap0 _ hb hlen).mono ?_
    rintro e w' ⟨rfl, rfl⟩
    go_wp2
    go_ret
    exact ⟨rfl, Below.refl _ _⟩
  go_enter Try.func3, Try.ntmps3
  go_wp2_with fail
  refine (big_no a0 len0 cap0 _ (by omega)).mono ?_
  rintro e w' ⟨rfl, rfl⟩
  go_wp2_with fail
  refine (d_ops a0 len0 cap0 z0 _ HC.out (by omega)).mono ?_
  rintro e w1 ⟨v, L, rfl, hval, hL9, hown, b1⟩
  obtain ⟨ga, gc, rfl⟩ := owns3_shape hown
  have R1 := Lib.hid (readP_of hown)
  have HV := Lib.hid hval
  have HB1 := Lib.hid b1
  have z1 := b1.size
  have HT0 : Hid (txt (L.take 0) = ⟨#[]⟩) := Lib.hid rfl
  clear hown b1 hval hb hlen HC
  go_wp2_with fail
  go_loopw [4, 5, 6] (fun t i _ wr => ∃ k : Nat, k ≤ L.length ∧ i = .int .i64 (k : Int) ∧ t = .string (txt (L.take k)) ∧ Below w1.heap.size w1 wr)
    (fun _ i _ _ => L.length - (intOf i).toNat)
  case atStart => exact ⟨0, Nat.zero_le _, rfl, by rw [HT0.out], Below.refl _ _⟩
  case round =>
    obtain ⟨k, hk, rfl, rfl, hbel⟩ := hrel
    have HB := Lib.hid hbel
    have zr := hbel.size
    clear hbel
    by_cases hlt : k < L.length
    · have HR := Lib.hid (R1.out.below HB.out)
      obtain ⟨g, rfl, hg, c0, c1⟩ := HR.out k hlt
      have hx := HV.out _ (List.getElem_mem hlt)
      have HN := Lib.hid (txt_next L k hlt)
      have hts : (txt (L.take k)).size ≤ 45 := by
        rw [txt_size]
        have := flat_le (L.take k)
        rw [List.length_take] at this
        omega
      have htz : (txt (L.take (k + 1))).size ≤ 45 := by
        rw [txt_size]
        have := flat_le (L.take (k + 1))
        rw [List.length_take] at this
        omega
      obtain ⟨x, hxe⟩ : ∃ x, L[k] = x := ⟨_, rfl⟩
      rw [hxe] at c0 c1 hx HN
      have EN := Lib.hid (fun W => i_enc7 x.code x.arg W (arg_wf x hx))
      have OK := Lib.hid (fun W => i_ok7 x.code x.arg W (arg_wf x hx))
      have SI := Lib.hid (fun W => i_size x.code W)
      rw [enc_is x hx] at EN
      rw [show insB ⟨x.code, x.arg⟩ = true from hx] at OK
      rw [siz_is x hx] at SI
      obtain ⟨T, hT⟩ : ∃ T : ByteArray, ⟨(opBytes x).toArray⟩ = T := ⟨_, rfl⟩
      have hTs : T.size = 1 + widN x.code := by rw [← hT, ← list_len]; show (opBytes x).length = _; rw [opBytes_length]
      rw [hT] at EN HN
      rw [← hTs] at SI
      obtain ⟨xc, hxc⟩ : ∃ y, x.code = y := ⟨_, rfl⟩
      obtain ⟨xa, hxa⟩ : ∃ y, x.arg = y := ⟨_, rfl⟩
      rw [hxc, hxa] at EN OK
      rw [hxc] at SI c0
      rw [hxa] at c1
      have ADD : Hid (∀ W : World, (Op.stringOp .add (txt (L.take k)) T).run Try.prog W = .ok (.string (txt (L.take (k + 1)))) W) := Lib.hid (fun W => by
        have h := run_string_add_sum (P := Try.prog) (w := W) (txt (L.take k)) T (by have h := congrArg ByteArray.size HN.out; rw [ByteArray.size_append] at h; omega)
        rw [HN.out] at h
        exact h)
      obtain ⟨t0, ht0⟩ : ∃ t, txt (L.take k) = t := ⟨_, rfl⟩
      obtain ⟨t1, ht1⟩ : ∃ t, txt (L.take (k + 1)) = t := ⟨_, rfl⟩
      rw [ht0, ht1] at ADD
      rw [ht0]
      have HT1 := Lib.hid ht1
      have k0 : (0 : Int) ≤ (k : Int) := by omega
      have k1 : (k : Int) < (L.length : Int) := by omega
      have HC0 : Hid (∀ W, Below wr.heap.size wr W → W.cell? ⟨g, k * 2, none⟩ = some (.int .i64 xc) ∧ W.cell? ⟨g, k * 2 + 1, none⟩ = some (.int .i64 xa)) := Lib.hid (fun W hb => ⟨(hb.cell (p := ⟨g, _, none⟩) hg).trans c0, (hb.cell (p := ⟨g, _, none⟩) hg).trans c1⟩)
      clear hxe hx hts htz hT hTs hxc hxa ht0 ht1 HN
      go_wp2_with fail
      refine (EN.out _).mono ?_
      rintro e w2 ⟨rfl, b2⟩
      have HB2 := Lib.hid b2
      obtain ⟨d0, d1⟩ := HC0.out _ b2
      clear c0 c1 b2
      go_wp2_with fail
      refine (SI.out _).mono ?_
      rintro e w3 ⟨rfl, b3⟩
      have HB3 : Hid (Below wr.heap.size wr w3) := Lib.hid (HB2.out.trans (b3.mono HB2.out.size))
      obtain ⟨e0, e1⟩ := HC0.out _ HB3.out
      clear d0 d1 b3
      go_wp2_with fail
      refine (OK.out _).mono ?_
      rintro e w4 ⟨rfl, b4⟩
      have HB4 : Hid (Below w1.heap.size w1 w4) := Lib.hid (HB.out.trans ((HB3.out.trans (b4.mono HB3.out.size)).mono zr))
      clear e0 e1 b4
      have hadd := fun W => ADD.out W
      go_wp2
      go_roundw
      case rel => exact ⟨k + 1, by omega, by go_num, by rw [HT1.out], HB4.out⟩
      case measure => simp [intOf]; omega
    · have hkk : k = L.length := by omega
      subst hkk
      rw [List.take_length]
      have HDIS := Lib.hid (dis_here L HV.out)
      have HMORE := Lib.hid (dis_more L HV.out)
      have hts : (txt L).size ≤ 45 := by
        rw [txt_size]
        have := flat_le L
        omega
      have DI : Hid (∀ W : World, Calls Try.prog 14 #[.string (txt L)] W (OpRow W.heap.size L true W)) := Lib.hid (fun W => by
        have h := i_dis (txt L) W (by omega)
        rw [HDIS.out.1, HDIS.out.2] at h
        exact h)
      have DM : Hid (∀ W : World, Calls Try.prog 14 #[.string (txt L ++ ⟨#[255]⟩)] W (OpRow W.heap.size (disL (txt L ++ ⟨#[255]⟩).data.toList) false W)) := Lib.hid (fun W => by
        have h := i_dis (txt L ++ ⟨#[255]⟩) W (by rw [ByteArray.size_append]; show (txt L).size + 1 ≤ _; omega)
        rw [HMORE.out] at h
        exact h)
      have DE : Hid (∀ (k : Nat) (hk : k < L.length) (W : World), Calls Try.prog 15 #[.string ((⟨#[97, 98]⟩ : ByteArray) ++ txt L), .int .i64 (((txt (L.take k)).size : Int) + 2)] W fun e w' => e = .returned (.tuple #[.agg #[.int .i64 L[k].code, .int .i64 L[k].arg], .int .i64 ((1 + widN L[k].code : Nat) : Int), .bool true]) ∧ Below W.heap.size W w') := Lib.hid (fun k hk W => by
        have h := i_dec7 ((⟨#[97, 98]⟩ : ByteArray) ++ txt L) (((txt (L.take k)).size : Int) + 2) W (by rw [ByteArray.size_append]; show 2 + (txt L).size ≤ _; omega)
        rw [show ((txt (L.take k)).size : Int) + 2 = ((((L.take k).flatMap opBytes).length + 2 : Nat) : Int) from by rw [txt_size]; omega, dec_here L k hk HV.out] at h
        rw [show ((txt (L.take k)).size : Int) + 2 = ((((L.take k).flatMap opBytes).length + 2 : Nat) : Int) from by rw [txt_size]; omega]
        exact h)
      have ST : Hid (∀ (k : Nat) (hk : k < L.length), (txt (L.take (k + 1))).size = (txt (L.take k)).size + (1 + widN L[k].code)) := Lib.hid (fun k hk => by rw [txt_size, txt_size]; exact take_step L k hk)
      have SB : Hid (∀ k, (txt (L.take k)).size ≤ 45) := Lib.hid (fun k => by
        rw [txt_size]
        have := flat_le (L.take k)
        rw [List.length_take] at this
        omega)
      have S0 : Hid ((txt (L.take 0)).size = 0) := Lib.hid rfl
      have SL : Hid ((txt (L.take L.length)).size = (txt L).size) := Lib.hid (by rw [List.take_length])
      have ADD1 : Hid (∀ W : World, (Op.stringOp .add ⟨#[97, 98]⟩ (txt L)).run Try.prog W = .ok (.string ((⟨#[97, 98]⟩ : ByteArray) ++ txt L)) W) := Lib.hid (fun W => run_string_add_sum (w := W) ⟨#[97, 98]⟩ (txt L) (by show 2 + (txt L).size ≤ _; omega))
      have ADD2 : Hid (∀ W : World, (Op.stringOp .add (txt L) ⟨#[255]⟩).run Try.prog W = .ok (.string (txt L ++ ⟨#[255]⟩)) W) := Lib.hid (fun W => run_string_add_sum (w := W) (txt L) ⟨#[255]⟩ (by show (txt L).size + 1 ≤ _; omega))
      obtain ⟨u1, hu1⟩ : ∃ u, (⟨#[97, 98]⟩ : ByteArray) ++ txt L = u := ⟨_, rfl⟩
      obtain ⟨u2, hu2⟩ : ∃ u, txt L ++ ⟨#[255]⟩ = u := ⟨_, rfl⟩
      rw [hu1] at DE ADD1
      rw [hu2] at DM ADD2
      obtain ⟨t, ht⟩ : ∃ t, txt L = t := ⟨_, rfl⟩
      rw [ht] at DI ADD1 ADD2 SL
      rw [ht]
      clear ht hu1 hu2 hts HDIS HMORE hlt hk
      go_wp2_with fail
      refine (DI.out _).mono ?_
      rintro e w5 ⟨v5, rfl, O5, b5⟩
      obtain ⟨a5, c5, rfl⟩ := owns3_shape O5
      have R5 := Lib.hid (readP_of O5)
      have HB5 : Hid (Below w1.heap.size w1 w5) := Lib.hid (HB.out.trans (b5.mono zr))
      have RL := Lib.hid (R1.out.below HB5.out)
      have z5 : w1.heap.size ≤ w5.heap.size := HB5.out.size
      clear O5 b5
      go_wp2_with fail
      go_loopw [9, 10, 11, 12, 13] (fun wh i _ _ _ wq => ∃ k : Nat, k ≤ L.length ∧ i = .int .i64 (k : Int) ∧ wh = .int .i64 ((txt (L.take k)).size : Int) ∧ Below w5.heap.size w5 wq)
        (fun _ i _ _ _ _ => L.length - (intOf i).toNat)
      case atStart => exact ⟨0, Nat.zero_le _, rfl, by rw [S0.out]; rfl, Below.refl _ _⟩
      case round =>
        obtain ⟨k, hk, rfl, rfl, hbel⟩ := hrel
        have HQ := Lib.hid hbel
        have zq := hbel.size
        clear hbel
        by_cases hlt : k < L.length
        · obtain ⟨g, rfl, hg, c0, c1⟩ := RL.out k hlt
          obtain ⟨g', rfl, hg', c0', c1'⟩ := R5.out k hlt
          have DEk := Lib.hid (DE.out k hlt)
          have STk := Lib.hid (ST.out k hlt)
          have SB1 := SB.out (k + 1)
          have SBk := SB.out k
          have hn3 : 1 + widN L[k].code ≤ 5 := by have := widN_le L[k].code; omega
          obtain ⟨xc, hxc⟩ : ∃ y, L[k].code = y := ⟨_, rfl⟩
          obtain ⟨xa, hxa⟩ : ∃ y, L[k].arg = y := ⟨_, rfl⟩
          rw [hxc] at c0 c0' DEk STk hn3
          rw [hxa] at c1 c1' DEk
          obtain ⟨n, hn⟩ : ∃ n, 1 + widN xc = n := ⟨_, rfl⟩
          rw [hn] at DEk STk hn3
          obtain ⟨F, hF⟩ : ∃ F, (txt (L.take k)).size = F := ⟨_, rfl⟩
          rw [hF] at DEk STk SBk
          rw [hF]
          have k0 : (0 : Int) ≤ (k : Int) := by omega
          have k1 : (k : Int) < (L.length : Int) := by omega
          have HC0 : Hid (∀ W, Below w5.heap.size w5 W → W.cell? ⟨g, k * 2, none⟩ = some (.int .i64 xc) ∧ W.cell? ⟨g, k * 2 + 1, none⟩ = some (.int .i64 xa) ∧ W.cell? ⟨g', k * 2, none⟩ = some (.int .i64 xc) ∧ W.cell? ⟨g', k * 2 + 1, none⟩ = some (.int .i64 xa)) := Lib.hid (fun W hb => ⟨(hb.cell (p := ⟨g, _, none⟩) hg).trans c0, (hb.cell (p := ⟨g, _, none⟩) hg).trans c1, (hb.cell (p := ⟨g', _, none⟩) hg').trans c0', (hb.cell (p := ⟨g', _, none⟩) hg').trans c1'⟩)
          have hadd := fun W => ADD1.out W
          clear hxc hxa hn c0 c1 c0' c1' hF
          go_wp2_with fail
          refine (DEk.out _).mono ?_
          rintro e w6 ⟨rfl, b6⟩
          have HB6 : Hid (Below w5.heap.size w5 w6) := Lib.hid (HQ.out.trans (b6.mono zq))
          have z6 : w5.heap.size ≤ w6.heap.size := HB6.out.size
          clear b6
          go_wp2_with fail
          obtain ⟨W7, hW7⟩ : ∃ W, w6.alloc (.cells #[.int .i64 xc, .int .i64 xa] 28) = W := ⟨_, rfl⟩
          have HB7 : Hid (Below w5.heap.size w5 W7) := Lib.hid (hW7 ▸ HB6.out.alloc z6 _)
          have P7 : Hid (W7.heap[w6.heap.size]? = some (.cells #[.int .i64 xc, .int .i64 xa] 28 (0, 0))) := Lib.hid (hW7 ▸ heap_alloc_new w6 _)
          have e0 : W7.cell? ⟨w6.heap.size, 0, none⟩ = some (.int .i64 xc) := (blk P7.out).1 0 _ rfl
          have e1 : W7.cell? ⟨w6.heap.size, 1, none⟩ = some (.int .i64 xa) := (blk P7.out).1 1 _ rfl
          obtain ⟨f0, f1, f2, f3⟩ := HC0.out _ HB7.out
          rw [hW7]
          clear hW7
          have hneq := fun W => run_neq_op xc xa W
          go_quiet (fail)
          go_wp2_with fail
          go_roundw
          case rel => exact ⟨k + 1, by omega, by go_num, by rw [STk.out, Int.natCast_add], ⟨HB7.out.os, HB7.out.tape, HB7.out.output, HB7.out.size, HB7.out.block⟩⟩
          case measure => simp [intOf]; omega
        · have hkk : k = L.length := by omega
          subst hkk
          rw [SL.out]
          have hadd := fun W => ADD2.out W
          go_wp2_with fail
          refine (DM.out _).mono ?_
          rintro e w6 ⟨v6, rfl, O6, b6⟩
          have HB6 : Hid (Below w.heap.size w w6) := Lib.hid (HB1.out.trans ((HB5.out.trans ((HQ.out.trans (b6.mono zq)).mono z5)).mono z1))
          clear b6 O6
          go_wp2
          go_ret
          exact ⟨rfl, HB6.out⟩

theorem own : ownKnob Try.prog.godebug = none := by kernel_rfl
theorem laidOut : laidOutB Try.prog = true := by kernel_rfl

set_option maxRecDepth 100000 in
theorem lifted (os : Os) (started : os.Started) (H : Type) (enc : TypeId × Value → H) :
    ReturnsInHanded {} Try.checked os 3 .any (Rows.fnOpsSpec.pre6 enc Try.prog Try.f3 Rows.fnOpsRow.domain false) (Rows.fnOpsSpec.post enc Try.prog Try.f3 false true false false) := by
  refine returnsInHanded_of_change (C := Try.checked) own started (by kernel_rfl) Try.func3
    (ChangeSpec.witness6 (enc := enc) (C := Try.checked) false ⟨#[], #[.slice none 0 0], []⟩ 8 (by kernel_rfl) (by kernel_rfl) (by kernel_rfl) (by kernel_rfl)) ?_
  intro W base args ds gs before hval0 hW hcnd _
  have hval : ∀ (j : Nat) t v, Try.f3.params[j]? = some t → args[j]? = some v → Value.okWide Try.prog W .any base t v := hval0
  have hW' := hW
  obtain ⟨p, q, hA0, hV, rfl, hfz, hnd⟩ := hW
  have hA : DataW.TrodAll enc Try.prog W 0 (fun _ => true) true Try.f3.params.toList args.toList ds p := hA0
  rw [Try.params3] at hA hval
  obtain ⟨v0, vs0, d0, ds0, p0, q0, hargs, rfl, rfl, h0, r0⟩ := trodAll_cons hA
  obtain ⟨rfl, rfl, rfl⟩ := trodAll_nil r0
  obtain rfl : args = #[v0] := by cases args; simp_all
  obtain ⟨rfl, rfl⟩ := trodVars_none hV
  obtain ⟨a0, len0, cap0, rfl⟩ := okWide_slice Try.underlying22 (hval 0 22 v0 rfl rfl)
  have k0 := h0
  have lt0 : ∀ x ∈ p0, x.block < W.heap.size := by obtain ⟨m, hm⟩ := k0; exact DataW.trod_lt m _ _ _ hm
  obtain ⟨z0, w0⟩ : ∃ zs, IsRow .u8 W a0 len0 cap0 zs := by
    obtain ⟨fuel, hf⟩ := h0
    rcases open_ints Try.underlying22 Try.underlying5 (by kernel_rfl) hf with ⟨hcs, _⟩ | ⟨x, l, c, zs, hcs, _, hl, hm, hz, _, hcell, hwz⟩
    · simp [Value.cells] at hcs
      obtain ⟨rfl, rfl, rfl⟩ := hcs
      exact ⟨[], .inl ⟨rfl, rfl, rfl, rfl⟩⟩
    · simp [Value.cells] at hcs
      obtain ⟨rfl, rfl, rfl⟩ := hcs
      exact ⟨zs, .inr ⟨_, rfl, hl, hm, by simpa using hz, hcell, hwz⟩⟩
  clear hA0 hval0
  refine (walk a0 len0 cap0 z0 W w0).mono fun e W' ⟨he, bel⟩ => ?_
  subst he
  exact ⟨_, rfl, _, _, _, [], _, [], hW', trodAll_mk1 (shut_bool Try.underlying4 _), (trodAll_cons_mk (Below.trod laidOut (by kernel_rfl) (of_decide_eq_true (by kernel_rfl)) k0 bel lt0) trodAll_mk0), rfl, bel.frame _, fun h => by cases h⟩

theorem over : Rows.fnOpsRow.holds Try.pinned (OpenSpec.ofChange Rows.fnOpsSpec) :=
  OpenClaim.holds_of_wide 3 Try.f3 rfl rfl rfl rfl rfl rfl rfl ⟨rfl, rfl, rfl, rfl, rfl⟩ rfl rfl rfl rfl rfl (by kernel_rfl) Try.func3 (by kernel_rfl)
    (of_decide_eq_true (by kernel_rfl)) (by unfold Func.isWrapper; first | (rw [if_pos (by decide +kernel)]; kernel_rfl) | (rw [if_neg (by decide +kernel)]; exact ⟨rfl, rfl⟩))
    (fun os started H enc _ => lifted os started H enc)

theorem proved : Rows.FnOpsSaid := over
end Go.Proofs.Ytcflojdkaddemaa.fnOps
