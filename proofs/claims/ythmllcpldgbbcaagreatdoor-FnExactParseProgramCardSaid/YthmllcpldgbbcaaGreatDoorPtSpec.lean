/- The model's ParseTok. -/
import Derived.Test.YthmllcpldgbbcaaGreatDoorFmtSpec
import Derived.Test.YthmllcpldgbbcaaGreatDoorPuSpec
import Derived.Test.YthmllcpldgbbcaaGreatDoorPlainA
import Derived.Maps.AppendAt
import Derived.Deep.RegionHeld3
import Derived.Deep.AppendLies
import Derived.Deep.DeepCutAuto
namespace Go.Proofs.YthmllcpldgbbcaaGreatDoor
open Go.RowKit Go.Lib

theorem infoP : (Tryz.prog.info? 66).map (fun i => (i.zero, i.size, i.bytes)) = some (some (.agg #[.int .i64 0, .int .i64 0, .string ⟨#[]⟩]), 3, 32) := by kernel_rfl

theorem tokV_one (t : TokL) : ∀ u ∈ tokV t, u.oneCell' = true := by
  intro u hu
  simp only [tokV, List.mem_cons, List.not_mem_nil, or_false] at hu
  rcases hu with rfl | rfl | rfl <;> rfl
theorem tok_new (w : World) (t : TokL) (T : TypeId) : ∀ j u, (tokV t)[j]? = some u → (w.alloc (.cells #[.int .i64 t.kind, .int .i64 t.num, .string t.name] T)).cell? ((⟨w.heap.size, 0, none⟩ : Addr).add j) = some u :=
  World.news_of_block (cs := (tokV t).toArray) (t := T) (fr := (0, 0)) (heap_alloc_new w _)
theorem below_app3 {B e n s : Nat} {w0 wr w1 : World} {X : Obj} {v : Value} {xs : List Value} (hown : wr.ownsRow B e s v n xs) (hbel : Below B w0 wr) (hB : B ≤ wr.heap.size)
    (hg : (wr.alloc X).grownBy w1 v.ownBlock) : Below B w0 w1 :=
  (hbel.alloc hB X).grown hg (by simp; omega) (fun k hk => (hown.lt k hk).1)

theorem below_app3d {B e n s : Nat} {w0 wr w1 : World} {X : Obj} {v : Value} {xs : List Value} (hown : wr.ownsRow B e s v n xs) (hbel : Below B w0 wr) (hB : B ≤ wr.heap.size)
    (hg : (wr.alloc X).drew.grownBy w1 v.ownBlock) : Below B w0 w1 :=
  ((hbel.alloc hB X).drew).grown hg (by simp; omega) (fun k hk => (hown.lt k hk).1)
theorem frozen_blk {w : World} {c j : Nat} {cs : Array Value} {t : TypeId} (h : w.heap[c]? = some (.cells cs t (0, 0))) : w.frozen? ⟨c, j, none⟩ = false := by
  simp [World.frozen?, h]
theorem cands_len (s : ByteArray) : (cands s).length ≤ 8 := by
  unfold cands candN candC candV candO
  simp only [List.length_append, List.length_cons, List.length_nil]
  split <;> split <;> simp
theorem cands_mem (s : ByteArray) (t : TokL) (hm : t ∈ cands s) : t.name.size ≤ s.size := by
  unfold cands candN candC candV candO at hm
  simp only [List.mem_append] at hm
  rcases hm with ((hm | hm) | hm) | hm
  · rw [List.mem_singleton] at hm; rw [hm]; exact Nat.le_refl _
  · simp only [List.mem_cons, List.not_mem_nil, or_false] at hm
    rcases hm with hm | hm | hm | hm | hm <;> rw [hm] <;> exact Nat.zero_le _
  · split at hm
    · rw [List.mem_singleton] at hm; rw [hm]; exact Nat.zero_le _
    · cases hm
  · split at hm
    · rw [List.mem_singleton] at hm
      rw [hm]
      show (ByteArray.mk (s.data.toList.take (s.size - 2)).toArray).size ≤ s.size
      rw [← list_len]
      simp
    · cases hm
theorem cands_size (s : ByteArray) (j : Nat) (h : j < (cands s).length) : (cands s)[j].name.size ≤ s.size := cands_mem s _ (List.getElem_mem h)
theorem candO_next : ∀ j : Fin 5, candO.take (j.val + 1) = candO.take j.val ++ [⟨2 + (j.val : Int), 0, ⟨#[]⟩⟩] := by
  intro j
  match j with
  | 0 => rfl
  | 1 => rfl
  | 2 => rfl
  | 3 => rfl
  | 4 => rfl
/-- The search's result, out of what the loop knows. -/
theorem find_at (s : ByteArray) (k : Nat) (h : k < (cands s).length) (hb : ∀ j (hj : j < (cands s).length), j < k → fitB s (cands s)[j] = false) (hy : fitB s (cands s)[k] = true) : ptS s = ((cands s)[k], true) := by
  unfold ptS
  have : (cands s).find? (fitB s) = some (cands s)[k] := by
    rw [List.find?_eq_some_iff_getElem]
    exact ⟨hy, k, h, rfl, fun j hj => by rw [hb j (by omega) hj]; rfl⟩
  rw [this]
theorem find_no (s : ByteArray) (hb : ∀ j (hj : j < (cands s).length), fitB s (cands s)[j] = false) : ptS s = (⟨0, 0, ⟨#[]⟩⟩, false) := by
  unfold ptS
  have : (cands s).find? (fitB s) = none := by
    rw [List.find?_eq_none]
    intro t ht
    obtain ⟨j, hj, rfl⟩ := List.mem_iff_getElem.1 ht
    rw [hb j hj]; simp
  rw [this]

theorem run_idx {P : Program} (w : World) (t : TypeId) (k : IntKind) (x : Int) (n : Nat) (s : ByteArray) (c : UInt8) (ht : P.underlying t = some .string) (hx : x = n) (hc : s.data.toList[n]? = some c) :
    (Instr.index t (.string s) (.int k x)).run P w = .ok (.int .u8 c.toNat) w := by
  subst hx
  have hl : n < s.size := by have := (List.getElem?_eq_some_iff.1 hc).1; rwa [list_len] at this
  have hi : 0 ≤ (n : Int) ∧ (n : Int) < (s.size : Int) := by omega
  rw [run_index_string w t _ k n ht, dif_pos hi]
  have he := (List.getElem?_eq_some_iff.1 hc).2
  congr 3
  rw [← he]
  rfl
theorem candC_yes (s : ByteArray) (c : UInt8) (h : 2 < s.size) (h2 : s.data.toList[s.size - 2]? = some 47) (h1 : s.data.toList[s.size - 1]? = some c) : candC s = [⟨7, (c.toNat : Int) - 48, s.extract 0 (s.size - 2)⟩] := by
  unfold candC
  rw [if_pos ⟨h, h2⟩, h1]
  congr 2
  refine bl_eq ?_
  simp [ByteArray.data_extract]
theorem candC_no (s : ByteArray) (h : ¬ (2 < s.size ∧ s.data.toList[s.size - 2]? = some 47)) : candC s = [] := by unfold candC; rw [if_neg h]
theorem byte_at (s : ByteArray) (n : Nat) (h : n < s.size) : ∃ c : UInt8, s.data.toList[n]? = some c := ⟨_, List.getElem?_eq_getElem (by rw [list_len]; exact h)⟩

/-- The result's variable, behind what the body has done. -/
theorem res_cells {w W : World} (h : Below (w.heap.size + 1) (w.alloc (.cells #[.int .i64 0, .int .i64 0, .string ⟨#[]⟩] 66)) W) :
    W.cell? ⟨w.heap.size, 0, none⟩ = some (.int .i64 0) ∧ W.cell? ⟨w.heap.size, 1, none⟩ = some (.int .i64 0) ∧ W.cell? ⟨w.heap.size, 2, none⟩ = some (.string ⟨#[]⟩) ∧ (∀ i, W.frozen? ⟨w.heap.size, i, none⟩ = false) ∧ Below w.heap.size w W ∧ w.heap.size < W.heap.size :=
  ⟨(h.cell (p := ⟨w.heap.size, 0, none⟩) (by simp)).trans (by simp [go_sem]), (h.cell (p := ⟨w.heap.size, 1, none⟩) (by simp)).trans (by simp [go_sem]), (h.cell (p := ⟨w.heap.size, 2, none⟩) (by simp)).trans (by simp [go_sem]),
    fun i => (h.frozen (p := ⟨w.heap.size, i, none⟩) (by simp)).trans (frozen_blk (heap_alloc_new w _)), ((Below.refl w.heap.size w).alloc (Nat.le_refl _) _).trans (h.mono (by omega)), by have := h.size; simp at this; omega⟩

set_option maxRecDepth 100000 in
set_option maxHeartbeats 4000000 in
theorem s_ptok (s : ByteArray) (w : World) (hm : s.size ≤ 1048576) :
    Calls Tryz.prog 77 #[.string s] w fun e w' => e = .returned (.tuple #[tokA (ptS s).1, .bool (ptS s).2]) ∧ Below w.heap.size w w' := by
  obtain ⟨i0, hi, hz0, hz1, hz2⟩ := info_parts infoP
  have hsp : ∀ W : World, Calls Tryz.prog 95 #[.string s] W fun e w' => e = puE s ∧ Below W.heap.size W w' := fun W => by
    by_cases h2 : 10 < s.size
    · exact s_pu_long s W h2 (by unfold maxLen; omega)
    · exact s_pu s W (by omega)
  have HSP := Lib.hid hsp
  clear hsp
  have fr0 : ∀ i, (w.alloc (.cells #[.int .i64 0, .int .i64 0, .string ⟨#[]⟩] 66)).frozen? ⟨w.heap.size, i, none⟩ = false := fun i => frozen_blk (heap_alloc_new w _)
  have HF0 := Lib.hid fr0
  clear fr0
  have own0 := World.ownsRow_lit (base := w.heap.size + 1) (e := 66) (size := 3) (w.alloc (.cells #[.int .i64 0, .int .i64 0, .string ⟨#[]⟩] 66)) #[.int .i64 1, .int .i64 0, .string s] 1 (by simp) (by decide) rfl
  have bel0 := (Below.refl (w.heap.size + 1) (w.alloc (.cells #[.int .i64 0, .int .i64 0, .string ⟨#[]⟩] 66))).alloc (by simp) (.cells #[.int .i64 1, .int .i64 0, .string s] 66)
  have HO0 := Lib.hid own0
  have HB0 := Lib.hid bel0
  clear own0 bel0
  go_enter Tryz.func77, Tryz.ntmps77
  go_wp2_with fail
  go_loopw [4, 5] (fun v x wr => ∃ (j : Nat) (k : Int), j ≤ 5 ∧ x = .int .i64 k ∧ k = 2 + (j : Int) ∧ wr.ownsRow (w.heap.size + 1) 66 3 v (candV s ++ candO.take j).length (toksV (candV s ++ candO.take j)) ∧ Below (w.heap.size + 1) (w.alloc (.cells #[.int .i64 0, .int .i64 0, .string ⟨#[]⟩] 66)) wr)
    (fun _ x _ => 7 - (intOf x).toNat)
  case atStart => exact ⟨0, 2, by omega, rfl, rfl, by have := HO0.out; simpa [candV, toksV, tokV] using this, HB0.out⟩
  case round =>
    obtain ⟨j, k, hj, rfl, hk, hown, hbel⟩ := hrel
    have HK := Lib.hid hk
    have k2 : 2 ≤ k := by omega
    have k7 : k ≤ 7 := by omega
    have HOW := Lib.hid hown
    have HB := Lib.hid hbel
    have hB := hbel.size
    clear hk hbel
    have hlen : (candV s ++ candO.take j).length ≤ 6 := by simp [candV, candO]; omega
    have h63 : (candV s ++ candO.take j).length + 1 ≤ maxLen := by unfold maxLen; omega
    have hby : ((candV s ++ candO.take j).length + 1) * 32 ≤ 140737488355328 := by omega
    have hBw : w.heap.size + 1 ≤ wr.heap.size := by simpa using hB
    by_cases hlt : j < 5
    · have k6 : k ≤ 6 := by have := HK.out; omega
      have HN := Lib.hid (candO_next ⟨j, hlt⟩)
      go_wp2_with (at_builtin; refine wpList_append_own _ rfl _ _ 30 rfl (w.heap.size + 1) 66 i0 _ 3 32 Tryz.underlying30 hi hz0 hz1 hz2 rfl (by decide) _ _ _ rfl (hown.alloc _) ⟨wr.heap.size, 0, none⟩ 1 1 (tokV ⟨k, 0, ⟨#[]⟩⟩) rfl rfl ?c1 ?c2 h63 hby ?c5 ?_)
      case c1 => first | exact tok_new _ _ _ | exact fun j u h => h
      case c2 => exact tokV_one _
      case c5 => first | omega | (simp; omega)
      intro v' w1 hown1 hgrow _
      have HO1 := Lib.hid (owns_toks (l := candV s ++ candO.take (j + 1)) hown1 (by rw [HN.out, ← HK.out, ← List.append_assoc, toksV_append, toksV_one]))
      have HB1 := Lib.hid (below_app3 hown HB.out hBw hgrow)
      clear hown1 hgrow hown
      go_wp2
      go_roundw
      case rel => exact ⟨j + 1, k + 1, by omega, rfl, by have := HK.out; omega, HO1.out, HB1.out⟩
      case measure => simp [intOf]; omega
    · have hj5 : j = 5 := by omega
      subst hj5
      have k6 : ¬ k ≤ 6 := by have := HK.out; omega
      obtain ⟨n, hn⟩ : ∃ n, (puR s.data.toList).1 = n := ⟨_, rfl⟩
      obtain ⟨b, hb⟩ : ∃ b, (puR s.data.toList).2 = b := ⟨_, rfl⟩
      have HPU : Hid (∀ W : World, Calls Tryz.prog 95 #[.string s] W fun e w' => e = .returned (.tuple #[.int .i64 (n : Int), .bool b]) ∧ Below W.heap.size W w') := Lib.hid (fun W => (HSP.out W).mono fun e w' ⟨he, hw⟩ => ⟨by rw [he]; unfold puE; rw [hn, hb], hw⟩)
      have HCN : Hid (candN s = if b = true ∧ n ≤ 999 then [⟨0, (n : Int), ⟨#[]⟩⟩] else []) := Lib.hid (by unfold candN; rw [hn, hb])
      have HV : Hid (candV s ++ candO.take 5 = candV s ++ candO) := Lib.hid rfl
      rw [HV.out] at HOW hown
      clear hn hb h63 hby hlen hown HSP HK
      go_wp2_with fail
      refine (HPU.out _).mono ?_
      rintro e w1 ⟨rfl, b1⟩
      have HO1 := Lib.hid (owns3_below HOW.out b1)
      have HB1 := Lib.hid (HB.out.trans (b1.mono (by simpa using hB)))
      have hB1 : w.heap.size + 1 ≤ w1.heap.size := by have := b1.size; omega
      have hlen : (candV s ++ candO).length ≤ 6 := by simp [candV, candO]
      have h63 : (candV s ++ candO).length + 1 ≤ maxLen := by unfold maxLen; omega
      have hby : ((candV s ++ candO).length + 1) * 32 ≤ 140737488355328 := by omega
      clear b1 HOW
      obtain ⟨c, hc⟩ : ∃ c, (b && decide ((n : Int) ≤ 999)) = c := ⟨_, rfl⟩
      have HCC := Lib.hid hc
      clear hc
      go_upto_region 7 with fail
      go_cut [30] (fun s30 wx => s30 = .bool c ∧ wx = w1)
      case first =>
        cases b
        · go_wp2_with fail
          go_meet
          exact ⟨by rw [← HCC.out]; rfl, rfl⟩
        · by_cases hn9 : (n : Int) ≤ 999
          · go_wp2_with fail
            go_meet
            exact ⟨by rw [← HCC.out]; simp; omega, rfl⟩
          · go_wp2_with fail
            go_meet
            exact ⟨by rw [← HCC.out]; simp; omega, rfl⟩
      case rest =>
        obtain ⟨rfl, rfl⟩ := hcut
        clear hj hlt k6
        go_upto_if 30 with fail
        go_cut [4] (fun v wx => wx.ownsRow (w.heap.size + 1) 66 3 v (candV s ++ candO ++ candN s).length (toksV (candV s ++ candO ++ candN s)) ∧ Below (w.heap.size + 1) (w.alloc (.cells #[.int .i64 0, .int .i64 0, .string ⟨#[]⟩] 66)) wx)
        case first =>
          cases c
          · have HC : Hid (candN s = []) := Lib.hid (by rw [HCN.out, if_neg]; rintro ⟨rfl, h⟩; have := HCC.out; simp at this; omega)
            go_wp2_with fail
            go_meet
            exact ⟨by rw [HC.out, List.append_nil]; exact HO1.out, HB1.out⟩
          · have HC : Hid (candN s = [⟨0, (n : Int), ⟨#[]⟩⟩]) := Lib.hid (by rw [HCN.out, if_pos]; have := HCC.out; simp at this; exact ⟨this.1, by omega⟩)
            have hown := HO1.out
            go_wp2_with (at_builtin; refine wpList_append_own _ rfl _ _ 30 rfl (w.heap.size + 1) 66 i0 _ 3 32 Tryz.underlying30 hi hz0 hz1 hz2 rfl (by decide) _ _ _ rfl (hown.alloc _) ⟨wc.heap.size, 0, none⟩ 1 1 (tokV ⟨0, (n : Int), ⟨#[]⟩⟩) rfl rfl ?d1 ?d2 h63 hby ?d5 ?_)
            case d1 => first | exact tok_new _ _ _ | exact fun j u h => h
            case d2 => exact tokV_one _
            case d5 => first | omega | (simp; omega)
            intro v3 w3 hown1 hgrow _
            have HO3 := Lib.hid (owns_toks (l := candV s ++ candO ++ candN s) hown1 (by rw [HC.out, toksV_append, toksV_one]))
            have HB3 := Lib.hid (below_app3 hown HB1.out hB1 hgrow)
            clear hown1 hgrow hown HC
            go_wp2_with fail
            go_meet
            exact ⟨HO3.out, HB3.out⟩
        case rest =>
          obtain ⟨hown, hbel⟩ := hcut
          have HO3 := Lib.hid hown
          have HB3 := Lib.hid hbel
          have hB3 : w.heap.size + 1 ≤ wc.heap.size := by have := hbel.size; simpa using this
          clear hown hbel HO1 HB1 hB1 hlen h63 hby HCN HCC
          go_upto_region 9 with fail
          obtain ⟨d, hd⟩ : ∃ d, (decide (2 < s.size) && decide (s.data.toList[s.size - 2]? = some 47)) = d := ⟨_, rfl⟩
          have HD := Lib.hid hd
          clear hd
          go_cut [46] (fun s46 wx => s46 = .bool d ∧ wx = wc)
          case first =>
            by_cases h2 : 2 < s.size
            · obtain ⟨x, hx⟩ := byte_at s (s.size - 2) (by omega)
              have hix := run_idx (P := Tryz.prog) wc 9 .i64 ((s.size : Int) - 2) (s.size - 2) s x Tryz.underlying9 (by omega) hx
              have hlt2 : decide ((2 : Int) < (s.size : Int)) = true := by simp; omega
              by_cases h47 : x = 47
              · subst h47
                have HE : Hid (d = true) := Lib.hid (by rw [← HD.out, hx]; simp; omega)
                clear hx
                go_wp2_with fail
                go_meet
                exact ⟨by rw [HE.out], rfl⟩
              · have HE : Hid (d = false) := Lib.hid (by rw [← HD.out, hx]; simp [h47])
                have hne : ((x.toNat : Int) == 47) = false := by
                  rw [beq_eq_false_iff_ne]
                  intro e
                  exact h47 (UInt8.toNat_inj.1 (by show x.toNat = 47; omega))
                clear hx h47
                go_wp2_with fail
                go_meet
                exact ⟨by rw [HE.out], rfl⟩
            · have hlt2 : decide ((2 : Int) < (s.size : Int)) = false := by simp; omega
              have HE : Hid (d = false) := Lib.hid (by rw [← HD.out]; simp; omega)
              go_wp2_with fail
              go_meet
              exact ⟨by rw [HE.out], rfl⟩
          case rest =>
            obtain ⟨rfl, rfl⟩ := hcut
            go_upto_if 46 with fail
            go_cut [4] (fun v wx => wx.ownsRow (w.heap.size + 1) 66 3 v (cands s).length (toksV (cands s)) ∧ Below (w.heap.size + 1) (w.alloc (.cells #[.int .i64 0, .int .i64 0, .string ⟨#[]⟩] 66)) wx)
            case first =>
              cases d
              · have HC : Hid (candC s = []) := Lib.hid (candC_no s (fun h => by have e := HD.out; rw [decide_eq_true h.1, decide_eq_true h.2] at e; cases e))
                go_wp2_with fail
                go_meet
                exact ⟨by unfold cands; rw [HC.out, List.append_nil]; exact HO3.out, HB3.out⟩
              · have hh := HD.out
                rw [Bool.and_eq_true, decide_eq_true_eq, decide_eq_true_eq] at hh
                obtain ⟨h2, h47⟩ := hh
                obtain ⟨x, hx⟩ := byte_at s (s.size - 1) (by omega)
                have HC := Lib.hid (candC_yes s x h2 h47 hx)
                have hix := fun W => run_idx (P := Tryz.prog) W 9 .i64 ((s.size : Int) - 1) (s.size - 1) s x Tryz.underlying9 (by omega) hx
                have hp : x.toNat < 256 := x.toNat_lt
                have hown := HO3.out
                have hlen : (candV s ++ candO ++ candN s).length ≤ 7 := by unfold candN candV candO; split <;> simp
                obtain ⟨L1, hL1⟩ : ∃ L1, candV s ++ candO ++ candN s = L1 := ⟨_, rfl⟩
                have HL : Hid (cands s = L1 ++ candC s) := Lib.hid (by rw [← hL1]; rfl)
                rw [hL1] at hown hlen
                have h63 : L1.length + 1 ≤ maxLen := by unfold maxLen; omega
                have hby : (L1.length + 1) * 32 ≤ 140737488355328 := by omega
                clear hL1
                have e1 : IntKind.i64.wrap (x.toNat : Int) = (x.toNat : Int) := byte_wrap _ hp
                have e2 : IntKind.i64.wrap ((x.toNat : Int) - 48) = (x.toNat : Int) - 48 := IntWalk.i64_in _ (by omega)
                have e3 : IntKind.i64.wrap ((s.size : Int) - 1) = (s.size : Int) - 1 := IntWalk.i64_in _ (by omega)
                have e4 : IntKind.i64.wrap ((s.size : Int) - 2) = (s.size : Int) - 2 := IntWalk.i64_in _ (by omega)
                have e5 : ((s.size : Int) - 2).toNat = s.size - 2 := by omega
                have e6 : (0 : Int) ≤ (s.size : Int) - 2 := by omega
                have e8 : (2 : Int) ≤ (s.size : Int) := by omega
                have e7 : (s.size : Int) - 2 ≤ (s.size : Int) := by omega
                obtain ⟨nm, hnm⟩ : ∃ nm, s.extract 0 (s.size - 2) = nm := ⟨_, rfl⟩
                rw [hnm] at HC
                clear hx h47 hlen
                go_wp2_with fail
                go_region_held3 (fun _ => True) (first | trivial) (first
                  | (refine step_append_lies _ ?_ (.tmp 47) (.tmp 61) 30 ?_ (w.heap.size + 1) 66 i0 _ 3 32 Tryz.underlying30 hi hz0 hz1 hz2 rfl (by decide) u4 _ _ ?_ ((hown.alloc _).drew) ⟨wc.heap.size, 0, none⟩ 1 1 (tokV ⟨7, (x.toNat : Int) - 48, nm⟩) ?_ rfl ?_ (tokV_one _) (by decide) h63 hby ?_ (wc.heap.size + 1) ?_ ?_; rfl; rfl; rfl; rfl; exact World.news_of_block (cs := (tokV ⟨7, (x.toNat : Int) - 48, nm⟩).toArray) (t := 66) (fr := (0, 0)) (heap_alloc_new wc _); (simp; omega); simp; intro gg cap w1 hown1 hgrow hat hltg))
                all_goals
                  have HO4 := Lib.hid (owns_toks (l := cands s) hown1 (by rw [HL.out, HC.out, toksV_append, toksV_one]))
                  have HB4 := Lib.hid (below_app3d hown HB3.out hB3 hgrow)
                  clear hown1 hgrow hown hat hltg HC e1 e2 e3 e4 e5 e6 e7 e8 hix hnm
                  go_wp2_with fail
                  go_meet
                  exact ⟨HO4.out, HB4.out⟩
            case rest =>
              obtain ⟨hown, hbel⟩ := hcut
              obtain ⟨av, cv, rfl⟩ := owns3_shape hown
              have HO4 := Lib.hid hown
              have HB4 := Lib.hid hbel
              have hB4 : w.heap.size + 1 ≤ wc.heap.size := by have := hbel.size; simpa using this
              have hlen := cands_len s
              clear hown hbel HO3 HB3 hB3 HD
              go_wp2_with fail
              go_loopw [8] (fun x wr => ∃ j : Nat, j ≤ (cands s).length ∧ x = .int .i64 (j : Int) ∧ (∀ i (hi : i < (cands s).length), i < j → fitB s (cands s)[i] = false) ∧ wr.ownsRow (w.heap.size + 1) 66 3 (.slice av (cands s).length cv) (cands s).length (toksV (cands s)) ∧ Below (w.heap.size + 1) (w.alloc (.cells #[.int .i64 0, .int .i64 0, .string ⟨#[]⟩] 66)) wr)
                (fun x _ => (cands s).length - (intOf x).toNat)
              case atStart => exact ⟨0, Nat.zero_le _, rfl, fun i hi h => by omega, HO4.out, HB4.out⟩
              case round =>
                obtain ⟨j, hj, rfl, hno, hown, hbel⟩ := hrel
                have HNO := Lib.hid hno
                have HO := Lib.hid hown
                have HB := Lib.hid hbel
                have hBr : w.heap.size + 1 ≤ wr.heap.size := by have := hbel.size; simpa using this
                clear hno hown hbel
                by_cases hlt : j < (cands s).length
                · obtain ⟨g, hav, hg, c0, c1, c2⟩ := readT_of HO.out j hlt
                  subst hav
                  have hsz : (cands s)[j].name.size ≤ maxLen := by have := cands_size s j hlt; unfold maxLen; omega
                  have HFND := Lib.hid (fun hy => find_at s j hlt HNO.out hy)
                  have HSTEP : Hid (fitB s (cands s)[j] = false → ∀ i (hi : i < (cands s).length), i < j + 1 → fitB s (cands s)[i] = false) := Lib.hid (fun hf i hi hij => by
                    by_cases e : i = j
                    · subst e; exact hf
                    · exact HNO.out i hi (by omega))
                  obtain ⟨t, ht⟩ : ∃ t, (cands s)[j] = t := ⟨_, rfl⟩
                  rw [ht] at c0 c1 c2 hsz HFND HSTEP
                  have k0 : (0 : Int) ≤ (j : Int) := by omega
                  have k1 : (j : Int) < ((cands s).length : Int) := by omega
                  clear ht
                  obtain ⟨ok, hok⟩ : ∃ ok, tokB t = ok := ⟨_, rfl⟩
                  have HT : Hid (∀ W : World, Calls Tryz.prog 96 #[.agg #[.int .i64 t.kind, .int .i64 t.num, .string t.name]] W fun e w' => e = .returned (.bool ok) ∧ Below W.heap.size W w') := Lib.hid (fun W => hok ▸ s_tok' t W hsz)
                  cases ok
                  · have HNX := Lib.hid (HSTEP.out (by unfold fitB; rw [hok]; rfl))
                    clear hok
                    go_wp2_with fail
                    refine (HT.out _).mono ?_
                    rintro e w5 ⟨rfl, b5⟩
                    have HO5 := Lib.hid (owns3_below HO.out b5)
                    have HB5 := Lib.hid (HB.out.trans (b5.mono (by simpa using hBr)))
                    clear b5
                    go_wp2
                    go_roundw
                    case rel => exact ⟨j + 1, by omega, by go_num, HNX.out, HO5.out, HB5.out⟩
                    case measure => simp [intOf]; omega
                  · obtain ⟨r, hr⟩ : ∃ r, fmtT t = r := ⟨_, rfl⟩
                    have HF : Hid (∀ W : World, Calls Tryz.prog 97 #[.agg #[.int .i64 t.kind, .int .i64 t.num, .string t.name]] W fun e w' => e = .returned (.string r) ∧ Below W.heap.size W w') := Lib.hid (fun W => hr ▸ s_fmt t.kind t.num t.name W hsz)
                    by_cases heq : r = s
                    · have HE := Lib.hid (HFND.out ((fitB_iff s t).2 ⟨hok, by rw [hr, heq]⟩))
                      subst heq
                      clear hok hr
                      go_wp2_with fail
                      refine (HT.out _).mono ?_
                      rintro e w5 ⟨rfl, b5⟩
                      have HO5 := Lib.hid (owns3_below HO.out b5)
                      have HB5 := Lib.hid (HB.out.trans (b5.mono (by simpa using hBr)))
                      have hB5 : w.heap.size + 1 ≤ w5.heap.size := by have := b5.size; omega
                      have d0 := (b5.cell (p := ⟨g, j * 3, none⟩) hg).trans c0
                      have d1 := (b5.cell (p := ⟨g, j * 3 + 1, none⟩) hg).trans c1
                      have d2 := (b5.cell (p := ⟨g, j * 3 + 2, none⟩) hg).trans c2
                      have hg5 : g < w5.heap.size := by have := b5.size; omega
                      clear b5 c0 c1 c2
                      go_wp2_with fail
                      refine (HF.out _).mono ?_
                      rintro e w6 ⟨rfl, b6⟩
                      have HB6 := Lib.hid (HB5.out.trans (b6.mono (by simpa using hB5)))
                      have e0 := (b6.cell (p := ⟨g, j * 3, none⟩) hg5).trans d0
                      have e1 := (b6.cell (p := ⟨g, j * 3 + 1, none⟩) hg5).trans d1
                      have e2 := (b6.cell (p := ⟨g, j * 3 + 2, none⟩) hg5).trans d2
                      clear b6 d0 d1 d2
                      obtain ⟨q0, q1, q2, qf, qb, ql⟩ := res_cells HB6.out
                      have HQB := Lib.hid qb
                      clear qb
                      go_wp2
                      refine bodyPost_ret (v := .tuple #[.agg #[.int .i64 t.kind, .int .i64 t.num, .string t.name], .bool true]) (by simp [results, Tryz.results77, go_sem, q0, q1, q2]) rfl ⟨?_, ?_⟩
                      · rw [HE.out]; rfl
                      · exact ((HQB.out.setCell (Nat.le_refl _) _).setCell (Nat.le_refl _) _).setCell (Nat.le_refl _) _
                    · have HNX := Lib.hid (HSTEP.out (by unfold fitB; rw [hr, decide_eq_false heq, Bool.and_false]))
                      have hs := bl_ne (a := r) (b := s) (fun e => heq (bl_eq e))
                      clear hok hr heq
                      go_wp2_with fail
                      refine (HT.out _).mono ?_
                      rintro e w5 ⟨rfl, b5⟩
                      have HO5 := Lib.hid (owns3_below HO.out b5)
                      have HB5 := Lib.hid (HB.out.trans (b5.mono (by simpa using hBr)))
                      have hB5 : w.heap.size + 1 ≤ w5.heap.size := by have := b5.size; omega
                      have d0 := (b5.cell (p := ⟨g, j * 3, none⟩) hg).trans c0
                      have d1 := (b5.cell (p := ⟨g, j * 3 + 1, none⟩) hg).trans c1
                      have d2 := (b5.cell (p := ⟨g, j * 3 + 2, none⟩) hg).trans c2
                      clear b5 c0 c1 c2
                      go_wp2_with fail
                      refine (HF.out _).mono ?_
                      rintro e w6 ⟨rfl, b6⟩
                      have HO6 := Lib.hid (owns3_below HO5.out b6)
                      have HB6 := Lib.hid (HB5.out.trans (b6.mono (by simpa using hB5)))
                      clear b6 d0 d1 d2
                      go_wp2
                      go_roundw
                      case rel => exact ⟨j + 1, by omega, by go_num, HNX.out, HO6.out, HB6.out⟩
                      case measure => simp [intOf]; omega
                · have HE := Lib.hid (find_no s (fun i hi => HNO.out i hi (by omega)))
                  obtain ⟨q0, q1, q2, qf, qb, ql⟩ := res_cells HB.out
                  have HQB := Lib.hid qb
                  clear qb
                  go_wp2
                  refine bodyPost_ret (v := .tuple #[.agg #[.int .i64 0, .int .i64 0, .string ⟨#[]⟩], .bool false]) (by simp [results, Tryz.results77, go_sem, q0, q1, q2]) rfl ⟨?_, ?_⟩
                  · rw [HE.out]; rfl
                  · exact ((HQB.out.setCell (Nat.le_refl _) _).setCell (Nat.le_refl _) _).setCell (Nat.le_refl _) _
end Go.Proofs.YthmllcpldgbbcaaGreatDoor
