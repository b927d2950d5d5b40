/- The program's CompileFunction of a program that makes sense, if replace is known; A function's items are few, whoever makes them. Nothing of the program's walk; What the model's functions that draw numbers return: bytes, numbers below a bound, a new cursor; What the model's functions that draw numbers return: once in so many times; What the model's function that draws a number out of a list returns. -/
import Derived.Test.YtaplbefdijcceaaGreatDoorI25
import Derived.Test.YtaplbefdijcceaaGreatDoorI26
import Derived.Test.YtaplbefdijcceaaGreatDoorI36
import Derived.Test.YtaplbefdijcceaaGreatDoorI34
import Derived.Test.YtaplbefdijcceaaGreatDoorRows
import Derived.Test.YtaplbefdijcceaaGreatDoorI01
import Derived.Deep.QuietTactic
import Derived.BigQuiet
import Derived.Outline
import Derived.Lib.Hide
namespace Go.Proofs.YtaplbefdijcceaaGreatDoor
open Go.RowKit Go.Lib Go.Maps
theorem passes {p : List PLine} (ho : OkI p) {g : Nat} (hg : g ∈ funs p) (fr : Bool) {inl : Nat} (hi : inl ≤ 3) : ∃ n0 z0 n1 z1, cmiF (compE p fr inl 0 g) n0 (.lines [topSc p g] (g + 1) 0) (topJ (compE p fr inl 0 g) g) = some z0 ∧
    cmiF (compE p fr inl (z0.2.used : Int) g) n1 (.lines [topSc p g] (g + 1) (z0.2.used : Int)) (topJ (compE p fr inl (z0.2.used : Int) g) g) = some z1 ∧ z0.2.items.length ≤ 3000 ∧ z1.2.items.length ≤ 3000 ∧ z0.2.used ≤ 1000 ∧ CompTo p fr inl g z1.2.items := by
  obtain ⟨s0, h0⟩ := top_total (compE p fr inl 0 g) g
  obtain ⟨n0, t0, a0, b0, c0⟩ := top_same (E := compE p fr inl 0 g) ho hg h0
  obtain ⟨s1, h1⟩ := top_total (compE p fr inl (s0.most : Int) g) g
  obtain ⟨n1, t1, a1, b1, c1⟩ := top_same (E := compE p fr inl (s0.most : Int) g) ho hg h1
  have hu := ((cmi_bound (E := compE p fr inl 0 g) ho.1.1 ho.1.2) n0).2.2 _ _ _ _ _ ⟨Nat.le_refl _, by simp, by
    show (locZ p (g : Int)).length - _ ≤ 64 * 1
    have := loc_len64 ho.1.1 ho.1.2 (g : Int)
    omega⟩ a0
  have hu2 : t0.used ≤ max ((locZ p (g : Int)).length - (argsZ p (g : Int)).length) (64 * (inl + 1)) := hu.2
  have h64 := loc_len64 ho.1.1 ho.1.2 (g : Int)
  refine ⟨n0, (0, t0), n1, (0, t1), a0, by rw [c0]; exact a1, top_len (E := compE p fr inl 0 g) ho hi hg a0, top_len (E := compE p fr inl (s0.most : Int) g) ho hi hg a1, by show t0.used ≤ 1000; omega, s0, s1, h0, h1, b1⟩
def CompR (L : List ItL) (w : World) (e : Ending) (w' : World) : Prop :=
  ∃ v X, e = .returned v ∧ Hid (w'.ownsRow w.heap.size 37 7 v X.length (itV X)) ∧ X.map (·.it) = L ∧ Hid (MadeI 3 w.heap.size w' (chL X)) ∧ Hid (Below w.heap.size w w')
theorem own_cap8 {B T s n c : Nat} {w : World} {a : Option Addr} {xs : List Value} (h : w.ownsRow B T s (.slice a n c) n xs) : n ≤ c := by
  rcases h.2 with ⟨e, h0⟩ | ⟨g, cap, cur, e, _, _, hnc, _⟩
  · omega
  · injection e with e1 e2 e3
    omega
theorem args4 {PX : List LnL} (ho : OkI (plL PX)) : ∀ x ∈ PX, x.args.length ≤ 1048576 := fun x hx => by
  have hm : x.p ∈ plL PX := List.mem_map.2 ⟨x, hx, rfl⟩
  have h := ((lineB_iff _).1 (ho.1.2 _ hm)).2.2.1
  have h2 : x.args.length ≤ 4 := (af_small _ _ h).1
  omega
theorem two_pass {inl : Nat} (hR : IReplAll inl) (pa : Option Addr) (pc : Nat) (PX : List LnL) (ho : OkI (plL PX)) (hcap : PX.length ≤ pc) (wB : World) (hr : ReadL 9 49 wB pa PX) (fi : Nat) (hfi : fi < (funs (plL PX)).length) (g : Nat) (hg : (funs (plL PX))[fi] = g) (fm : Int) (hfm : 0 ≤ fm ∧ fm ≤ 63) (hinl : inl ≤ 3) (fo sp : Bool) (L : List ItL) (hL : CompTo (plL PX) (frB fm fi) inl g L) :
    ∃ (E0 E1 : CmpE) (t0 t1 : CiS), t0.used ≤ 1000 ∧ t1.items = L ∧ t1.items.length ≤ 3000 ∧
      (∀ W, Below wB.heap.size wB W → Calls Tryz.prog 51 #[.slice pa PX.length pc, .int .i64 (fi : Int), .agg #[.int .i64 fm, .int .i64 (inl : Int), .bool fo, .bool sp], .int .i64 0] W (PassR E0 t0 W)) ∧
      (∀ W, Below wB.heap.size wB W → Calls Tryz.prog 51 #[.slice pa PX.length pc, .int .i64 (fi : Int), .agg #[.int .i64 fm, .int .i64 (inl : Int), .bool fo, .bool sp], .int .i64 (t0.used : Int)] W (PassR E1 t1 W)) := by
  have hgm : g ∈ funs (plL PX) := by rw [← hg]; exact List.getElem_mem hfi
  obtain ⟨n0, z0, n1, z1, a0, a1, l0, l1, hu, hc⟩ := passes ho hgm (frB fm fi) hinl
  refine ⟨compE (plL PX) (frB fm fi) inl 0 g, compE (plL PX) (frB fm fi) inl (z0.2.used : Int) g, z0.2, z1.2, hu, hc.one hL, l1, fun W hW => ?_, fun W hW => ?_⟩
  · exact i_pass pa pc PX ho hcap fi hfi fm 0 inl fo sp hfm hinl ⟨by omega, by omega⟩ W (hr.below hW) (args4 ho) g hg n0 (i_bodies hR n0) _ rfl z0 a0 (by omega)
  · exact i_pass pa pc PX ho hcap fi hfi fm (z0.2.used : Int) inl fo sp hfm hinl ⟨by omega, by omega⟩ W (hr.below hW) (args4 ho) g hg n1 (i_bodies hR n1) _ rfl z1 a1 (by omega)
set_option maxRecDepth 100000 in
set_option maxHeartbeats 4000000 in
theorem i_compile {inl : Nat} (hR : IReplAll inl) (pa : Option Addr) (pc : Nat) (PX : List LnL) (hl : PX.length ≤ 1048576) (hcap : PX.length ≤ pc) (w : World) (hr : ReadL 9 49 w pa PX) (hz : SzAl PX) (hsh : Shapes w) (ho : OkI (plL PX)) (fi : Nat) (hfi : fi < (funs (plL PX)).length) (g : Nat) (hg : (funs (plL PX))[fi] = g) (fm : Int) (hfm : 0 ≤ fm ∧ fm ≤ 63) (hinl : inl ≤ 3) (fo sp : Bool) (L : List ItL) (hL : CompTo (if fo = true then foldP (plL PX) else plL PX) (frB fm fi) inl g L) :
    Calls Tryz.prog 12 #[.slice pa PX.length pc, .int .i64 (fi : Int), .agg #[.int .i64 fm, .int .i64 (inl : Int), .bool fo, .bool sp]] w (CompR L w) := by
  have hbb : bldB fm (inl : Int) = true := by unfold bldB; simp; omega
  have HBX : Hid (Below w.heap.size w (w.alloc (.cells #[.int .i64 fm, .int .i64 (inl : Int), .bool fo, .bool sp] 26))) := hid ((Below.refl _ _).alloc (Nat.le_refl _) _)
  have HR := hid hr
  have HSH := hid hsh
  have POK := hid (fun W (hb : Below w.heap.size w W) => i_progOkB pa pc PX W hl hcap (HR.out.below hb) hz (HSH.out.on hb))
  rw [(pokB_iff _).2 ho] at POK
  have BOK := hid (fun W => i_buildOk fm (inl : Int) fo sp W)
  rw [hbb] at BOK
  have FLN := hid (fun W (hb : Below w.heap.size w W) => i_funLines pa pc PX W hl (HR.out.below hb))
  have FOL := hid (fun W (hb : Below w.heap.size w W) => i_foldProgram pa pc PX W hl hcap (HR.out.below hb) hz (HSH.out.on hb))
  rw [(pokB_iff _).2 ho, if_pos rfl] at FOL
  have hfl : (funI (plL PX)).length = (funs (plL PX)).length := funI_length (plL PX)
  have fi0 : (0 : Int) ≤ (fi : Int) := by omega
  have fi1 : (fi : Int) < ((funI (plL PX)).length : Int) := by omega
  have fi2 : ¬ ((funI (plL PX)).length : Int) ≤ (fi : Int) := by omega
  have fi3 : ¬ (fi : Int) < 0 := by omega
  have XC : Hid (∀ W, Below (w.heap.size + 1) (w.alloc (.cells #[.int .i64 fm, .int .i64 (inl : Int), .bool fo, .bool sp] 26)) W → W.cell? ⟨w.heap.size, 0, none⟩ = some (.int .i64 fm) ∧ W.cell? ⟨w.heap.size, 1, none⟩ = some (.int .i64 (inl : Int)) ∧ W.cell? ⟨w.heap.size, 2, none⟩ = some (.bool fo) ∧ W.cell? ⟨w.heap.size, 3, none⟩ = some (.bool sp)) := hid (fun W hb => by
    have h := blk ((hb.block w.heap.size (by omega)).trans (heap_alloc_new w _))
    exact ⟨h.1 0 _ rfl, h.1 1 _ rfl, h.1 2 _ rfl, h.1 3 _ rfl⟩)
  have hxs : (w.alloc (.cells #[.int .i64 fm, .int .i64 (inl : Int), .bool fo, .bool sp] 26)).heap.size = w.heap.size + 1 := by simp
  cases fo
  · have HLL := hid hL
    rw [if_neg (by decide)] at HLL
    clear hr hsh hz hL hbb
    go_enter Tryz.func12, Tryz.ntmps12
    go_wp2_with fail
    refine (POK.out _ HBX.out).mono ?_
    rintro e w1 ⟨rfl, b1⟩
    rw [hxs] at b1
    have B1 := hid b1
    obtain ⟨x0, x1, x2, x3⟩ := XC.out w1 B1.out
    clear b1
    go_wp2_with fail
    refine (BOK.out w1).mono ?_
    rintro e w2 ⟨rfl, b2⟩
    have B2 := hid (B1.out.trans (b2.mono (by have := B1.out.size; simp at this; omega)))
    clear b2 x0 x1 x2 x3
    go_wp2_with fail
    refine (FLN.out w2 (HBX.out.trans (B2.out.mono (by omega)))).mono ?_
    rintro e w3 ⟨v3, rfl, hown3, b3⟩
    have B3 := hid (B2.out.trans (b3.mono (by have := B2.out.size; simp at this; omega)))
    obtain ⟨a3, c3, rfl⟩ := own_sh hown3
    obtain ⟨x0, x1, x2, x3⟩ := XC.out w3 B3.out
    clear b3 hown3
    go_wp2_with fail
    obtain ⟨E0, E1, t0, t1, hu, hit, hln, P0, P1⟩ := two_pass hR pa pc PX ho hcap w3 (HR.out.below (HBX.out.trans (B3.out.mono (by omega)))) fi hfi g hg fm hfm hinl false sp L HLL.out
    refine (P0 w3 (Below.refl _ _)).mono ?_
    rintro e w5 ⟨B5, cb5, pv5, fv5, iv5, X5, rfl, HC5, hB5, HB5⟩
    have c56 : w5.cell? ⟨cb5, 6, none⟩ = some (.int .i64 (t0.used : Int)) := (blk HC5.out.row).1 6 _ rfl
    have D5 := hid (B3.out.trans (HB5.out.mono (by have := B3.out.size; simp at this; omega)))
    clear x0 x1 x2 x3
    obtain ⟨x0, x1, x2, x3⟩ := XC.out w5 D5.out
    go_wp2_with fail
    refine (P1 w5 HB5.out).mono ?_
    rintro e w6 ⟨B6, cb6, pv6, fv6, iv6, X6, rfl, HC6, hB6, HB6⟩
    have c68 : w6.cell? ⟨cb6, 8, none⟩ = some iv6 := (blk HC6.out.row).1 8 _ rfl
    have D6 := hid (D5.out.trans (HB6.out.mono (by have := D5.out.size; simp at this; omega)))
    obtain ⟨va6, vc6, rfl⟩ := own_sh HC6.out.its
    go_wp2_with fail
    go_ret
    have hBw : w.heap.size ≤ B6 := by have := D5.out.size; simp at this; omega
    exact ⟨_, X6, rfl, hid (owns_lo HC6.out.its hBw), HC6.out.items.trans hit, hid ⟨fun z hz => owns_lo (HC6.out.chn.1 z hz) hBw, HC6.out.chn.2⟩, hid (HBX.out.trans (D6.out.mono (by omega)))⟩
  · have HLL := hid hL
    rw [if_pos rfl] at HLL
    clear hr hsh hz hL hbb
    go_enter Tryz.func12, Tryz.ntmps12
    go_wp2_with fail
    refine (POK.out _ HBX.out).mono ?_
    rintro e w1 ⟨rfl, b1⟩
    rw [hxs] at b1
    have B1 := hid b1
    obtain ⟨x0, x1, x2, x3⟩ := XC.out w1 B1.out
    clear b1
    go_wp2_with fail
    refine (BOK.out w1).mono ?_
    rintro e w2 ⟨rfl, b2⟩
    have B2 := hid (B1.out.trans (b2.mono (by have := B1.out.size; simp at this; omega)))
    clear b2 x0 x1 x2 x3
    go_wp2_with fail
    refine (FLN.out w2 (HBX.out.trans (B2.out.mono (by omega)))).mono ?_
    rintro e w3 ⟨v3, rfl, hown3, b3⟩
    have B3 := hid (B2.out.trans (b3.mono (by have := B2.out.size; simp at this; omega)))
    obtain ⟨a3, c3, rfl⟩ := own_sh hown3
    obtain ⟨x0, x1, x2, x3⟩ := XC.out w3 B3.out
    clear b3 hown3
    go_wp2_with fail
    refine (FOL.out w3 (HBX.out.trans (B3.out.mono (by omega)))).mono ?_
    rintro e w4 ⟨v4, X1, rfl, hown4, hmade4, hpl4, b4⟩
    have B4 := hid (B3.out.trans (b4.mono (by have := B3.out.size; simp at this; omega)))
    obtain ⟨a4, c4, rfl⟩ := own_sh hown4
    have hrd4 := readL_of hown4 hmade4.all
    have hcp4 : X1.length ≤ c4 := own_cap8 hown4
    clear b4
    have hfu : funs (plL X1) = funs (plL PX) := by rw [hpl4, funs_fold]
    obtain ⟨E0, E1, t0, t1, hu, hit, hln, P0, P1⟩ := two_pass hR a4 c4 X1 (by rw [hpl4]; exact ok_fold ho) hcp4 w4 hrd4 fi (by rw [hfu]; exact hfi) g (by simp only [hfu]; exact hg) fm hfm hinl true sp L (by rw [hpl4]; exact HLL.out)
    clear x0 x1 x2 x3 hfu hpl4 hmade4 hown4
    obtain ⟨x0, x1, x2, x3⟩ := XC.out w4 B4.out
    go_wp2_with fail
    refine (P0 w4 (Below.refl _ _)).mono ?_
    rintro e w5 ⟨B5, cb5, pv5, fv5, iv5, X5, rfl, HC5, hB5, HB5⟩
    have c56 : w5.cell? ⟨cb5, 6, none⟩ = some (.int .i64 (t0.used : Int)) := (blk HC5.out.row).1 6 _ rfl
    have D5 := hid (B4.out.trans (HB5.out.mono (by have := B4.out.size; simp at this; omega)))
    clear x0 x1 x2 x3
    obtain ⟨x0, x1, x2, x3⟩ := XC.out w5 D5.out
    go_wp2_with fail
    refine (P1 w5 HB5.out).mono ?_
    rintro e w6 ⟨B6, cb6, pv6, fv6, iv6, X6, rfl, HC6, hB6, HB6⟩
    have c68 : w6.cell? ⟨cb6, 8, none⟩ = some iv6 := (blk HC6.out.row).1 8 _ rfl
    have D6 := hid (D5.out.trans (HB6.out.mono (by have := D5.out.size; simp at this; omega)))
    obtain ⟨va6, vc6, rfl⟩ := own_sh HC6.out.its
    go_wp2_with fail
    go_ret
    have hBw : w.heap.size ≤ B6 := by have := D5.out.size; simp at this; omega
    exact ⟨_, X6, rfl, hid (owns_lo HC6.out.its hBw), HC6.out.items.trans hit, hid ⟨fun z hz => owns_lo (HC6.out.chn.1 z hz) hBw, HC6.out.chn.2⟩, hid (HBX.out.trans (D6.out.mono (by omega)))⟩
end Go.Proofs.YtaplbefdijcceaaGreatDoor

namespace Go.Proofs.YtaplbefdijcceaaGreatDoor
open Go.RowKit Go.Lib
theorem comp_len {p : List PLine} (ho : OkI p) {g : Nat} (hg : g ∈ funs p) {fr : Bool} {inl : Nat} (hi : inl ≤ 3) {L : List ItL} (h : CompTo p fr inl g L) : L.length ≤ 3000 := by
  obtain ⟨n0, z0, n1, z1, _, _, _, l1, _, hc⟩ := passes ho hg fr hi
  rw [h.one hc]
  exact l1
end Go.Proofs.YtaplbefdijcceaaGreatDoor

namespace Go.Proofs.YtaplbefdijcceaaGreatDoor
open Go.RowKit Go.Lib
set_option maxHeartbeats 400000 in
theorem d_byte (c : Nat) (a : Option Addr) (len cap : Nat) (z : List Int) (w : World) (H : CurAt 126 w c a len cap z) :
    Calls Tryz.prog 129 #[.pointer (some ⟨c, 0, none⟩)] w (DrawInt 126 0 255 c a len cap z w) := by
  have HC := hid H
  obtain ⟨⟨i, h, hblk, hil⟩, hrow, hlt, hlen⟩ := H
  have c0 : w.cell? ⟨c, 0, none⟩ = some (.slice a len cap) := by rw [cell_of_row w c 0 _ _ _ hblk]; rfl
  have c1 : w.cell? ⟨c, 1, none⟩ = some (.int .i64 (i : Int)) := by rw [cell_of_row w c 1 _ _ _ hblk]; rfl
  have c2 : w.cell? ⟨c, 2, none⟩ = some (.int .i64 h) := by rw [cell_of_row w c 2 _ _ _ hblk]; rfl
  have f1 : w.frozen? ⟨c, 1, none⟩ = false := frozen_of_block hblk
  have f2 : w.frozen? ⟨c, 2, none⟩ = false := frozen_of_block hblk
  have q255 := i64_and255
  have HB := hid hblk
  clear hblk
  by_cases hi : i < len
  · rcases hrow with ⟨rfl, rfl, rfl, rfl⟩ | ⟨x, rfl, hl, hm, hz, hcell, hwz⟩
    · omega
    · obtain ⟨b, off, spot⟩ := x
      have hbc := hlt _ rfl (by omega)
      have hc := hcell i (by omega)
      have hspot : spot = none := by simpa [Addr.add] using World.cell?_spot (hcell 0 (by omega))
      subst hspot
      rw [add_plain] at hc
      have hel : w.cell? ⟨b, off + i, none⟩ = some (.int .u8 (z.getD i 0)) := hc
      have hne : ¬ b = c := by simp at hbc; omega
      have hne' : ¬ c = b := fun e => hne e.symm
      have i0 : (0 : Int) ≤ (i : Int) := by omega
      have i1 : (i : Int) < (len : Int) := by omega
      clear hcell hwz hlt hc hbc
      generalize z.getD i 0 = y at hel
      go_enter Tryz.func129, Tryz.ntmps129
      go_wp2_with fail
      generalize wrap64 (wrap64 (h * 6364136223846793005) + 1442695040888963407) = g
      generalize wrap64 (h * 6364136223846793005) = g'
      go_quiet (fail)
      go_wp2_with fail
      go_quiet (fail)
      go_wp2_with fail
      go_quiet (fail)
      go_wp2
      go_ret
      exact draw_end2 HC.out hi HB.out _ _ _
  · clear hrow hlt
    go_enter Tryz.func129, Tryz.ntmps129
    go_wp2_with fail
    generalize wrap64 (wrap64 (h * 6364136223846793005) + 1442695040888963407) = g
    generalize wrap64 (h * 6364136223846793005) = g'
    go_quiet (fail)
    go_wp2_with fail
    go_quiet (fail)
    go_wp2
    go_ret
    exact draw_end1 HC.out hil HB.out _ _ _ _
theorem d_below_small (c : Nat) (a : Option Addr) (len cap : Nat) (z : List Int) (n : Int) (w : World) (H : CurAt 126 w c a len cap z) (h0 : 0 < n) (h1 : n ≤ 256) :
    Calls Tryz.prog 86 #[.pointer (some ⟨c, 0, none⟩), .int .i64 n] w (DrawInt 126 0 (n - 1) c a len cap z w) := by
  have HC := hid H
  clear H
  go_enter Tryz.func86, Tryz.ntmps86
  go_wp2_with fail
  refine (d_byte c a len cap z _ HC.out).mono ?_
  rintro e w1 ⟨x, x0, x1, rfl, H1, G1⟩
  have hx := emod_below x n x0 h0
  have HX := hid hx
  clear hx
  go_wp2
  go_ret
  exact ⟨_, HX.out.1, HX.out.2, rfl, H1, G1⟩
theorem d_below_big (c : Nat) (a : Option Addr) (len cap : Nat) (z : List Int) (n : Int) (w : World) (H : CurAt 126 w c a len cap z) (h0 : 256 < n) (h1 : n ≤ 9223372036854775807) :
    Calls Tryz.prog 86 #[.pointer (some ⟨c, 0, none⟩), .int .i64 n] w (DrawInt 126 0 (n - 1) c a len cap z w) := by
  have HC := hid H
  clear H
  go_enter Tryz.func86, Tryz.ntmps86
  go_wp2_with fail
  refine (d_byte c a len cap z _ HC.out).mono ?_
  rintro e w1 ⟨x, x0, x1, rfl, H1, G1⟩
  have K1 := hid H1; have L1 := hid G1; clear H1 G1
  go_wp2_with fail
  refine (d_byte c a len cap z _ K1.out).mono ?_
  rintro e w2 ⟨y, y0, y1, rfl, H2, G2⟩
  have K2 := hid H2; have L2 := hid G2; clear H2 G2
  go_wp2_with fail
  refine (d_byte c a len cap z _ K2.out).mono ?_
  rintro e w3 ⟨u, u0, u1, rfl, H3, G3⟩
  have K3 := hid H3; have L3 := hid G3; clear H3 G3
  go_wp2_with fail
  refine (d_byte c a len cap z _ K3.out).mono ?_
  rintro e w4 ⟨v, v0, v1, rfl, H4, G4⟩
  have K4 := hid H4; have L4 := hid G4; clear H4 G4
  have hx := emod_below (x * 16777216 + y * 65536 + u * 256 + v) n (by omega) (by omega)
  have HX := hid hx
  clear hx
  go_wp2
  go_ret
  exact ⟨_, HX.out.1, HX.out.2, rfl, K4.out, ((L1.out.trans L2.out).trans L3.out).trans L4.out⟩
theorem d_below (c : Nat) (a : Option Addr) (len cap : Nat) (z : List Int) (n : Int) (w : World) (H : CurAt 126 w c a len cap z) (h0 : 0 < n) (h1 : n ≤ 9223372036854775807) :
    Calls Tryz.prog 86 #[.pointer (some ⟨c, 0, none⟩), .int .i64 n] w (DrawInt 126 0 (n - 1) c a len cap z w) := by
  by_cases h : n ≤ 256
  · exact d_below_small c a len cap z n w H h0 h
  · exact d_below_big c a len cap z n w H (by omega) h1
set_option maxRecDepth 100000 in
set_option maxHeartbeats 400000 in
theorem d_new (a : Option Addr) (len cap : Nat) (z : List Int) (w : World) (H : IsRow .u8 w a len cap z) (hl : len ≤ 1048576) :
    Calls Tryz.prog 42 #[.slice a len cap] w (DrawCur 126 a len cap z w) := by
  have HC := hid H
  have hcell : ∀ k, k < len → ∃ b off, a = some ⟨b, off, none⟩ ∧ w.cell? ⟨b, off + k, none⟩ = some (.int .u8 (z.getD k 0)) := by
    intro k hk
    rcases H with ⟨rfl, rfl, _, _⟩ | ⟨x, rfl, h1, h2, h3, h4, h5⟩
    · omega
    · obtain ⟨b, off, spot⟩ := x
      have hspot : spot = none := by simpa [Addr.add] using World.cell?_spot (h4 0 (by omega))
      subst hspot
      exact ⟨b, off, rfl, by have := h4 k (by omega); rw [add_plain] at this; exact this⟩
  have HK := hid hcell
  clear H hcell
  go_enter Tryz.func42, Tryz.ntmps42
  go_wp2
  go_loop [3, 4] (fun h i => ∃ (k : Nat) (g : Int), k ≤ len ∧ i = .int .i64 (k : Int) ∧ h = .int .i64 g) (fun _ i => len - (intOf i).toNat)
  case atStart => exact ⟨0, _, Nat.zero_le _, rfl, rfl⟩
  case round =>
    obtain ⟨k, g, hk, rfl, rfl⟩ := hrel
    by_cases hlt : k < len
    · by_cases h4 : k < 4000
      · obtain ⟨b, off, rfl, hel⟩ := HK.out k hlt
        clear HK
        generalize z.getD k 0 = y at hel
        go_wp2
        go_round
        case rel => exact ⟨k + 1, _, by omega, by go_num, rfl⟩
        case measure => simp [intOf]; omega
      · have h4' : decide ((k : Int) < 4000) = false := by simp; omega
        go_wp2
        go_ret
        exact draw_new HC.out hl _
    · go_wp2
      go_ret
      exact draw_new HC.out hl _
end Go.Proofs.YtaplbefdijcceaaGreatDoor

namespace Go.Proofs.YtaplbefdijcceaaGreatDoor
open Go.RowKit Go.Lib
theorem d_once (c : Nat) (a : Option Addr) (len cap : Nat) (z : List Int) (n : Int) (w : World) (H : CurAt 126 w c a len cap z) (h0 : 0 < n) (h1 : n ≤ 9223372036854775807) :
    Calls Tryz.prog 88 #[.pointer (some ⟨c, 0, none⟩), .int .i64 n] w (DrawBool 126 c a len cap z w) := by
  have HC := hid H
  clear H
  go_enter Tryz.func88, Tryz.ntmps88
  go_wp2_with fail
  refine (d_below c a len cap z n _ HC.out h0 h1).mono ?_
  rintro e w1 ⟨x, x0, x1, rfl, H1, G1⟩
  have K1 := hid H1; have L1 := hid G1; clear H1 G1
  go_wp2
  go_ret
  exact ⟨_, rfl, K1.out, L1.out⟩
end Go.Proofs.YtaplbefdijcceaaGreatDoor

namespace Go.Proofs.YtaplbefdijcceaaGreatDoor
open Go.RowKit Go.Lib
set_option maxHeartbeats 400000 in
theorem d_pickint (c : Nat) (a : Option Addr) (len cap : Nat) (z : List Int) (b n : Nat) (zs : List Int) (lo hi : Int) (w : World) (H : CurAt 126 w c a len cap z) (hn : zs.length = n) (h0 : 0 < n) (h1 : n ≤ 100)
    (hb : w.heap[b]? = some (.cells (zs.map (Value.int .i64)).toArray 3 (0, 0))) (hbc : b ≠ c) (hz : ∀ x ∈ zs, lo ≤ x ∧ x ≤ hi) :
    Calls Tryz.prog 87 #[.pointer (some ⟨c, 0, none⟩), .slice (some ⟨b, 0, none⟩) n n] w (DrawInt 126 lo hi c a len cap z w) := by
  have HC := hid H
  have HB := hid hb
  have HN := hid hn
  have HZ := hid hz
  have HBC := hid hbc
  clear H hb hn hz hbc
  go_enter Tryz.func87, Tryz.ntmps87
  go_wp2_with fail
  refine (d_below c a len cap z n _ HC.out (by omega) (by omega)).mono ?_
  rintro e w1 ⟨x, x0, x1, rfl, H1, G1⟩
  obtain ⟨k, rfl⟩ := Int.eq_ofNat_of_zero_le x0
  have hk : k < zs.length := by rw [HN.out]; omega
  have hcell := cell_of_ints (w := w1) (b := b) (zs := zs) (t := 3) (by rw [G1.block b (by
    rcases Nat.lt_or_ge b w.heap.size with h | h
    · exact h
    · have := HB.out; rw [Array.getElem?_eq_none h] at this; cases this) (by intro e; injection e with e; exact HBC.out e)]; exact HB.out) k hk
  have hy := HZ.out zs[k] (List.getElem_mem hk)
  generalize zs[k] = y at hcell hy
  have K1 := hid H1; have L1 := hid G1; have HY := hid hy
  clear H1 G1 hy
  have hk0 : (0 : Int) ≤ (k : Int) := by omega
  have hk1 : (k : Int) < (n : Int) := by omega
  go_wp2
  go_ret
  exact ⟨y, HY.out.1, HY.out.2, rfl, K1.out, L1.out⟩
end Go.Proofs.YtaplbefdijcceaaGreatDoor
