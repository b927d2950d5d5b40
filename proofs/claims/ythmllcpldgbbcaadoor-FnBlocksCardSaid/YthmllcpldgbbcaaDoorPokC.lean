/- The program's ProgramOk, check by check: the functions' names; known variables and calls. -/
import Derived.Test.YthmllcpldgbbcaaDoorPokB
import Derived.Test.YthmllcpldgbbcaaDoorLocImpl
import Derived.Deep.QuietTactic
import Derived.BigQuiet
namespace Go.Proofs.YthmllcpldgbbcaaDoor
open Go.RowKit Go.Lib

/-- The name of a line. -/
def nmZ (p : List PLine) (k : Nat) : ByteArray := match p[k]? with
  | none => ⟨#[]⟩
  | some x => x.name
theorem nmZ_at (X : List LnL) (k : Nat) (h : k < X.length) : nmZ (plL X) k = X[k].name := by
  have hq : k < (plL X).length := by rw [plL_length]; exact h
  unfold nmZ
  rw [List.getElem?_eq_getElem hq, pl_at X k h]
  rfl
def FunsP (p : List PLine) : Prop := (funs p).length ≤ 6 ∧ findZ p mainT = 0 ∧ argsZ p 0 = [] ∧ ∀ k ∈ funs p, ∀ h : k < p.length, findZ p p[k].name = (k : Int)
def uniq (p : List PLine) (q : Nat) : Prop := ∀ i, ∀ h : i < (funs p).length, i < q → findZ p (nmZ p (funs p)[i]) = ((funs p)[i] : Int)
theorem uniq_all (p : List PLine) : uniq p (funs p).length ↔ ∀ k ∈ funs p, ∀ h : k < p.length, findZ p p[k].name = (k : Int) := by
  have hn : ∀ k, ∀ h : k < p.length, nmZ p k = p[k].name := fun k h => by unfold nmZ; rw [List.getElem?_eq_getElem h]
  constructor
  · intro hu k hk h
    obtain ⟨i, hi, rfl⟩ := List.mem_iff_getElem.1 hk
    rw [← hn _ h]
    exact hu i hi hi
  · intro hu i hi _
    have hlt := funs_lt p i hi
    rw [hn _ hlt]
    exact hu _ (List.getElem_mem hi) hlt

set_option maxRecDepth 100000 in
set_option maxHeartbeats 4000000 in
theorem i_funFit (a : Option Addr) (cap : Nat) (X : List LnL) (w : World) (hl : X.length ≤ 1048576) (hr : ReadL 9 70 w a X) :
    Calls Tryd.prog 21 #[.slice a X.length cap] w (Ans (FunsP (plL X)) w) := by
  have HR := Lib.hid hr
  have hpl := plL_length X
  have HF := Lib.hid (i_funLines a cap X w hl hr)
  have HE := Lib.hid (fun (W : World) (hb : Below w.heap.size w W) n => i_findFn a cap X n W (by omega) (hr.below hb))
  clear hr
  go_enter Tryd.func21, Tryd.ntmps21
  go_wp2_with fail
  refine HF.out.mono ?_
  rintro e w1 ⟨v, rfl, hown, b1⟩
  obtain ⟨av, cv, rfl⟩ := owns3_shape hown
  have HRI := Lib.hid (readI_of hown)
  have HB1 := Lib.hid b1
  have z1 := b1.size
  have hfl := funI_length (plL X)
  obtain ⟨F, hF⟩ : ∃ F, funI (plL X) = F := ⟨_, rfl⟩
  have HFG := Lib.hid (fun i h => funI_get (plL X) i h)
  rw [hF] at HRI hfl HFG
  have HFL := Lib.hid hfl
  obtain ⟨n, hn⟩ : ∃ n, F.length = n := ⟨_, rfl⟩
  have HNN := Lib.hid hn
  rw [hF, hn]
  rw [hn] at hfl
  have HNF := Lib.hid hfl
  clear b1 hown hF hn HF hfl
  by_cases hn6 : 6 < n
  · have HV : Hid (¬ FunsP (plL X)) := Lib.hid (fun h => by have := h.1; have := HNF.out; omega)
    have hd : decide (6 < (n : Int)) = true := decide_eq_true (by omega)
    go_wp2
    go_ret
    exact Ans.of false rfl (by simpa using HV.out) HB1.out
  have hd : decide (6 < (n : Int)) = false := decide_eq_false (by omega)
  have HMM := Lib.hid (HE.out w1 HB1.out ⟨#[109, 97, 105, 110]⟩)
  by_cases hm : findZ (plL X) mainT = 0
  · obtain ⟨h0l, h00, _⟩ := (find_zero (plL X) mainT).1 hm
    have hx0 : 0 < X.length := by omega
    obtain ⟨g, rfl, hg, ⟨_, _, c2, _⟩, hmm⟩ := (HR.out.below HB1.out) 0 hx0
    obtain ⟨xa, _, xc, _, ea, _, _, _, _, _⟩ := inMem_shape hmm
    rw [ea] at c2
    have c2' : w1.cell? ⟨g, 2, none⟩ = some (.slice xa X[0].args.length xc) := c2
    have HM : Hid (findZ (plL X) ⟨#[109, 97, 105, 110]⟩ = 0) := Lib.hid hm
    rw [HM.out] at HMM
    have HA0 : Hid (argsZ (plL X) 0 = X[0].args) := Lib.hid (argsZ_at X 0 hx0)
    have HU : Hid (uniq (plL X) n ↔ ∀ k ∈ funs (plL X), ∀ h : k < (plL X).length, findZ (plL X) (plL X)[k].name = (k : Int)) := Lib.hid (by rw [HNF.out]; exact uniq_all _)
    have HM0 := Lib.hid hm
    clear c2 hmm ea hm h00
    by_cases ha : X[0].args.length = 0
    · have hd0 : decide ((0 : Int) < (X[0].args.length : Int)) = false := decide_eq_false (by omega)
      have hd1 : ¬ 0 < X[0].args.length := by omega
      have HFP : Hid (uniq (plL X) n ↔ FunsP (plL X)) := Lib.hid (by
        rw [HU.out]
        unfold FunsP
        exact ⟨fun h => ⟨by have := HNF.out; omega, HM0.out, by rw [HA0.out]; exact List.length_eq_zero_iff.1 ha, h⟩, fun h => h.2.2.2⟩)
      generalize X[0].args.length = na at *
      clear ha
      go_wp2_with fail
      refine HMM.out.mono ?_
      rintro e w2 ⟨rfl, b2⟩
      have HB2 : Hid (Below w.heap.size w w2) := Lib.hid (HB1.out.trans (b2.mono z1))
      have HC2 := Lib.hid b2
      have d2 : w2.cell? ⟨g, 2, none⟩ = some (.slice xa na xc) := (b2.cell (p := ⟨g, 2, none⟩) (by show g < w1.heap.size; omega)).trans c2'
      clear b2 c2'
      go_wp2_with fail
      clear d2
      go_loopw [5, 26] (fun _ i wr => ∃ q : Nat, q ≤ n ∧ i = .int .i64 (q : Int) ∧ Hid (uniq (plL X) q) ∧ Below w.heap.size w wr ∧ Below w1.heap.size w1 wr) (fun _ i _ => n - (RowKit.intOf i).toNat)
      case atStart => exact ⟨0, Nat.zero_le _, rfl, Lib.hid (fun i _ h => by omega), HB2.out, HC2.out⟩
      case round =>
        obtain ⟨q, hq, rfl, HP, hbel, hbel1⟩ := hrel
        have HB := Lib.hid hbel
        have HC := Lib.hid hbel1
        have hB := hbel.size
        have hC := hbel1.size
        by_cases hlt : q < n
        · have hqF : q < F.length := by rw [HNN.out]; exact hlt
          obtain ⟨gv, rfl, hgv, c0⟩ := (HRI.out.below hbel1) q hqF
          obtain ⟨hq', hget⟩ := HFG.out q hqF
          rw [hget] at c0
          have hklt := funs_lt (plL X) q hq'
          have HPN := Lib.hid (fun (h : findZ (plL X) (nmZ (plL X) (funs (plL X))[q]) = (((funs (plL X))[q] : Nat) : Int)) => show uniq (plL X) (q + 1) from fun i hi hiq => by
            by_cases hiq' : i = q
            · subst hiq'; exact h
            · exact HP.out i hi (by omega))
          have HPX := Lib.hid (fun (h : FunsP (plL X)) => HFP.out.2 h q hq' hlt)
          obtain ⟨k, hk⟩ : ∃ k, (funs (plL X))[q] = k := ⟨_, rfl⟩
          rw [hk] at c0 hklt HPN HPX
          have hkX : k < X.length := by omega
          rw [nmZ_at X k hkX] at HPN HPX
          obtain ⟨g', hga, hg', ⟨_, c1, _, _⟩, _⟩ := (HR.out.below hbel) k hkX
          injection hga with hga
          injection hga with hga
          subst hga
          have HEK := Lib.hid (HE.out wr hbel X[k].name)
          obtain ⟨r, hrr⟩ : ∃ r, findZ (plL X) X[k].name = r := ⟨_, rfl⟩
          rw [hrr] at HEK HPN HPX
          generalize X[k].name = nm at *
          have k0 : (0 : Int) ≤ (q : Int) := by omega
          have k1 : (q : Int) < (n : Int) := by omega
          have k2 : (0 : Int) ≤ (k : Int) := by omega
          have k3 : (k : Int) < (X.length : Int) := by omega
          clear hk hrr hget hqF hq' hbel hbel1 hklt
          by_cases hrk : r = (k : Int)
          · subst hrk
            have HN := Lib.hid (HPN.out rfl)
            clear HPN HPX HP
            go_wp2_with fail
            refine HEK.out.mono ?_
            rintro e w3 ⟨rfl, b3⟩
            have HB3 : Hid (Below w.heap.size w w3) := Lib.hid (HB.out.trans (b3.mono hB))
            have HC3 : Hid (Below w1.heap.size w1 w3) := Lib.hid (HC.out.trans (b3.mono hC))
            clear b3 c0 c1
            go_wp2
            go_roundw
            case rel => exact ⟨q + 1, by omega, by go_num, HN, HB3.out, HC3.out⟩
            case measure => simp [RowKit.intOf]; omega
          · have HV : Hid (¬ FunsP (plL X)) := Lib.hid (fun h => hrk (HPX.out h))
            have hdk : (r != (k : Int)) = true := by simpa using hrk
            clear HPN HPX HP hrk
            go_wp2_with fail
            refine HEK.out.mono ?_
            rintro e w3 ⟨rfl, b3⟩
            have HB3 : Hid (Below w.heap.size w w3) := Lib.hid (HB.out.trans (b3.mono hB))
            clear b3 c0 c1
            go_wp2
            go_ret
            exact Ans.of false rfl (by simpa using HV.out) HB3.out
        · have hqq : q = n := by omega
          have HV : Hid (FunsP (plL X)) := Lib.hid (HFP.out.1 (hqq ▸ HP.out))
          subst hqq
          clear hbel hbel1 HP
          go_wp2
          go_ret
          exact Ans.of true rfl (by simpa using HV.out) HB.out
    · have hd0 : decide ((0 : Int) < (X[0].args.length : Int)) = true := decide_eq_true (by omega)
      have hd1 : 0 < X[0].args.length := by omega
      have HV : Hid (¬ FunsP (plL X)) := Lib.hid (fun h => by
        have := h.2.2.1
        rw [HA0.out] at this
        exact ha (by rw [this]; rfl))
      generalize X[0].args.length = na at *
      clear ha
      go_wp2_with fail
      refine HMM.out.mono ?_
      rintro e w2 ⟨rfl, b2⟩
      have HB2 : Hid (Below w.heap.size w w2) := Lib.hid (HB1.out.trans (b2.mono z1))
      have d2 : w2.cell? ⟨g, 2, none⟩ = some (.slice xa na xc) := (b2.cell (p := ⟨g, 2, none⟩) (by show g < w1.heap.size; omega)).trans c2'
      clear b2 c2'
      go_wp2
      go_ret
      exact Ans.of false rfl (by simpa using HV.out) HB2.out
  · have HV : Hid (¬ FunsP (plL X)) := Lib.hid (fun h => hm h.2.1)
    obtain ⟨r, hrr⟩ : ∃ r, findZ (plL X) ⟨#[109, 97, 105, 110]⟩ = r := ⟨_, rfl⟩
    have hrn : r ≠ 0 := fun e => hm (by rw [← e, ← hrr]; rfl)
    rw [hrr] at HMM
    have hdr : (r != 0) = true := by simpa using hrn
    clear hm hrn hrr
    go_wp2_with fail
    refine HMM.out.mono ?_
    rintro e w2 ⟨rfl, b2⟩
    have HB2 : Hid (Below w.heap.size w w2) := Lib.hid (HB1.out.trans (b2.mono z1))
    clear b2
    go_wp2
    go_ret
    exact Ans.of false rfl (by simpa using HV.out) HB2.out
end Go.Proofs.YthmllcpldgbbcaaDoor
