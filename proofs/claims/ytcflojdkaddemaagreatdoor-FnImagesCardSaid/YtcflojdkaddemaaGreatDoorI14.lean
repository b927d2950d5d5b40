/- Parts of the proof. -/
import Derived.Test.YtcflojdkaddemaaGreatDoorI13
import Derived.Maps.OwnOps
import Derived.Carry
namespace Go.Proofs.YtcflojdkaddemaaGreatDoor
open Go.RowKit Go.Lib Go.Maps
theorem keyS:Keyed Tryz.prog 9:=string_keyed Tryz.underlying9
theorem keyI:Keyed Tryz.prog 3:=int_keyed Tryz.underlying3
theorem zerI (w:World):(zeroValue 3).run Tryz.prog w=.ok (.int .i64 0) w:=by kernel_rfl
theorem keyS_of {s:ByteArray} (h:s.size≤maxLen):keyOf Tryz.prog 9 (.string s)=some (kN s):=Go.WideMaps.keyOf_string_mk Tryz.underlying9 h
theorem keyI_of {a:Int} (h:(Lit.int .i64 a).wf=true):keyOf Tryz.prog 3 (.int .i64 a)=some (.int .i64 a):=keyOf_int_mk Tryz.underlying3 h
theorem kN_ne {n m:ByteArray} (h:n≠m):kN n≠kN m:=fun e=>h (by
 unfold kN at e;injection e with e
 exact ByteArray.ext (Array.ext' e))
theorem kN_lit (n:ByteArray):WideAt.IsKeyLit (kN n):=by unfold kN WideAt.IsKeyLit;trivial
def nrow (cb:Nat) (ab:Option Nat) (f:Nat) (chv:Value) (mb:Nat) (free line:Nat) (pend:Bool) (fb:Nat) (jv:Value):Array Value :=
 #[.pointer (some ⟨cb,0,none⟩),ptrV ab,.int .i64 (f:Int),chv,.map (some mb),.int .i64 (free:Int),.int .i64 (line:Int),.bool pend,.map (some fb),jv]
theorem nrow_is (cb:Nat) (E:CmpE) (sc:ScL) (b:BdW) (jv:Value) (line:Nat) (pend:Bool):brow cb E sc b jv line pend=nrow cb b.ab sc.f b.chv b.mb (freeN E sc) line pend b.fb jv:=rfl
set_option maxRecDepth 100000 in
set_option maxHeartbeats 1000000 in
theorem i_newBody (cb k:Nat) (w:World) :
  Calls Tryz.prog 141 #[.pointer (some ⟨cb,0,none⟩),.int .i64 (k:Int)] w fun e w'=>∃ bb mb fb,e=.returned (.pointer (some ⟨bb,0,none⟩))∧w'.heap[bb]?=some (.cells (nrow cb none k (.slice none 0 0) mb 0 0 false fb (.slice none 0 0)) 181 (0,0)) ∧
   w'.ownsMap (H:=Unit) Tryz.prog 9 (plainElem Tryz.prog 3) mb 0 (.map [])∧w'.ownsMap (H:=Unit) Tryz.prog 3 (plainElem Tryz.prog 3) fb 0 (.map [])∧w.heap.size≤bb∧w.heap.size≤mb∧w.heap.size≤fb∧mb≠fb∧Below w.heap.size w w':=by
 have hmm:=@run_makeMap Tryz.prog;have hsz:∀ X,(w.alloc X).heap.size=w.heap.size+1:=fun X=>by simp
 have M1:Hid (∀ W:World,((W.alloc (.map #[] 0)).ownsMap (H:=Unit) Tryz.prog 9 (plainElem Tryz.prog 3) W.heap.size 0 (.map []))):=hid (fun W=>World.ownsMap_made _ _ _ _);have M2:Hid (∀ W:World,((W.alloc (.map #[] 0)).ownsMap (H:=Unit) Tryz.prog 3 (plainElem Tryz.prog 3) W.heap.size 0 (.map []))):=hid (fun W=>World.ownsMap_made _ _ _ _)
 go_enter Tryz.func141,Tryz.ntmps141
 go_wp2;go_ret;have hs2:((w.alloc (.map #[] 0)).alloc (.map #[] 0)).heap.size=w.heap.size+2:=by simp
 have hbel:Below w.heap.size w (((w.alloc (.map #[] 0)).alloc (.map #[] 0)).alloc (.cells (nrow cb none k (.slice none 0 0) w.heap.size 0 0 false (w.heap.size+1) (.slice none 0 0)) 181)):=(((Below.refl _ _).alloc (Nat.le_refl _) _).alloc (by simp) _).alloc (by simp;omega) _;refine ⟨_,w.heap.size,w.heap.size+1,rfl,?_,((M1.out w).alloc _).alloc _,?_,by omega,Nat.le_refl _,by omega,by omega,hbel⟩
 ·have h:=heap_alloc_new ((w.alloc (.map #[] 0)).alloc (.map #[] 0)) (.cells (nrow cb none k (.slice none 0 0) w.heap.size 0 0 false (w.heap.size+1) (.slice none 0 0)) 181)
  rw [hs2] at h;exact h
 ·have h:=(M2.out (w.alloc (.map #[] 0))).alloc (.cells (nrow cb none k (.slice none 0 0) w.heap.size 0 0 false (w.heap.size+1) (.slice none 0 0)) 181)
  rw [hsz] at h;exact h
def Given (D0 D:DataW Unit) (l:List ByteArray) (f0:Nat):Prop :=
 (∀ i,∀ h:i<l.length,D.atKey (kN l[i]) zI=.lit (.int .i64 (-((f0+i+1:Nat):Int))))∧∀ m,m ∉ l→D.atKey (kN m) zI=D0.atKey (kN m) zI
theorem Given.put {D0 D:DataW Unit} {l:List ByteArray} {x:ByteArray} {f0:Nat} (h:Given D0 D l f0) (hD:IsMap D) (hx:x ∉ l):Given D0 (D.put (kN x) (.lit (.int .i64 (-((f0+l.length+1:Nat):Int))))) (l++[x]) f0:=by
 refine ⟨fun i hi=>?_,fun m hm=>?_⟩
 ·by_cases hlt:i<l.length
  ·rw [List.getElem_append_left hlt]
   have hne:l[i]≠x:=fun e=>hx (by rw [← e];exact List.getElem_mem hlt)
   rw [atKey_put_other (kN_ne hne)];exact h.1 i hlt
  ·have hi2:i=l.length:=by rw [List.length_append,List.length_singleton] at hi;omega
   subst hi2;rw [List.getElem_append_right (Nat.le_refl _)];simp only [Nat.sub_self,List.getElem_cons_zero];exact atKey_put_same hD (kN_lit x) _ _
 ·have hne:m≠x:=fun e=>hm (by rw [e];simp)
  rw [atKey_put_other (kN_ne hne)];exact h.2 m (fun e=>hm (List.mem_append_left _ e))
def Above (cb bb:Nat) (K:KcE) (t:CiS) (iv:Value) (ab:Option Nat) (f:Nat) (chv:Value) (mb:Nat) (D0:DataW Unit) (n:Nat) (f0:Nat) (l:List ByteArray) (fb:Nat) (jv:Value) (w:World) (e:Ending) (w':World):Prop :=
 e=.returned (.tuple #[])∧∃ D,Hid (w'.heap[cb]?=some (.cells (crow K { t with used:=max t.used (f0+l.length) } iv) 128 (0,0)))∧Hid (w'.heap[bb]?=some (.cells (nrow cb ab f chv mb (f0+l.length) 0 false fb jv) 181 (0,0))) ∧
  Hid (w'.ownsMap (H:=Unit) Tryz.prog 9 (plainElem Tryz.prog 3) mb (n+l.length) D)∧Hid (Given D0 D l f0)∧Hid (Step cb [psV bb,psV mb] [psV bb,psV mb] w w')
theorem step_bb {cb bb:Nat} {M:List Value} (w:World) (hm:psV bb ∈ M) (j:Nat) (u:Value):Step cb M M w (w.setCell ⟨bb,j,none⟩ u):=cellB_step w hm j u
set_option maxRecDepth 100000 in
set_option maxHeartbeats 4000000 in
theorem i_placeAbove (cb bb:Nat) (K:KcE) (t:CiS) (iv:Value) (ab:Option Nat) (f:Nat) (chv:Value) (mb:Nat) (D0:DataW Unit) (n f0:Nat) (l:List ByteArray) (fb:Nat) (jv:Value) (a:Option Addr) (c:Nat) (w:World)
  (hc:w.heap[cb]?=some (.cells (crow K t iv) 128 (0,0))) (hb:w.heap[bb]?=some (.cells (nrow cb ab f chv mb f0 0 false fb jv) 181 (0,0))) (hM:w.ownsMap (H:=Unit) Tryz.prog 9 (plainElem Tryz.prog 3) mb n D0)
  (hl:ReadO w a l) (hal:∀ g o,a=some ⟨g,o,none⟩→g≠bb∧g≠mb∧g≠cb) (hnd:l.Nodup) (hsz:∀ x ∈ l,x.size≤maxLen) (hll:l.length≤1000) (hf0:f0≤100000) (hn:n≤100000) (hu:t.used≤1000000) :
  Calls Tryz.prog 142 #[.pointer (some ⟨bb,0,none⟩),.slice a l.length c] w (Above cb bb K t iv ab f chv mb D0 n f0 l fb jv w):=by
 have HC:=hid hc;have HB:=hid hb;have HM:=hid hM;have HL:=hid hl;have HAL:=hid hal;have HND:=hid hnd;have HSZ:=hid hsz;have hcbb:cb≠bb:=fun e=>by
  rw [e,hb] at hc;injection hc with h
  injection h with _ h
  exact absurd h (by decide)
 have hmc:mb≠cb:=map_not hM hc;have hmbb:mb≠bb:=map_not hM hb;have NE:=hid (And.intro hcbb (And.intro hmc hmbb));clear hc hb hM hl hal hnd hsz hcbb hmc hmbb
 go_enter Tryz.func142,Tryz.ntmps142
 go_wp2_with fail
 go_loopw [8] (fun i wr=>∃ (q:Nat) (D:DataW Unit),q≤l.length∧i=.int .i64 (q:Int)∧Hid (wr.heap[cb]?=some (.cells (crow K t iv) 128 (0,0)))∧Hid (wr.heap[bb]?=some (.cells (nrow cb ab f chv mb (f0+q) 0 false fb jv) 181 (0,0))) ∧
   Hid (wr.ownsMap (H:=Unit) Tryz.prog 9 (plainElem Tryz.prog 3) mb (n+q) D)∧Hid (Given D0 D (l.take q) f0)∧Hid (Step cb [psV bb,psV mb] [psV bb,psV mb] w wr)) (fun i _=>l.length - (RowKit.intOf i).toNat)
 case atStart=>exact ⟨0,D0,Nat.zero_le _,rfl,HC,HB,HM,hid ⟨fun i h=>by simp at h,fun m _=>rfl⟩,hid (Step.refl _ _ _)⟩
 case round =>
  obtain ⟨q,D,hq,rfl,HC1,HB1,HM1,HG1,HS1⟩:=hrel;have c0:wr.cell? ⟨bb,0,none⟩=some (.pointer (some ⟨cb,0,none⟩)):=(blk HB1.out).1 0 _ rfl;have c5:wr.cell? ⟨bb,5,none⟩=some (.int .i64 ((f0+q:Nat):Int)):=(blk HB1.out).1 5 _ rfl;have g5:=(blk HB1.out).2.1 5
  by_cases hlt:q<l.length
  ·have k1:(q:Int)<(l.length:Int):=by omega
   have k0:(0:Int)≤(q:Int):=by omega
   obtain ⟨gn,on,rfl,hcell⟩:=HL.out q hlt;obtain ⟨hg1,hg2,hg3⟩:=HAL.out gn on rfl;have hcw:wr.cell? ⟨gn,on+q,none⟩=some (.string l[q]):=by
    rw [World.cell?_of_block (a:=⟨gn,on+q,none⟩) (HS1.out.block gn ?_ hg3 ?_)]
    ·exact hcell
    ·have:=World.block_lt_of_cell? w _ hcell;exact this
    ·intro v hv e
     simp only [List.mem_cons,List.not_mem_nil,or_false] at hv
     rcases hv with rfl|rfl
     ·exact hg1 (Option.some.inj e).symm
     ·exact hg2 (Option.some.inj e).symm
   have hnot:Hid (l[q] ∉ l.take q):=hid (fun h=>by
    obtain ⟨i,hi,e⟩:=List.mem_iff_getElem.1 h;rw [List.getElem_take] at e;have hi2:i<q:=by rw [List.length_take] at hi;omega
    exact List.pairwise_iff_getElem.1 HND.out i q (by omega) hlt hi2 e)
   have htk:Hid (l.take (q+1)=l.take q++[l[q]]):=hid (List.take_succ_eq_append_getElem hlt);have hkz:=HSZ.out _ (List.getElem_mem hlt);have htl:Hid ((l.take q).length=q):=hid (by rw [List.length_take];omega);obtain ⟨nm,hnm⟩:∃ nm,l[q]=nm:=⟨_,rfl⟩;rw [hnm] at hcw hnot htk hkz;clear hnm hcell hg1 hg2 hg3;obtain ⟨m,hm⟩:∃ m,f0+q=m:=⟨_,rfl⟩;have hmz:m≤101000:=by omega
   have HMI:Hid ((m:Int)+1=((f0+(q+1):Nat):Int)):=hid (by omega);have HMJ:Hid ((m:Int)+1=((f0+q+1:Nat):Int)):=hid (by omega);rw [hm] at c5;clear hm;have u1:IntKind.i64.wrap ((m:Int)+1)=(m:Int)+1:=IntWalk.i64_in _ (by omega);have u2:IntKind.i64.wrap (-((m:Int)+1))=-((m:Int)+1):=IntWalk.i64_in _ (by omega);obtain ⟨wy,hwy⟩:∃ W,wr.setCell ⟨bb,5,none⟩ (.int .i64 ((m:Int)+1))=W:=⟨_,rfl⟩;have HBY:Hid (wy.heap[bb]?=some (.cells (nrow cb ab f chv mb (f0+(q+1)) 0 false fb jv) 181 (0,0))):=hid (by rw [← hwy,HMI.out];exact heap_setCell_at HB1.out _);have HCY:Hid (wy.heap[cb]?=some (.cells (crow K t iv) 128 (0,0))):=hid (by rw [← hwy];exact (set_other NE.out.1).trans HC1.out);have HMY:Hid (wy.ownsMap (H:=Unit) Tryz.prog 9 (plainElem Tryz.prog 3) mb (n+q) D):=hid (by rw [← hwy];exact map_keep HM1.out (set_other NE.out.2.2));have HSY:Hid (Step cb [psV bb,psV mb] [psV bb,psV mb] w wy):=hid (by rw [← hwy];exact HS1.out.trans (step_bb _ (by simp) 5 _));have HWY:=hid hwy;clear hwy;obtain ⟨w1,hrun,hM2,hg2⟩:=HMY.out.drew.update keyS Tryz.underlying177 (by unfold maxLen;omega) (keyS_of hkz) (val:=.int .i64 (-((m:Int)+1))) (plainElem_int Tryz.underlying3 (WalkArith.wf_i64 (by omega)));have HM2:=hid hM2;have HG2:=hid hg2;clear hM2 hg2;go_upto_region 4 with fail;rw [HWY.out];have SY:Hid (wy.cell? ⟨bb,4,none⟩=some (.map (some mb))∧wy.cell? ⟨bb,5,none⟩=some (.int .i64 ((m:Int)+1))):=hid ⟨(blk HBY.out).1 4 _ rfl,by rw [HMI.out];exact (blk HBY.out).1 5 _ rfl⟩;refine E_start (S:=(fun w'=>w'.cell? ⟨bb,4,none⟩=some (.map (some mb))∧w'.cell? ⟨bb,5,none⟩=some (.int .i64 ((m:Int)+1)))) 10 (by kernel_rfl) (SY.out) (fun hHeld=>?_);refine E_tk 0 ?_
   try simp only [Act.put,eS1,eS2,eS3,eA1,eA2,eA3]
   refine E_tk 1 ?_
   try simp only [Act.put,eS1,eS2,eS3,eA1,eA2,eA3]
   refine E_tk 2 ?_
   try simp only [Act.put,eS1,eS2,eS3,eA1,eA2,eA3]
   refine E_tk 3 ?_
   try simp only [Act.put,eS1,eS2,eS3,eA1,eA2,eA3]
   refine E_tk 4 ?_
   try simp only [Act.put,eS1,eS2,eS3,eA1,eA2,eA3]
   refine E_tk 5 ?_
   try simp only [Act.put,eS1,eS2,eS3,eA1,eA2,eA3]
   refine E_tk 6 ?_
   try simp only [Act.put,eS1,eS2,eS3,eA1,eA2,eA3]
   refine E_tk 7 ?_
   try simp only [Act.put,eS1,eS2,eS3,eA1,eA2,eA3]
   refine E_tk 8 ?_
   try simp only [Act.put,eS1,eS2,eS3,eA1,eA2,eA3]
   refine E_tk 9 ?_
   try simp only [Act.put,eS1,eS2,eS3,eA1,eA2,eA3]
   refine E_last (o:=_) (by kernel_rfl) rfl (by kernel_rfl) (fun K hK=>?_)
   try simp only [eA1,eA2,eA3]
   go_simp
   refine hK.out _ _ ?_;clear hK K;go_wp2;go_roundw
   case rel =>
    refine ⟨q+1,_,by omega,by go_num,hid ?_,hid ?_,HM2,hid ?_,hid ?_⟩
    ·exact (HG2.out.block cb (by have:=(blk HCY.out).2.2;exact this) (fun e=>NE.out.2.1 (Option.some.inj e).symm)).trans HCY.out
    ·exact (HG2.out.block bb (by have:=(blk HBY.out).2.2;exact this) (fun e=>NE.out.2.2 (Option.some.inj e).symm)).trans HBY.out
    ·rw [htk.out]
     have h:=HG1.out.put HM1.out.isMap hnot.out;rw [htl.out,← HMJ.out] at h;exact h
    ·exact HSY.out.trans ((Step.of_below (Below.refl _ _).drew).trans (Step.of_grown (u:=psV mb) HG2.out (by simp)))
   case measure=>simp [RowKit.intOf];omega
  ·have hqq:q=l.length:=by omega
   subst hqq;have k6:wr.cell? ⟨cb,6,none⟩=some (.int .i64 (t.used:Int)):=(blk HC1.out).1 6 _ rfl;have g6:=(blk HC1.out).2.1 6;clear g5;go_upto_region 6 with fail;have SZ:Hid (wr.cell? ⟨bb,0,none⟩=some (.pointer (some ⟨cb,0,none⟩))∧wr.cell? ⟨bb,5,none⟩=some (.int .i64 ((f0+l.length:Nat):Int))∧wr.cell? ⟨cb,6,none⟩=some (.int .i64 (t.used:Int))):=hid ⟨c0,c5,k6⟩;refine E_start (S:=(fun w'=>w'.cell? ⟨bb,0,none⟩=some (.pointer (some ⟨cb,0,none⟩))∧w'.cell? ⟨bb,5,none⟩=some (.int .i64 ((f0+l.length:Nat):Int))∧w'.cell? ⟨cb,6,none⟩=some (.int .i64 (t.used:Int)))) 18 (by kernel_rfl) (SZ.out) (fun hHeld=>?_);refine E_tk 0 ?_
   try simp only [Act.put,eS1,eS2,eS3,eA1,eA2,eA3]
   refine E_tk 1 ?_
   try simp only [Act.put,eS1,eS2,eS3,eA1,eA2,eA3]
   refine E_tk 2 ?_
   try simp only [Act.put,eS1,eS2,eS3,eA1,eA2,eA3]
   refine E_tk 3 ?_
   try simp only [Act.put,eS1,eS2,eS3,eA1,eA2,eA3]
   refine E_tk 4 ?_
   try simp only [Act.put,eS1,eS2,eS3,eA1,eA2,eA3]
   refine E_tk 5 ?_
   try simp only [Act.put,eS1,eS2,eS3,eA1,eA2,eA3]
   refine E_tk 6 ?_
   try simp only [Act.put,eS1,eS2,eS3,eA1,eA2,eA3]
   refine E_tk 7 ?_
   try simp only [Act.put,eS1,eS2,eS3,eA1,eA2,eA3]
   refine E_tk 8 ?_
   try simp only [Act.put,eS1,eS2,eS3,eA1,eA2,eA3]
   refine E_tk 9 ?_
   try simp only [Act.put,eS1,eS2,eS3,eA1,eA2,eA3]
   refine E_tk 10 ?_
   try simp only [Act.put,eS1,eS2,eS3,eA1,eA2,eA3]
   refine E_tk 11 ?_
   try simp only [Act.put,eS1,eS2,eS3,eA1,eA2,eA3]
   refine E_tk 12 ?_
   try simp only [Act.put,eS1,eS2,eS3,eA1,eA2,eA3]
   refine E_tk 13 ?_
   try simp only [Act.put,eS1,eS2,eS3,eA1,eA2,eA3]
   refine E_tk 14 ?_
   try simp only [Act.put,eS1,eS2,eS3,eA1,eA2,eA3]
   refine E_tk 15 ?_
   try simp only [Act.put,eS1,eS2,eS3,eA1,eA2,eA3]
   refine E_tk 16 ?_
   try simp only [Act.put,eS1,eS2,eS3,eA1,eA2,eA3]
   refine E_tk 17 ?_
   try simp only [Act.put,eS1,eS2,eS3,eA1,eA2,eA3]
   refine E_last (o:=_) (by kernel_rfl) rfl (by kernel_rfl) (fun K hK=>?_)
   try simp only [eA1,eA2,eA3]
   go_simp
   all_goals
    refine hK.out _ _ ?_;clear hK K
   all_goals go_wp2
   all_goals
    go_end0
    refine ⟨rfl,D,hid ?_,hid ?_,hid ?_,hid ?_,hid ?_⟩
    ·refine (heap_setCell_at HC1.out _).trans ?_
     unfold crow
     simp
     omega
    ·exact (set_other NE.out.1.symm).trans HB1.out
    ·exact map_keep HM1.out (set_other NE.out.2.1)
    ·have h:=HG1.out
     rw [List.take_length] at h;exact h
    ·exact HS1.out.trans ((Step.of_below (Below.refl _ _).drew).trans (cellC_step _ 6 _))
end Go.Proofs.YtcflojdkaddemaaGreatDoor

namespace Go.Proofs.YtcflojdkaddemaaGreatDoor
open Go.RowKit Go.Lib Go.Maps
def stmtV (kind:Int) (ve:Value) (nm:ByteArray) (tt kb:Int):Value :=
 if kind=1 then .iface 250 (.agg #[ve,.string nm])
 else if kind=2 then .iface 252 (.agg #[ve])
 else if kind=6 then .iface 253 (.agg #[ve])
 else if kind=3∨kind=5 then .iface 255 (.agg #[ve,.int .i64 tt])
 else if kind=4 then .iface 259 (.agg #[.int .i64 tt])
 else if kb=5 then .iface 259 (.agg #[.int .i64 tt])
 else if kb=3 then .iface 263 (.agg #[])
 else .iface 261 (.agg #[])
def stmtTo (p:List PLine) (k:Nat):Int:=if lkZ p (k:Int)=7 then (endOpen p k:Int) else nextZ p k 0
set_option maxRecDepth 100000 in
set_option maxHeartbeats 4000000 in
theorem i_stmt (pa:Option Addr) (pc:Nat) (PX:List LnL) (k:Nat) (w:World) (hl:PX.length≤60) (hk:k<PX.length) (hr:ReadL 9 147 w pa PX)
  (hkd:1≤PX[k].kind∧PX[k].kind≤7) (he:PX[k].kind=4→elseOpen (plL PX) k<k∧elseZ (plL PX) (elseOpen (plL PX) k:Int)=(k:Int)) (h7:PX[k].kind=7→endOpen (plL PX) k<k) :
  Calls Tryz.prog 221 #[.slice pa PX.length pc,.int .i64 (k:Int)] w fun e w'=>e=.returned (stmtV PX[k].kind PX[k].ve PX[k].name (stmtTo (plL PX) k) (lkZ (plL PX) (endOpen (plL PX) k:Int)))∧Below w.heap.size w w':=by
 have HR:=hid hr;have hkp:k<(plL PX).length:=by rw [plL_length];exact hk
 have hlk:lkZ (plL PX) (k:Int)=PX[k].kind:=by rw [lkZ_at _ _ hkp,pl_kind PX k hk]
 have NX:Hid (∀ W,Below w.heap.size w W→Calls Tryz.prog 227 #[.slice pa PX.length pc,.int .i64 (k:Int),.int .i64 0] W fun e w'=>e=.returned (.int .i64 (nextZ (plL PX) k 0))∧Below W.heap.size W w'):=hid (fun W hb=>i_next pa pc PX k 0 W hl hk (HR.out.below hb) he);have BO:Hid (∀ W,Below w.heap.size w W→Calls Tryz.prog 228 #[.slice pa PX.length pc,.int .i64 (k:Int)] W fun e w'=>e=.returned (.int .i64 (if endOpen (plL PX) k<k then (endOpen (plL PX) k:Int) else -1))∧Below W.heap.size W w'):=hid (fun W hb=>i_blockOf pa pc PX k W (by omega) (by omega) (HR.out.below hb));have HTO:Hid (stmtTo (plL PX) k=if PX[k].kind=7 then (endOpen (plL PX) k:Int) else nextZ (plL PX) k 0):=hid (by unfold stmtTo;rw [hlk]);obtain ⟨g,rfl,hg,⟨c0,c1,_,c3⟩,hm⟩:=hr k hk;obtain ⟨xa,xb,xc,xd,ea,ee,_,_⟩:=inMem_shape hm;rw [ee] at c3;rw [ee];have KB:Hid (∀ W,Below w.heap.size w W→W.cell? ⟨g,k*4,none⟩=some (.int .i64 PX[k].kind)∧W.cell? ⟨g,k*4+1,none⟩=some (.string PX[k].name)∧W.cell? ⟨g,k*4+3,none⟩=some (.slice xb PX[k].expr.length xd)):=hid (fun W hb=>by
  have e:∀ j,W.cell? ⟨g,j,none⟩=w.cell? ⟨g,j,none⟩:=fun j=>World.cell?_of_block (a:=⟨g,j,none⟩) (hb.block g hg)
  exact ⟨(e _).trans c0,(e _).trans c1,(e _).trans c3⟩)
 have k0:(0:Int)≤(k:Int):=by omega
 have k1:(k:Int)<(PX.length:Int):=by omega
 have KK:Hid (∀ W,Below w.heap.size w W→∀ e,endOpen (plL PX) k=e→e<k→∃ ge:e<PX.length,W.cell? ⟨g,e*4,none⟩=some (.int .i64 PX[e].kind)∧lkZ (plL PX) (e:Int)=PX[e].kind):=hid (fun W hb e he hek=>by
  have hel:e<PX.length:=by omega
  obtain ⟨g',hg',_,⟨d0,_,_,_⟩,_⟩:=HR.out e hel;injection hg' with hg'
  injection hg' with hg'
  subst hg';exact ⟨hel,(World.cell?_of_block (a:=⟨g,e*4,none⟩) (hb.block g hg)).trans d0,by rw [lkZ_at _ _ (by rw [plL_length];exact hel),pl_kind PX e hel]⟩)
 have H7:=hid h7;have BV:Hid (Below w.heap.size w (w.alloc (.cells #[.slice xb PX[k].expr.length xd] 248))):=hid ((Below.refl _ _).alloc (Nat.le_refl _) _);have CV:Hid ((w.alloc (.cells #[.slice xb PX[k].expr.length xd] 248)).cell? ⟨w.heap.size,0,none⟩=some (.slice xb PX[k].expr.length xd)):=hid ((blk (heap_alloc_new w _)).1 0 _ rfl);obtain ⟨v0,v1,v3⟩:=KB.out _ BV.out;have v5:=CV.out;have VLT:Hid (w.heap.size<(w.alloc (.cells #[.slice xb PX[k].expr.length xd] 248)).heap.size):=hid (by simp);obtain ⟨kd,hkd'⟩:∃ kd,PX[k].kind=kd:=⟨_,rfl⟩;rw [hkd'] at c0 v0 hkd HTO ⊢;have HKD:=hid hkd';clear hr hm hlk hkp he h7 hkd' KB HR;have hc:kd=1∨kd=2∨kd=3∨kd=4∨kd=5∨kd=6∨kd=7:=by omega
 obtain ⟨tt,htt⟩:∃ tt,stmtTo (plL PX) k=tt:=⟨_,rfl⟩;rw [htt] at HTO ⊢;obtain ⟨nx,hnx⟩:∃ nx,nextZ (plL PX) k 0=nx:=⟨_,rfl⟩;rw [hnx] at HTO NX;obtain ⟨eo,heo⟩:∃ eo,endOpen (plL PX) k=eo:=⟨_,rfl⟩;rw [heo] at HTO BO H7 ⊢;have KE:=hid (fun W hb hek=>KK.out W hb eo heo hek);clear htt hnx heo KK hkd
 rcases hc with rfl|rfl|rfl|rfl|rfl|rfl|rfl
 ·go_enter Tryz.func221,Tryz.ntmps221
  go_wp2_with fail;go_quiet (fail);go_wp2;go_ret;exact ⟨rfl,BV.out.trans (below_drewN (Below.refl _ _) nq |>.mono (Nat.le_of_lt VLT.out))⟩
 ·go_enter Tryz.func221,Tryz.ntmps221
  go_wp2;go_ret;exact ⟨rfl,BV.out⟩
 ·have HQ:Hid (nx=tt):=hid (by have h:=HTO.out;simpa using h.symm)
  go_enter Tryz.func221,Tryz.ntmps221
  go_wp2_with fail
  go_region_held3 (fun w'=>w'.cell? ⟨w.heap.size,0,none⟩=some (.slice xb PX[k].expr.length xd)) (first|exact v5|with_reducible exact v5' ) (first
   | (go_at_call 227;(with_reducible refine (NX.out _ BV.out.drew).mono ?_);rintro e w1 ⟨rfl,b1⟩;have v5':=(b1.cell (p:=⟨w.heap.size,0,none⟩) VLT.out).trans v5;have B2:Hid (Below w.heap.size w w1):=hid (BV.out.drew.trans (b1.mono (Nat.le_of_lt VLT.out)))))
  go_wp2;go_ret;exact ⟨by rw [← HQ.out];rfl,B2.out⟩
 ·have HQ:Hid (nx=tt):=hid (by have h:=HTO.out;simpa using h.symm)
  go_enter Tryz.func221,Tryz.ntmps221
  go_wp2_with (go_at_call 227;(with_reducible refine (NX.out _ BV.out).mono ?_);rintro e w1 ⟨rfl,b1⟩)
  go_ret;exact ⟨by rw [← HQ.out];rfl,BV.out.trans (b1.mono (Nat.le_of_lt VLT.out))⟩
 ·have HQ:Hid (nx=tt):=hid (by have h:=HTO.out;simpa using h.symm)
  go_enter Tryz.func221,Tryz.ntmps221
  go_wp2_with fail
  go_region_held3 (fun w'=>w'.cell? ⟨w.heap.size,0,none⟩=some (.slice xb PX[k].expr.length xd)) (first|exact v5|with_reducible exact v5' ) (first
   | (go_at_call 227;(with_reducible refine (NX.out _ BV.out.drew).mono ?_);rintro e w1 ⟨rfl,b1⟩;have v5':=(b1.cell (p:=⟨w.heap.size,0,none⟩) VLT.out).trans v5;have B2:Hid (Below w.heap.size w w1):=hid (BV.out.drew.trans (b1.mono (Nat.le_of_lt VLT.out)))))
  go_wp2;go_ret;exact ⟨by rw [← HQ.out];rfl,B2.out⟩
 ·go_enter Tryz.func221,Tryz.ntmps221
  go_wp2;go_ret;exact ⟨rfl,BV.out⟩
 ·have HQ:Hid ((eo:Int)=tt):=hid (by have h:=HTO.out;simpa using h.symm)
  have hek:=H7.out HKD.out;have BO2:Hid (∀ W,Below w.heap.size w W→Calls Tryz.prog 228 #[.slice (some ⟨g,0,none⟩) PX.length pc,.int .i64 (k:Int)] W fun e w'=>e=.returned (.int .i64 (eo:Int))∧Below W.heap.size W w'):=hid (fun W hb=>by
   have h:=BO.out W hb;rw [if_pos hek] at h;exact h)
  obtain ⟨hel,_,hlk2⟩:=KE.out w (Below.refl _ _) hek;have e0:(0:Int)≤(eo:Int):=by omega
  have e1:(eo:Int)<(PX.length:Int):=by omega
  rw [hlk2];have KC:Hid (∀ W,Below w.heap.size w W→W.cell? ⟨g,eo*4,none⟩=some (.int .i64 PX[eo].kind)):=hid (fun W hb=>(KE.out W hb hek).2.1);obtain ⟨ke,hke⟩:∃ ke,PX[eo].kind=ke:=⟨_,rfl⟩;rw [hke] at KC ⊢;clear hke hlk2;have h3:ke=5∨ke=3∨(ke≠5∧ke≠3):=by omega
  rcases h3 with rfl|rfl|⟨h5,h3⟩
  ·go_enter Tryz.func221,Tryz.ntmps221
   go_wp2_with (go_at_call 228;(with_reducible refine (BO2.out _ BV.out).mono ?_);rintro e w1 ⟨rfl,b1⟩;have B2:Hid (Below w.heap.size w w1):=hid (BV.out.trans (b1.mono (Nat.le_of_lt VLT.out)));have ck:=KC.out _ B2.out)
   go_ret;exact ⟨by rw [← HQ.out];rfl,B2.out⟩
  ·go_enter Tryz.func221,Tryz.ntmps221
   go_wp2_with (go_at_call 228;(with_reducible refine (BO2.out _ BV.out).mono ?_);rintro e w1 ⟨rfl,b1⟩;have B2:Hid (Below w.heap.size w w1):=hid (BV.out.trans (b1.mono (Nat.le_of_lt VLT.out)));have ck:=KC.out _ B2.out)
   go_ret;exact ⟨rfl,B2.out⟩
  ·have q5:(ke == 5)=false:=by simpa using h5
   have q3:(ke == 3)=false:=by simpa using h3
   have HF:Hid (stmtV 7 (.slice xb PX[k].expr.length xd) PX[k].name tt ke=.iface 261 (.agg #[])):=hid (by
    unfold stmtV;rw [if_neg (by decide),if_neg (by decide),if_neg (by decide),if_neg (by decide),if_neg (by decide),if_neg h5,if_neg h3])
   rw [HF.out];clear h5 h3
   go_enter Tryz.func221,Tryz.ntmps221
   go_wp2_with (go_at_call 228;(with_reducible refine (BO2.out _ BV.out).mono ?_);rintro e w1 ⟨rfl,b1⟩;have B2:Hid (Below w.heap.size w w1):=hid (BV.out.trans (b1.mono (Nat.le_of_lt VLT.out)));have ck:=KC.out _ B2.out)
   go_ret;exact ⟨rfl,B2.out⟩
end Go.Proofs.YtcflojdkaddemaaGreatDoor

namespace Go.Proofs.YtcflojdkaddemaaGreatDoor
open Go.RowKit Go.Lib
theorem i_name (s:ByteArray) (w:World) (hm:s.size≤maxLen):Calls Tryz.prog 68 #[.string s] w fun e w'=>e=.returned (.bool (nameB s))∧w=w':=by
 unfold maxLen at hm
 by_cases hs0:s.size<1
 ·have hr:=hid (nameB_short s (by omega))
  go_enter Tryz.func68,Tryz.ntmps68
  go_wp2;go_ret;exact ⟨ret_b hr.out.symm,rfl⟩
 by_cases hs1:8<s.size
 ·have hr:=hid (nameB_long s hs1)
  go_enter Tryz.func68,Tryz.ntmps68
  go_wp2;go_ret;exact ⟨ret_b hr.out.symm,rfl⟩
 go_enter Tryz.func68,Tryz.ntmps68
 go_wp2_with fail
 go_loop [14] (fun i=>∃ k:Nat,k≤s.size∧i=.int .i64 (k:Int)∧(s.data.toList.take k).all lowB=true) (fun i=>s.size - (intOf i).toNat)
 case atStart=>exact ⟨0,Nat.zero_le _,rfl,rfl⟩
 case round =>
  obtain ⟨k,hk,rfl,ha⟩:=hrel;have HA:=hid ha;clear ha
  by_cases hlt:k<s.size
  ·have hp:s[k].toNat<256:=s[k].toNat_lt
   by_cases hbad:s[k].toNat<97∨122<s[k].toNat
   ·have hr:=hid (nameB_bad s k hlt hbad)
    go_wp2_with fail
    all_goals go_ret
    all_goals exact ⟨ret_b hr.out.symm,rfl⟩
   ·have h1:97≤s[k].toNat:=by omega
    have h2:s[k].toNat≤122:=by omega
    have HN:=hid (low_next s k hlt HA.out h1 h2);clear hbad;go_wp2
    go_round
    case rel=>exact ⟨k+1,by omega,by go_num,HN.out⟩
    case measure=>simp [intOf];omega
  ·have hkk:k=s.size:=by omega
   have hr:=hid (nameB_good s (by omega) (by omega) (by have:=HA.out;rw [hkk] at this;exact this));clear hkk;go_wp2;go_ret;exact ⟨ret_b hr.out.symm,rfl⟩
end Go.Proofs.YtcflojdkaddemaaGreatDoor
namespace Go.Proofs.YtcflojdkaddemaaGreatDoor
open Go.RowKit Go.Lib
theorem i_oper (x:Int) (w:World):Calls Tryz.prog 209 #[.int .i64 x] w fun e w'=>e=.returned (.bool (decide (2≤x)&&decide (x≤6)))∧w=w':=by
 by_cases h1:2≤x <;> by_cases h2:x≤6
 all_goals
  go_enter Tryz.func209,Tryz.ntmps209
  go_wp2;go_ret;exact ⟨ret_b (by simp [h1,h2]),rfl⟩
set_option maxHeartbeats 1000000 in
theorem i_tok (k n:Int) (s:ByteArray) (w:World) (hm:s.size≤maxLen) :
  Calls Tryz.prog 211 #[.agg #[.int .i64 k,.int .i64 n,.string s]] w fun e w'=>e=.returned (.bool (tokB ⟨k,n,s⟩))∧Below w.heap.size w w':=by
 by_cases hk:k<0∨7<k
 ·have hr:=hid (tokB_out k n s hk)
  have hd:(decide (2≤k)&&decide (k≤6))=false:=by simp;omega
  have e0:(k == 0)=false:=by simp;omega
  have e1:(k == 1)=false:=by simp;omega
  have e7:(k == 7)=false:=by simp;omega
  go_enter Tryz.func211,Tryz.ntmps211
  go_wp2_with (first|(go_at_call 209;refine (i_oper _ _).mono ?_;rintro e w' ⟨rfl,rfl⟩))
  go_ret;exact ⟨ret_b hr.out.symm,(Below.refl _ _).alloc (Nat.le_refl _) _⟩
 have k0:0≤k:=by omega
 have k7:k≤7:=by omega
 clear hk;have hn1:=hid (noName_of s);have hn0:=hid (noName_not s)
 by_cases h0:k=0
 ·subst h0
  have hr:=hid (tokB_0 n s)
  by_cases hn:0≤n∧n≤999
  ·obtain ⟨n0,n1⟩:=hn
   by_cases hs:s.size=0
   ·have hN:=hid (hn1.out hs)
    obtain rfl:=empty_yes s hs;clear hs hm
    go_enter Tryz.func211,Tryz.ntmps211
    go_wp2;go_ret;exact ⟨ret_b (by rw [hr.out,hN.out,decide_eq_true n0,decide_eq_true n1];rfl),(Below.refl _ _).alloc (Nat.le_refl _) _⟩
   ·have hN:=hid (hn0.out hs)
    have hE:=empty_no s hs;clear hs
    go_enter Tryz.func211,Tryz.ntmps211
    go_wp2;go_ret;exact ⟨ret_b (by rw [hr.out,hN.out];simp),(Below.refl _ _).alloc (Nat.le_refl _) _⟩
  ·have hd:(decide (0≤n)&&decide (n≤999))=false:=by simp;omega
   have HD:=hid hd;clear hd
   by_cases n0:0≤n
   ·have n1:¬ n≤999:=by omega
    clear hn
    go_enter Tryz.func211,Tryz.ntmps211
    go_wp2;go_ret;exact ⟨ret_b (by rw [hr.out,← Bool.and_assoc,HD.out];rfl),(Below.refl _ _).alloc (Nat.le_refl _) _⟩
   ·clear hn
    go_enter Tryz.func211,Tryz.ntmps211
    go_wp2;go_ret;exact ⟨ret_b (by rw [hr.out,← Bool.and_assoc,HD.out];rfl),(Below.refl _ _).alloc (Nat.le_refl _) _⟩
 have e0:(k == 0)=false:=by simpa using h0
 by_cases h1:k=1
 ·subst h1
  have hr:=hid (tokB_1 n s)
  by_cases hn:n=0
  ·subst hn
   go_enter Tryz.func211,Tryz.ntmps211
   go_wp2_with (first|(go_at_call 68;refine (i_name _ _ hm).mono ?_;rintro e w' ⟨rfl,rfl⟩))
   go_ret;exact ⟨ret_b (by rw [hr.out];rfl),(Below.refl _ _).alloc (Nat.le_refl _) _⟩
  ·have en:(n == 0)=false:=by simpa using hn
   have HN:=hid hn;clear hn
   go_enter Tryz.func211,Tryz.ntmps211
   go_wp2_with (first|(go_at_call 68;refine (i_name _ _ hm).mono ?_;rintro e w' ⟨rfl,rfl⟩))
   go_ret;exact ⟨ret_b (by rw [hr.out,decide_eq_false HN.out];rfl),(Below.refl _ _).alloc (Nat.le_refl _) _⟩
 have e1:(k == 1)=false:=by simpa using h1
 by_cases h7:k=7
 ·subst h7
  have hr:=hid (tokB_7 n s)
  by_cases hn:0≤n∧n≤4
  ·obtain ⟨n0,n1⟩:=hn
   go_enter Tryz.func211,Tryz.ntmps211
   go_wp2_with (first|(go_at_call 68;refine (i_name _ _ hm).mono ?_;rintro e w' ⟨rfl,rfl⟩))
   go_ret;exact ⟨ret_b (by rw [hr.out,decide_eq_true n0,decide_eq_true n1];rfl),(Below.refl _ _).alloc (Nat.le_refl _) _⟩
  ·have hd:(decide (0≤n)&&decide (n≤4))=false:=by simp;omega
   have HD:=hid hd;clear hd
   by_cases n0:0≤n
   ·have n1:¬ n≤4:=by omega
    clear hn
    go_enter Tryz.func211,Tryz.ntmps211
    go_wp2;go_ret;exact ⟨ret_b (by rw [hr.out,← Bool.and_assoc,HD.out];rfl),(Below.refl _ _).alloc (Nat.le_refl _) _⟩
   ·clear hn
    go_enter Tryz.func211,Tryz.ntmps211
    go_wp2;go_ret;exact ⟨ret_b (by rw [hr.out,← Bool.and_assoc,HD.out];rfl),(Below.refl _ _).alloc (Nat.le_refl _) _⟩
 have e7:(k == 7)=false:=by simpa using h7
 have hr:Hid (tokB ⟨k,n,s⟩=(decide (n=0)&&noName s)):=hid (by rw [tokB_op k n s h0 h1 h7,decide_eq_true (by omega:2≤k),decide_eq_true (by omega:k≤6)];rfl);have k2:2≤k:=by omega
 have k6:k≤6:=by omega
 clear h0 h1 h7
 by_cases hn:n=0
 ·subst hn
  by_cases hs:s.size=0
  ·have hN:=hid (hn1.out hs)
   obtain rfl:=empty_yes s hs;clear hs hm
   go_enter Tryz.func211,Tryz.ntmps211
   go_wp2_with (first|(go_at_call 209;refine (i_oper _ _).mono ?_;rintro e w' ⟨rfl,rfl⟩))
   go_ret;exact ⟨ret_b (by rw [hr.out,hN.out];rfl),(Below.refl _ _).alloc (Nat.le_refl _) _⟩
  ·have hN:=hid (hn0.out hs)
   have hE:=empty_no s hs;clear hs
   go_enter Tryz.func211,Tryz.ntmps211
   go_wp2_with (first|(go_at_call 209;refine (i_oper _ _).mono ?_;rintro e w' ⟨rfl,rfl⟩))
   go_ret;exact ⟨ret_b (by rw [hr.out,hN.out];rfl),(Below.refl _ _).alloc (Nat.le_refl _) _⟩
 ·have en:(n == 0)=false:=by simpa using hn
  have HN:=hid hn;clear hn
  go_enter Tryz.func211,Tryz.ntmps211
  go_wp2_with (first|(go_at_call 209;refine (i_oper _ _).mono ?_;rintro e w' ⟨rfl,rfl⟩))
  go_ret;exact ⟨ret_b (by rw [hr.out,decide_eq_false HN.out];rfl),(Below.refl _ _).alloc (Nat.le_refl _) _⟩
theorem i_meth (k n:Int) (s:ByteArray) (w:World) (hb:tokB ⟨k,n,s⟩=true) :
  Calls Tryz.prog 218 #[.agg #[.int .i64 k,.int .i64 n,.string s]] w fun e w'=>e=.returned (.int .i64 (arZ ⟨k,n,s⟩))∧Below w.heap.size w w':=by
 by_cases h0:k=0
 ·subst h0
  have hr:=hid (arZ_0 _ _ hb);clear hb
  go_enter Tryz.func218,Tryz.ntmps218
  go_wp2;go_ret;exact ⟨ret_int hr.out.symm,(Below.refl _ _).alloc (Nat.le_refl _) _⟩
 by_cases h1:k=1
 ·subst h1
  have hr:=hid (arZ_1 _ _ hb);clear hb
  go_enter Tryz.func218,Tryz.ntmps218
  go_wp2;go_ret;exact ⟨ret_int hr.out.symm,(Below.refl _ _).alloc (Nat.le_refl _) _⟩
 have e0:(k == 0)=false:=by simpa using h0
 have e1:(k == 1)=false:=by simpa using h1
 by_cases h7:k=7
 ·subst h7
  have hr:=hid (arZ_7 _ _ hb);clear hb h0 h1
  go_enter Tryz.func218,Tryz.ntmps218
  go_wp2;go_ret;exact ⟨ret_int hr.out.symm,(Below.refl _ _).alloc (Nat.le_refl _) _⟩
 ·have hr:=hid (arZ_op _ _ _ hb h0 h1 h7)
  have e7:(k == 7)=false:=by simpa using h7
  clear hb h0 h1 h7
  go_enter Tryz.func218,Tryz.ntmps218
  go_wp2;go_ret;exact ⟨ret_int hr.out.symm,(Below.refl _ _).alloc (Nat.le_refl _) _⟩
set_option maxHeartbeats 1000000 in
theorem i_ask (k n:Int) (s:ByteArray) (w:World) (hm:s.size≤maxLen) :
  Calls Tryz.prog 217 #[.agg #[.int .i64 k,.int .i64 n,.string s],.func (.func 218) #[] #[],.int .i64 (-1)] w fun e w'=>e=.returned (.int .i64 (arZ ⟨k,n,s⟩))∧Below w.heap.size w w':=by
 obtain ⟨b,hb⟩:∃ b,tokB ⟨k,n,s⟩=b:=⟨_,rfl⟩;have HT:Hid (∀ W:World,Calls Tryz.prog 211 #[.agg #[.int .i64 k,.int .i64 n,.string s]] W fun e w'=>e=.returned (.bool b)∧Below W.heap.size W w'):=hid (fun W=>hb▸i_tok k n s W hm)
 cases b
 ·have hr:=hid (arZ_bad _ hb)
  clear hb
  go_enter Tryz.func217,Tryz.ntmps217
  go_wp2_with (first|(go_at_call 211;refine (HT.out _).mono ?_;rintro e w1 ⟨rfl,b1⟩))
  go_ret;exact ⟨ret_int hr.out.symm,((Below.refl _ _).alloc (Nat.le_refl _) _).trans (b1.mono (by simp))⟩
 ·have HB:=hid hb
  clear hb
  go_enter Tryz.func217,Tryz.ntmps217
  go_wp2_with fail;refine (HT.out _).mono ?_;rintro e w1 ⟨rfl,b1⟩;have hc:=fun o=>b1.cell (p:=⟨w.heap.size,o,none⟩) (by simp)
  go_wp2_with fail;refine (i_meth k n s _ HB.out).mono ?_;rintro e w2 ⟨rfl,b2⟩;go_wp2;go_ret;exact ⟨rfl,(((Below.refl _ _).alloc (Nat.le_refl _) _).trans (b1.mono (by simp))).trans (b2.mono (by have:=b1.size;simp at this;omega))⟩
theorem i_arity (k n:Int) (s:ByteArray) (w:World) (hm:s.size≤maxLen) :
  Calls Tryz.prog 208 #[.agg #[.int .i64 k,.int .i64 n,.string s]] w fun e w'=>e=.returned (.int .i64 (arZ ⟨k,n,s⟩))∧Below w.heap.size w w':=by
 go_enter Tryz.func208,Tryz.ntmps208
 go_wp2_with fail;refine (i_ask k n s _ hm).mono ?_;rintro e w1 ⟨rfl,b1⟩;go_wp2;go_ret;exact ⟨rfl,((Below.refl _ _).alloc (Nat.le_refl _) _).trans (b1.mono (by simp))⟩
end Go.Proofs.YtcflojdkaddemaaGreatDoor

namespace Go.Proofs.YtcflojdkaddemaaGreatDoor
open Go.RowKit Go.Lib
def NamesI (l:List TokL):Prop:=∀ j (h:j<l.length),l[j].name.size≤maxLen
set_option maxHeartbeats 1000000 in
theorem i_end (a:Option Addr) (cap:Nat) (l:List TokL) (b:Int) (w:World) (hl:l.length≤1048576) (hr:ReadT w a l) (hn:NamesI l) (hb:b≤9223372036854775807) :
  Calls Tryz.prog 207 #[.slice a l.length cap,.int .i64 b] w fun e w'=>e=.returned (.int .i64 (endZ l b))∧Below w.heap.size w w':=by
 by_cases hb0:b<0
 ·have hr:=hid (endZ_neg l b hb0)
  go_enter Tryz.func207,Tryz.ntmps207
  go_wp2;go_ret;exact ⟨ret_int hr.out.symm,Below.refl _ _⟩
 obtain ⟨i0,rfl⟩:=Int.eq_ofNat_of_zero_le (by omega:0≤b);have HR:=hid hr;have HN:=hid hn;obtain ⟨R,hR⟩:∃ R,resZ (scanN (l.drop i0) 1) i0=R:=⟨_,rfl⟩;have HE:Hid (endZ l (i0:Int)=R):=hid (by rw [endZ_nat,hR]);have HR0:=hid hR;clear hr hn hR
 go_enter Tryz.func207,Tryz.ntmps207
 go_wp2_with fail
 go_loopw [1,5,6] (fun x y _ wr=>∃ i n:Nat,x=.int .i64 (i:Int)∧y=.int .i64 (n:Int)∧0<n∧n≤1+4*i∧i≤9223372036854775807∧resZ (scanN (l.drop i) n) i=R∧Below w.heap.size w wr) (fun x _ _ _=>l.length - (intOf x).toNat)
 case atStart=>exact ⟨i0,1,rfl,rfl,by omega,by omega,by omega,HR0.out,Below.refl _ _⟩
 case round =>
  obtain ⟨i,n,rfl,rfl,hnp,hn,hi,hres,hbel⟩:=hrel;have HB:=hid hbel;have hB:=hbel.size;have HS:=hid hres;clear hres
  by_cases hlt:i<l.length
  ·obtain ⟨g,rfl,hg,c0,c1,c2⟩:=HR.out i hlt
   have hsz:=HN.out i hlt;have HV0:=hid (scan_bad l i n hlt hnp);have HV1:=hid (scan_ok l i n hlt hnp);obtain ⟨t,ht⟩:∃ t,l[i]=t:=⟨_,rfl⟩;rw [ht] at c0 c1 c2 hsz HV0 HV1;have d0:wr.cell? ⟨g,i*3,none⟩=some (.int .i64 t.kind):=(hbel.cell (p:=⟨g,_,none⟩) hg).trans c0;have d1:wr.cell? ⟨g,i*3+1,none⟩=some (.int .i64 t.num):=(hbel.cell (p:=⟨g,_,none⟩) hg).trans c1;have d2:wr.cell? ⟨g,i*3+2,none⟩=some (.string t.name):=(hbel.cell (p:=⟨g,_,none⟩) hg).trans c2;have gw:g<wr.heap.size:=by omega
   have k0:(0:Int)≤(i:Int):=by omega
   have k1:(i:Int)<(l.length:Int):=by omega
   clear c0 c1 c2 hbel ht;have HA:=hid (fun W=>i_arity t.kind t.num t.name W hsz);obtain ⟨ok,hok⟩:∃ ok,tokB t=ok:=⟨_,rfl⟩
   cases ok
   ·have HV:=hid (HV0.out hok)
    rw [show arZ ⟨t.kind,t.num,t.name⟩=-1 from arZ_bad t hok] at HA;clear hok;go_wp2_with fail;refine (HA.out _).mono ?_;rintro e w1 ⟨rfl,b1⟩;have HB1:=hid (HB.out.trans (b1.mono hB));clear b1;go_wp2;go_ret;exact ⟨ret_int (by rw [HE.out,← HS.out,HV.out]),HB1.out⟩
   ·have HV:=hid (HV1.out hok)
    have ar0:=arZ_pos t hok;have ar1:=(arZ_bd t).2;obtain ⟨r,hr⟩:=Int.eq_ofNat_of_zero_le ar0;rw [show arZ ⟨t.kind,t.num,t.name⟩=(r:Int) from hr] at HA;have hr4:r≤4:=by omega
    have HV':Hid (resZ (scanN (l.drop i) n) i=resZ (scanN (l.drop (i+1)) (n - 1+r)) (i+1)):=hid (by rw [HV.out,hr];rfl);clear hok ar0 ar1 hr HV HV0 HV1;go_wp2_with fail;refine (HA.out _).mono ?_;rintro e w1 ⟨rfl,b1⟩;have HB1:=hid (HB.out.trans (b1.mono hB));have hd:decide ((r:Int)<0)=false:=by simp
    clear b1
    by_cases hz:n - 1+r=0
    ·have ez:((n:Int)+((r:Int) - 1) == 0)=true:=by simp;omega
     have HZ:Hid (R=((i+1:Nat):Int)):=hid (by rw [← HS.out,HV'.out,hz,scan_zero]);clear hz;go_wp2;go_ret;exact ⟨ret_int (by rw [HE.out,HZ.out];omega),HB1.out⟩
    ·have ez:((n:Int)+((r:Int) - 1) == 0)=false:=by simp;omega
     have hz':0<n - 1+r:=by omega
     clear hz;go_wp2;go_roundw
     case rel=>exact ⟨i+1,n - 1+r,by go_num,by go_num,hz',by omega,by omega,by rw [← HV'.out];exact HS.out,HB1.out⟩
     case measure=>simp [intOf];omega
  ·have HV:=hid (scan_out l i n (by omega) hnp)
   go_wp2_with fail;go_ret;exact ⟨ret_int (by rw [HE.out,← HS.out,HV.out]),HB.out⟩
end Go.Proofs.YtcflojdkaddemaaGreatDoor
namespace Go.Proofs.YtcflojdkaddemaaGreatDoor
open Go.RowKit Go.Lib
theorem exprI_long (l:List TokL) (h:20<l.length):exprB l=false:=by unfold exprB;rw [decide_eq_false (by omega:¬ l.length≤20)];rfl
theorem exprI_mid (l:List TokL) (h:l.length≤20):exprB l=(endZ l 0 == (l.length:Int)):=by
 unfold exprB;rw [decide_eq_true h,Bool.true_and];rw [Bool.eq_iff_iff];simp
set_option maxHeartbeats 400000 in
theorem i_exprok (a:Option Addr) (cap:Nat) (l:List TokL) (w:World) (hl:l.length≤1048576) (hr:ReadT w a l) (hn:NamesI l) :
  Calls Tryz.prog 180 #[.slice a l.length cap] w fun e w'=>e=.returned (.bool (exprB l))∧Below w.heap.size w w':=by
 by_cases hb:20<l.length
 ·have HV:=hid (exprI_long l hb)
  have hd:decide (l.length≤20)=false:=by simp;omega
  clear hr hn
  go_enter Tryz.func180,Tryz.ntmps180
  go_wp2;go_ret;exact ⟨ret_b HV.out.symm,Below.refl _ _⟩
 have hb':l.length≤20:=by omega
 have HV:=hid (exprI_mid l hb');have S:=hid (fun W h=>i_end a cap l 0 W hl h hn (by omega));have HR:=hid hr;clear hr hn hb;obtain ⟨r,hre⟩:∃ r,endZ l 0=r:=⟨_,rfl⟩;rw [hre] at S HV;clear hre
 go_enter Tryz.func180,Tryz.ntmps180
 go_wp2_with fail;refine (S.out _ HR.out).mono ?_;rintro e w1 ⟨rfl,b1⟩;have HB:=hid b1;clear b1;go_wp2
 all_goals go_ret
 all_goals exact ⟨ret_b (by rw [HV.out]),HB.out⟩
end Go.Proofs.YtcflojdkaddemaaGreatDoor
