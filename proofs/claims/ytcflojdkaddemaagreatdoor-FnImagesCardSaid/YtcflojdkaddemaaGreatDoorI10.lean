/- Parts of the proof. -/
import Derived.Test.YtcflojdkaddemaaGreatDoorI09
import Derived.Deep.RegionLaw
namespace Go.Proofs.YtcflojdkaddemaaGreatDoor
open Go.RowKit Go.Lib
theorem infoIn:(Tryz.prog.info? 3).map (fun i=>(i.zero,i.size,i.bytes))=some (some (.int .i64 0),1,8):=by kernel_rfl
theorem intV_one (l:List Int):∀ u ∈ intV l,u.oneCell'=true:=by
 intro u hu;obtain ⟨x,_,rfl⟩:=List.mem_map.1 hu;rfl
theorem infoIt:(Tryz.prog.info? 40).map (fun i=>(i.zero,i.size,i.bytes))=some (some (.agg #[.int .i64 0,.int .i64 0,.int .i64 0,.bool false,.slice none 0 0,.int .i64 0,.bool false]),7,72):=by kernel_rfl
theorem own_sh {B T n s:Nat} {w:World} {v:Value} {xs:List Value} (h:w.ownsRow B T s v n xs):∃ a c,v=.slice a n c:=by
 rcases h.2 with ⟨rfl,h0⟩|⟨g,cap,cur,rfl,_⟩
 ·exact ⟨none,0,by rw [h0]⟩
 ·exact ⟨_,_,rfl⟩
theorem set7 {B b:Nat} {w W:World} (h:Below B w W) (hb:B≤b) (v0 v1 v2 v3 v4 v5 v6:Value):Below B w (((((((W.setCell ⟨b,0,none⟩ v0).setCell ⟨b,1,none⟩ v1).setCell ⟨b,2,none⟩ v2).setCell ⟨b,3,none⟩ v3).setCell ⟨b,4,none⟩ v4).setCell ⟨b,5,none⟩ v5).setCell ⟨b,6,none⟩ v6) :=
 ((((((h.setCell hb _).setCell hb _).setCell hb _).setCell hb _).setCell hb _).setCell hb _).setCell hb _
theorem set7_row {b T:Nat} {W:World} {x0 x1 x2 x3 x4 x5 x6:Value} (h:W.heap[b]?=some (.cells #[x0,x1,x2,x3,x4,x5,x6] T (0,0))) (v0 v1 v2 v3 v4 v5 v6:Value):(((((((W.setCell ⟨b,0,none⟩ v0).setCell ⟨b,1,none⟩ v1).setCell ⟨b,2,none⟩ v2).setCell ⟨b,3,none⟩ v3).setCell ⟨b,4,none⟩ v4).setCell ⟨b,5,none⟩ v5).setCell ⟨b,6,none⟩ v6).heap[b]?=some (.cells #[v0,v1,v2,v3,v4,v5,v6] T (0,0)):=by
 have h0:(W.setCell ⟨b,0,none⟩ v0).heap[b]?=some (.cells #[v0,x1,x2,x3,x4,x5,x6] T (0,0)):=heap_setCell_at h v0;have h1:((W.setCell ⟨b,0,none⟩ v0).setCell ⟨b,1,none⟩ v1).heap[b]?=some (.cells #[v0,v1,x2,x3,x4,x5,x6] T (0,0)):=heap_setCell_at h0 v1;have h2:(((W.setCell ⟨b,0,none⟩ v0).setCell ⟨b,1,none⟩ v1).setCell ⟨b,2,none⟩ v2).heap[b]?=some (.cells #[v0,v1,v2,x3,x4,x5,x6] T (0,0)):=heap_setCell_at h1 v2;have h3:((((W.setCell ⟨b,0,none⟩ v0).setCell ⟨b,1,none⟩ v1).setCell ⟨b,2,none⟩ v2).setCell ⟨b,3,none⟩ v3).heap[b]?=some (.cells #[v0,v1,v2,v3,x4,x5,x6] T (0,0)):=heap_setCell_at h2 v3;have h4:(((((W.setCell ⟨b,0,none⟩ v0).setCell ⟨b,1,none⟩ v1).setCell ⟨b,2,none⟩ v2).setCell ⟨b,3,none⟩ v3).setCell ⟨b,4,none⟩ v4).heap[b]?=some (.cells #[v0,v1,v2,v3,v4,x5,x6] T (0,0)):=heap_setCell_at h3 v4;have h5:((((((W.setCell ⟨b,0,none⟩ v0).setCell ⟨b,1,none⟩ v1).setCell ⟨b,2,none⟩ v2).setCell ⟨b,3,none⟩ v3).setCell ⟨b,4,none⟩ v4).setCell ⟨b,5,none⟩ v5).heap[b]?=some (.cells #[v0,v1,v2,v3,v4,v5,x6] T (0,0)):=heap_setCell_at h4 v5;have h6:(((((((W.setCell ⟨b,0,none⟩ v0).setCell ⟨b,1,none⟩ v1).setCell ⟨b,2,none⟩ v2).setCell ⟨b,3,none⟩ v3).setCell ⟨b,4,none⟩ v4).setCell ⟨b,5,none⟩ v5).setCell ⟨b,6,none⟩ v6).heap[b]?=some (.cells #[v0,v1,v2,v3,v4,v5,v6] T (0,0)):=heap_setCell_at h5 v6;exact h6
theorem set7_far {B b T n:Nat} {W:World} {v:Value} {xs:List Value} (h:W.ownsRow B T 1 v n xs) (hb:v.ownBlock≠some b) (v0 v1 v2 v3 v4 v5 v6:Value):(((((((W.setCell ⟨b,0,none⟩ v0).setCell ⟨b,1,none⟩ v1).setCell ⟨b,2,none⟩ v2).setCell ⟨b,3,none⟩ v3).setCell ⟨b,4,none⟩ v4).setCell ⟨b,5,none⟩ v5).setCell ⟨b,6,none⟩ v6).ownsRow B T 1 v n xs :=
 owns_blks h (fun g hg=>by
  have hne:g≠b:=fun e=>hb (by rw [hg,e])
  exact (set_other hne).trans ((set_other hne).trans ((set_other hne).trans ((set_other hne).trans ((set_other hne).trans ((set_other hne).trans (set_other hne)))))))
def Laid (w:World) (code arg:Int) (k:Nat) (st:Bool) (chain:List Nat) (v10:Value) (wx:World):Prop :=
 ∃ gi ga ca,v10=.pointer (some ⟨gi,0,none⟩)∧Hid (wx.heap[gi]?=some (.cells #[.int .i64 code,.int .i64 arg,.int .i64 (k:Int),.bool st,.slice ga chain.length ca,.int .i64 0,.bool false] 40 (0,0)))∧Hid (Below w.heap.size w wx)∧Hid (wx.ownsRow w.heap.size 3 1 (.slice ga chain.length ca) chain.length (intV (natI chain)))∧w.heap.size≤gi
abbrev it0:Array Value:=#[.int .i64 0,.int .i64 0,.int .i64 0,.bool false,.slice none 0 0,.int .i64 0,.bool false]
end Go.Proofs.YtcflojdkaddemaaGreatDoor

namespace Go.Proofs.YtcflojdkaddemaaGreatDoor
open Go.RowKit Go.Lib Go.Maps
abbrev jT:JT:=⟨128,181,40,238,3,9⟩
theorem jT_ok:jT.ok:=by unfold JT.ok;decide
set_option maxRecDepth 100000 in
set_option maxHeartbeats 1000000 in
theorem x_cloneI (v:Value) (l:List Int) (w:World) (h:w.ownsRow 0 3 1 v l.length (intV l)) (hl:l.length≤1048576) :
  Calls Tryz.prog 213 #[v] w fun e w'=>∃ v',e=.returned v'∧w'.ownsRow w.heap.size 3 1 v' l.length (intV l)∧Below w.heap.size w w':=by
 obtain ⟨i0,hi,hz0,hz1,hz2⟩:=info_parts infoIn;have qn:∀ (W:World) (a:Option Addr) (n c n' c':Nat),(binOp .eql 36 (.slice a n c) (.slice none n' c')).run Tryz.prog W=.ok (.bool a.isNone) W:=fun W a n c n' c'=>Lib.run_eql_slice_nil W _ _ a n c n' c' Tryz.underlying36
 rcases h.2 with ⟨rfl,h0⟩|⟨g,cap,cur,rfl,hB,hg,_⟩
 ·obtain rfl:=List.length_eq_zero_iff.1 h0
  clear h h0
  go_enter Tryz.func213,Tryz.ntmps213
  go_wp2;go_ret;exact ⟨_,rfl,World.ownsRow_nil _ _ _ _,Below.refl _ _⟩
 ·have HG:=hid ((h.alloc (.cells #[] 3)).cells rfl)
  have hown:=World.ownsRow_lit (e:=3) (size:=1) (base:=w.heap.size) w #[] 0 (Nat.le_refl _) (by decide) rfl;have h63:0+l.length≤maxLen:=by unfold maxLen;omega
  have hby:(0+l.length)*8≤140737488355328:=by omega
  have HB0:Hid (Below w.heap.size w (w.alloc (.cells #[] 3))):=hid ((Below.refl _ _).alloc (Nat.le_refl _) _);have hz:(w.alloc (.cells #[] 3)).heap.size=w.heap.size+1:=by simp
  have hil:(intV l).length=l.length*1:=by simp [intV]
  clear h
  go_enter Tryz.func213,Tryz.ntmps213
  go_wp2_with (at_builtin;refine wpList_append_own _ rfl _ _ 36 rfl w.heap.size 3 i0 (.int .i64 0) 1 8 Tryz.underlying36 hi hz0 hz1 hz2 rfl (by decide) _ _ _ rfl hown ⟨g,0,none⟩ l.length cap (intV l) rfl hil HG.out (intV_one l) h63 hby (by omega) ?_)
  intro v' w1 hown1 hgrow _;have HO:Hid (w1.ownsRow w.heap.size 3 1 v' l.length (intV l)):=hid (by simpa using hown1);have HB:=hid (HB0.out.grown hgrow (by omega) (fun j hj=>Nat.le_of_eq (Option.some.inj hj)));clear hown1 hgrow;go_wp2;go_ret;exact ⟨_,rfl,HO.out,HB.out⟩
def EmR (B cb:Nat) (K:KcE) (t':CiS) (iv:Value) (sc:ScL) (b:BdW) (jv:Value) (line:Nat) (w:World) (e:Ending) (w':World):Prop :=
 e=.returned (.tuple #[])∧∃ iv' X',Hid (CiAt jT Tryz.prog B cb w' K t' iv' X' sc b jv line)∧Hid (Step cb (ME iv b.bb) (ME iv' b.bb) w w')
set_option maxRecDepth 100000 in
set_option maxHeartbeats 4000000 in
theorem i_emit (B cb:Nat) (K:KcE) (t:CiS) (iv:Value) (X:List ItW) (sc:ScL) (b:BdW) (jv:Value) (line:Nat) (code arg:Int) (w:World)
  (h:CiAt jT Tryz.prog B cb w K t iv X sc b jv line) (hc:sc.chain.length≤1048576) (hX:X.length≤4194304) :
  Calls Tryz.prog 185 #[.pointer (some ⟨b.bb,0,none⟩),.int .i64 code,.int .i64 arg] w (EmR B cb K (emitJ K.E t code arg line sc.chain) iv sc b jv line w):=by
 have HH:=hid h;have hnl:(natI sc.chain).length=sc.chain.length:=natI_length _;obtain ⟨ha,hcq,hchv⟩:=own_sh h.bd.ch;have CL:Hid (∀ W,Below w.heap.size w W→Calls Tryz.prog 213 #[.slice ha sc.chain.length hcq] W fun e w'=>∃ v',e=.returned v'∧w'.ownsRow W.heap.size 3 1 v' sc.chain.length (intV (natI sc.chain))∧Below W.heap.size W w'):=hid (fun W hb=>by
  have h1:=owns_lo (owns_below HH.out.bd.ch hb) (Nat.zero_le _);rw [hchv] at h1;have h2:=x_cloneI (.slice ha sc.chain.length hcq) (natI sc.chain) W (by rw [hnl];exact h1) (by rw [hnl];exact hc);rw [hnl] at h2;exact h2)
 obtain ⟨bb,hbb⟩:∃ bb,b.bb=bb:=⟨_,rfl⟩;have KB:Hid (∀ W,Below w.heap.size w W→W.cell? ⟨bb,0,none⟩=some (.pointer (some ⟨cb,0,none⟩))∧W.cell? ⟨bb,6,none⟩=some (.int .i64 (line:Int))∧W.cell? ⟨bb,7,none⟩=some (.bool t.pend)∧W.cell? ⟨bb,3,none⟩=some (.slice ha sc.chain.length hcq)):=hid (fun W hb=>by
  have hr:=(blk (HH.out.bd.below hb).row).1;rw [hbb] at hr;exact ⟨hr 0 _ rfl,hr 6 _ rfl,hr 7 _ rfl,by rw [← hchv];exact hr 3 _ rfl⟩)
 rw [hbb];have HBB:=hid hbb;have B1:Hid (Below w.heap.size w w):=hid (Below.refl w.heap.size w);have HBA:Hid (∀ W X,Below w.heap.size w W→Below w.heap.size w (W.alloc X)):=hid (fun W X hb=>hb.alloc hb.size X);have HNA:Hid ((w.alloc (.cells it0 40)).drew.heap[w.heap.size]?=some (.cells it0 40 (0,0))∧w.heap.size<(w.alloc (.cells it0 40)).drew.heap.size):=hid ⟨heap_alloc_new w _,by show w.heap.size<(w.alloc _).heap.size;simp⟩;clear h hbb hchv;obtain ⟨k0,k6,k7,k3⟩:=KB.out w (Below.refl _ _)
 go_enter Tryz.func185,Tryz.ntmps185
 go_upto_region 0 with fail
 go_cut [6] (fun v6 wx=>Laid w code arg line t.pend sc.chain v6 wx)
 case first =>
  rename_i J K' hJ hK
  go_region_held3 (fun w'=>w'.cell? ⟨bb,6,none⟩=some (.int .i64 (line:Int))∧w'.cell? ⟨bb,7,none⟩=some (.bool t.pend)∧w'.cell? ⟨bb,3,none⟩=some (.slice ha sc.chain.length hcq)) (first|with_reducible exact (KB.out _ B5.out).2|with_reducible exact (KB.out _ (B5.out.alloc B5.out.size _)).2|with_reducible exact (KB.out _ B1.out.drew).2|with_reducible exact (KB.out _ (HBA.out _ _ B1.out).drew).2|with_reducible exact (KB.out _ (set7 B5.out (Nat.le_refl _) _ _ _ _ _ _ _)).2) (first
   | (go_at_call 213;(with_reducible refine (CL.out _ B1.out.drew).mono ?_);rintro e w5 ⟨v5,rfl,O5,b5⟩;have B5:Hid (Below w.heap.size w w5):=hid (B1.out.drew.trans b5);obtain ⟨ga,ca,rfl⟩:=own_sh O5;have O6:Hid (w5.ownsRow w.heap.size 3 1 (.slice ga sc.chain.length ca) sc.chain.length (intV (natI sc.chain))):=hid O5;clear O5 b5)
   | (go_at_call 213;(with_reducible refine (CL.out _ (HBA.out _ _ B1.out).drew).mono ?_);rintro e w5 ⟨v5,rfl,O5,b5⟩;have B5:Hid (Below w.heap.size w w5):=hid ((HBA.out _ _ B1.out).drew.trans (b5.mono (Nat.le_of_lt HNA.out.2)));obtain ⟨ga,ca,rfl⟩:=own_sh O5;have O6:Hid (w5.ownsRow w.heap.size 3 1 (.slice ga sc.chain.length ca) sc.chain.length (intV (natI sc.chain))):=hid (owns_lo O5 (Nat.le_of_lt HNA.out.2));have FI:=hid ((b5.block _ HNA.out.2).trans HNA.out.1);clear O5 b5;have d0:=(blk FI.out).1 0 (.int .i64 0) rfl;have d1:=(blk FI.out).1 1 (.int .i64 0) rfl;have d2:=(blk FI.out).1 2 (.int .i64 0) rfl;have d3:=(blk FI.out).1 3 (.bool false) rfl;have d4:=(blk FI.out).1 4 (.slice none 0 0) rfl;have d5:=(blk FI.out).1 5 (.int .i64 0) rfl;have d6:=(blk FI.out).1 6 (.bool false) rfl;have m0:=(blk FI.out).2.1 0;have m1:=(blk FI.out).2.1 1;have m2:=(blk FI.out).2.1 2;have m3:=(blk FI.out).2.1 3;have m4:=(blk FI.out).2.1 4;have m5:=(blk FI.out).2.1 5;have m6:=(blk FI.out).2.1 6))
  ·simp only [Exit.then]
   refine hK _ _ (Met.intro (hJ _ _ ?_))
   (repeat apply Exists.intro)
   refine ⟨?_,rfl⟩;exact ⟨_,_,_,rfl,hid (heap_alloc_new _ _),hid (B5.out.alloc B5.out.size _),hid (O6.out.alloc _),B5.out.size⟩
  ·simp only [Exit.then]
   refine hK _ _ (Met.intro (hJ _ _ ?_))
   (repeat apply Exists.intro)
   refine ⟨?_,rfl⟩;exact ⟨_,_,_,rfl,hid (set7_row FI.out _ _ _ _ _ _ _),hid (set7 B5.out (Nat.le_refl _) _ _ _ _ _ _ _),hid (set7_far O6.out (ne_types O6.out FI.out (by decide)) _ _ _ _ _ _ _),Nat.le_refl _⟩
 case rest =>
  obtain ⟨gi,ga,ca,rfl,HI,HB,HO,hgi⟩:=hcut;obtain ⟨va,vc,rfl⟩:=own_sh HH.out.cc.its;have HR:=hid ((HH.out.cc.below HB.out).row);have hrl:gi≠cb:=by have:=HH.out.cc.lt;omega
  have hrb:gi≠bb:=by have:=HH.out.bd.blt;rw [HBB.out] at this;omega
  obtain ⟨cc,cf,clt'⟩:=blk HR.out;obtain ⟨ic,jf,ilt⟩:=blk HI.out;have c0:=(KB.out _ HB.out).1;have e3:wc.cell? ⟨cb,3,none⟩=some (.bool K.E.framed):=cc 3 _ rfl;have e7:wc.cell? ⟨cb,7,none⟩=some (.int .i64 t.depth):=cc 7 _ rfl;have e8:wc.cell? ⟨cb,8,none⟩=some (.slice va X.length vc):=cc 8 _ rfl;have i5:=ic 5 _ rfl;have i6:=ic 6 _ rfl;have g5:=jf 5;have g6:=jf 6;clear cc cf ic jf k0 k6 k7 k3;obtain ⟨c,hc'⟩:∃ c,(K.E.framed&&decide (code≠13))=c:=⟨_,rfl⟩;have HC:=hid hc';clear hc';go_upto_region 1 with fail
  go_cut [34] (fun s34 wx=>s34=.bool c∧wx=wc.setCell ⟨gi,6,none⟩ (.bool c))
  case first =>
   cases hF:K.E.framed
   ·have q:Hid (false=c):=hid (by rw [← HC.out,hF];rfl)
    rw [hF] at e3;clear hF;go_wp2_with fail;go_meet;exact ⟨by rw [q.out],by rw [q.out]⟩
   ·have q:Hid ((code != 13)=c):=hid (by rw [← HC.out,hF];by_cases h:code=13 <;> simp [h])
    rw [hF] at e3;clear hF;go_wp2_with fail;go_meet;exact ⟨by rw [q.out],by rw [q.out]⟩
  case rest =>
   rename World=>wz
   obtain ⟨rfl,hwz⟩:=hcut;have HZR:Hid (wz.heap[cb]?=some (.cells (crow K t (.slice va X.length vc)) jT.c (0,0))):=hid (by rw [hwz];exact (set_other hrl.symm).trans HR.out);have HZI:Hid (wz.heap[gi]?=some (.cells #[.int .i64 code,.int .i64 arg,.int .i64 (line:Int),.bool t.pend,.slice ga sc.chain.length ca,.int .i64 0,.bool c] 40 (0,0))):=hid (by rw [hwz];exact heap_setCell_at HI.out _);have HZB:Hid (Below w.heap.size w wz):=hid (by rw [hwz];exact HB.out.setCell hgi _);have HZO:Hid (wz.ownsRow w.heap.size 3 1 (.slice ga sc.chain.length ca) sc.chain.length (intV (natI sc.chain))):=hid (by rw [hwz];exact owns_blks HO.out (fun g hg=>set_other (fun e=>ne_types HO.out HI.out (by decide) (by rw [hg,e]))));have HW:=hid hwz;clear hwz HI HB HO HR i5 i6 e3 e7 e8 c0
   -- the depth
   obtain ⟨d,hd⟩:∃ d,(if c=true then 0 else t.depth)=d:=⟨_,rfl⟩;have HD:=hid hd;clear hd;have z6:wz.cell? ⟨gi,6,none⟩=some (.bool c):=(blk HZI.out).1 6 _ rfl;have z5:wz.cell? ⟨gi,5,none⟩=some (.int .i64 0):=(blk HZI.out).1 5 _ rfl;have y5:=(blk HZI.out).2.1 5;have z0:wz.cell? ⟨bb,0,none⟩=some (.pointer (some ⟨cb,0,none⟩)):=(KB.out _ HZB.out).1;have z7:wz.cell? ⟨cb,7,none⟩=some (.int .i64 t.depth):=(blk HZR.out).1 7 _ rfl;go_upto_region 2 with fail
   go_cut [38] (fun s38 wx=>s38=.bool (!c)∧wx=wz)
   case first =>
    go_wp2_with fail;go_meet;exact ⟨rfl,rfl⟩
   case rest =>
    obtain ⟨rfl,hwc⟩:=hcut;rw [hwc];clear hwc
    go_upto_if 38 with fail
    cases c
    ·have HWS:Hid (∃ W,wz.setCell ⟨gi,5,none⟩ (.int .i64 t.depth)=W):=hid ⟨_,rfl⟩
     obtain ⟨wy,hwy⟩:=HWS.out;have HYI:Hid (wy.heap[gi]?=some (.cells #[.int .i64 code,.int .i64 arg,.int .i64 (line:Int),.bool t.pend,.slice ga sc.chain.length ca,.int .i64 t.depth,.bool false] 40 (0,0))):=hid (by rw [← hwy];exact heap_setCell_at HZI.out _);have HYB:Hid (Below w.heap.size w wy):=hid (by rw [← hwy];exact HZB.out.setCell hgi _);have HYO:Hid (wy.ownsRow w.heap.size 3 1 (.slice ga sc.chain.length ca) sc.chain.length (intV (natI sc.chain))):=hid (by rw [← hwy];exact owns_blks HZO.out (fun g hg=>set_other (fun e=>ne_types HZO.out HZI.out (by decide) (by rw [hg,e]))));have HWY:=hid hwy;clear hwy HWS;go_upto_region 4 with fail;rw [HWY.out];clear HZI HZR HZB HZO HWY z6 z5 y5 z0 z7;have HEM:Hid (∀ w3 iv',wy.grownBy w3 (Value.slice va X.length vc).ownBlock→w3.ownsRow B 40 7 iv' (X.length+1) (itV X++#[.int .i64 code,.int .i64 arg,.int .i64 (line:Int),.bool t.pend,.slice ga sc.chain.length ca,.int .i64 t.depth,.bool false].toList)→(∀ g,iv'.ownBlock=some g→(Value.slice va X.length vc).ownBlock=some g∨w.heap.size≤g)→∃ X',CiAt jT Tryz.prog B cb ((w3.setCell ⟨cb,8,none⟩ iv').setCell ⟨bb,7,none⟩ (.bool false)) K (emitJ K.E t code arg line sc.chain) iv' X' sc b jv line∧Step cb (ME (.slice va X.length vc) b.bb) (ME iv' b.bb) w ((w3.setCell ⟨cb,8,none⟩ iv').setCell ⟨bb,7,none⟩ (.bool false))):=hid (fun w3 iv' hg ho hat=>by
      rw [← HBB.out];exact ⟨_,HH.out.emitted jT_ok HYB.out HYO.out hg t.depth false (by rw [HC.out];rfl) (by rw [HC.out]) (by rw [itV_append];exact ho) hat⟩)
     have HZ:Hid (w.heap.size≤wy.heap.size):=hid HYB.out.size;have HCI:Hid (CiAt jT Tryz.prog B cb wy K t (.slice va X.length vc) X sc b jv line):=hid (HH.out.below HYB.out);have KEEP5:Hid (∀ W:World,W.heap[gi]?=some (.cells #[.int .i64 code,.int .i64 arg,.int .i64 (line:Int),.bool t.pend,.slice ga sc.chain.length ca,.int .i64 t.depth,.bool false] 40 (0,0))→W.cell? ⟨gi,0,none⟩=some (.int .i64 code)∧W.cell? ⟨gi,1,none⟩=some (.int .i64 arg)∧W.cell? ⟨gi,2,none⟩=some (.int .i64 (line:Int))∧W.cell? ⟨gi,3,none⟩=some (.bool t.pend)∧W.cell? ⟨gi,4,none⟩=some (.slice ga sc.chain.length ca)∧W.cell? ⟨gi,5,none⟩=some (.int .i64 t.depth)∧W.cell? ⟨gi,6,none⟩=some (.bool false)):=hid (fun W hb=>by have h:=(blk hb).1;exact ⟨h 0 _ rfl,h 1 _ rfl,h 2 _ rfl,h 3 _ rfl,h 4 _ rfl,h 5 _ rfl,h 6 _ rfl⟩);have glt:gi<wy.heap.size:=(blk HYI.out).2.2;have y8:wy.cell? ⟨cb,8,none⟩=some (.slice va X.length vc):=(blk HCI.out.cc.row).1 8 _ rfl;have y0:wy.cell? ⟨bb,0,none⟩=some (.pointer (some ⟨cb,0,none⟩)):=(KB.out _ HYB.out).1;have x8:(wy.alloc (.cells #[.int .i64 code,.int .i64 arg,.int .i64 (line:Int),.bool t.pend,.slice ga sc.chain.length ca,.int .i64 t.depth,.bool false] 40)).cell? ⟨cb,8,none⟩=some (.slice va X.length vc):=(blk ((Below.heap_alloc _ _ _ HCI.out.cc.lt).trans HCI.out.cc.row)).1 8 _ rfl;have x0:(wy.alloc (.cells #[.int .i64 code,.int .i64 arg,.int .i64 (line:Int),.bool t.pend,.slice ga sc.chain.length ca,.int .i64 t.depth,.bool false] 40)).cell? ⟨bb,0,none⟩=some (.pointer (some ⟨cb,0,none⟩)):=(KB.out _ (HYB.out.alloc HYB.out.size _)).1;have HOW:Hid ((wy.alloc (.cells #[.int .i64 code,.int .i64 arg,.int .i64 (line:Int),.bool t.pend,.slice ga sc.chain.length ca,.int .i64 t.depth,.bool false] 40)).ownsRow B 40 7 (.slice va X.length vc) X.length (itV X)):=hid (HCI.out.cc.its.alloc _);have HNW:Hid (∀ j u,(#[.int .i64 code,.int .i64 arg,.int .i64 (line:Int),.bool t.pend,.slice ga sc.chain.length ca,.int .i64 t.depth,.bool false].toList)[j]?=some u→(wy.alloc (.cells #[.int .i64 code,.int .i64 arg,.int .i64 (line:Int),.bool t.pend,.slice ga sc.chain.length ca,.int .i64 t.depth,.bool false] 40)).drew.cell? ((⟨wy.heap.size,0,none⟩:Addr).add j)=some u):=hid (World.news_of_block (cs:=#[.int .i64 code,.int .i64 arg,.int .i64 (line:Int),.bool t.pend,.slice ga sc.chain.length ca,.int .i64 t.depth,.bool false]) (t:=40) (fr:=(0,0)) (heap_alloc_new wy _));obtain ⟨t0,ht,hy0,hy1,hy2⟩:=info_parts infoIt;have hm3:X.length+1≤maxLen:=by unfold maxLen;omega
     have hb3:(X.length+1)*72≤140737488355328:=by omega
     have HBW:Hid (B≤(wy.alloc (.cells #[.int .i64 code,.int .i64 arg,.int .i64 (line:Int),.bool t.pend,.slice ga sc.chain.length ca,.int .i64 t.depth,.bool false] 40)).heap.size):=hid (by have:=HCI.out.cc.lo;have:=HCI.out.cc.lt;simp;omega);have HROW:Hid (∀ w3,(wy.alloc (.cells #[.int .i64 code,.int .i64 arg,.int .i64 (line:Int),.bool t.pend,.slice ga sc.chain.length ca,.int .i64 t.depth,.bool false] 40)).drew.grownBy w3 (Value.slice va X.length vc).ownBlock→wy.grownBy w3 (Value.slice va X.length vc).ownBlock∧w3.cell? ⟨cb,8,none⟩=some (.slice va X.length vc)∧w3.frozen? ⟨cb,8,none⟩=false∧w3.cell? ⟨bb,0,none⟩=some (.pointer (some ⟨cb,0,none⟩))∧(∀ u,(w3.setCell ⟨cb,8,none⟩ u).cell? ⟨bb,7,none⟩=some (.bool t.pend)∧(w3.setCell ⟨cb,8,none⟩ u).frozen? ⟨bb,7,none⟩=false∧(w3.setCell ⟨cb,8,none⟩ u).cell? ⟨bb,0,none⟩=some (.pointer (some ⟨cb,0,none⟩)))∧(w3.cell? ⟨bb,0,none⟩=some (.pointer (some ⟨cb,0,none⟩))∧w3.cell? ⟨cb,8,none⟩=some (.slice va X.length vc)∧w3.cell? ⟨gi,0,none⟩=some (.int .i64 code)∧w3.cell? ⟨gi,1,none⟩=some (.int .i64 arg)∧w3.cell? ⟨gi,2,none⟩=some (.int .i64 (line:Int))∧w3.cell? ⟨gi,3,none⟩=some (.bool t.pend)∧w3.cell? ⟨gi,4,none⟩=some (.slice ga sc.chain.length ca)∧w3.cell? ⟨gi,5,none⟩=some (.int .i64 t.depth)∧w3.cell? ⟨gi,6,none⟩=some (.bool false))):=hid (fun w3 hg=>by
      have s:=HCI.out.sep jT_ok;have hg2:wy.grownBy w3 (Value.slice va X.length vc).ownBlock:=⟨hg.os,hg.tape,hg.output,by have h2:(wy.alloc _).heap.size≤w3.heap.size:=hg.size;simp at h2;omega,fun q hq hne=>(hg.block q (by show q<(wy.alloc _).heap.size;simp;omega) hne).trans (Below.heap_alloc _ _ _ hq)⟩;have hr:=(hg2.block cb HCI.out.cc.lt (fun e=>s.ic e.symm)).trans HCI.out.cc.row;have hr2:=(hg2.block b.bb HCI.out.bd.blt (fun e=>s.ib e.symm)).trans HCI.out.bd.row;rw [HBB.out] at hr2;have hr3:∀ u,(w3.setCell ⟨cb,8,none⟩ u).heap[bb]?=_:=fun u=>(set_other (by rw [← HBB.out];exact s.bc)).trans hr2
      exact ⟨hg2,(blk hr).1 8 _ rfl,(blk hr).2.1 8,(blk hr2).1 0 _ rfl,fun u=>⟨(blk (hr3 u)).1 7 _ rfl,(blk (hr3 u)).2.1 7,(blk (hr3 u)).1 0 _ rfl⟩,(blk hr2).1 0 _ rfl,(blk hr).1 8 _ rfl,KEEP5.out _ ((hg2.block gi glt (fun e=>by have:=(HH.out.cc.its.lt gi e.symm).2;omega)).trans HYI.out)⟩)
     have SY:Hid (wy.cell? ⟨bb,0,none⟩=some (.pointer (some ⟨cb,0,none⟩))∧wy.cell? ⟨cb,8,none⟩=some (.slice va X.length vc)∧wy.cell? ⟨gi,0,none⟩=some (.int .i64 code)∧wy.cell? ⟨gi,1,none⟩=some (.int .i64 arg)∧wy.cell? ⟨gi,2,none⟩=some (.int .i64 (line:Int))∧wy.cell? ⟨gi,3,none⟩=some (.bool t.pend)∧wy.cell? ⟨gi,4,none⟩=some (.slice ga sc.chain.length ca)∧wy.cell? ⟨gi,5,none⟩=some (.int .i64 t.depth)∧wy.cell? ⟨gi,6,none⟩=some (.bool false)):=hid ⟨y0,y8,KEEP5.out _ HYI.out⟩;have SX:Hid ((wy.alloc (.cells #[.int .i64 code,.int .i64 arg,.int .i64 (line:Int),.bool t.pend,.slice ga sc.chain.length ca,.int .i64 t.depth,.bool false] 40)).cell? ⟨bb,0,none⟩=some (.pointer (some ⟨cb,0,none⟩))∧(wy.alloc (.cells #[.int .i64 code,.int .i64 arg,.int .i64 (line:Int),.bool t.pend,.slice ga sc.chain.length ca,.int .i64 t.depth,.bool false] 40)).cell? ⟨cb,8,none⟩=some (.slice va X.length vc)∧(wy.alloc (.cells #[.int .i64 code,.int .i64 arg,.int .i64 (line:Int),.bool t.pend,.slice ga sc.chain.length ca,.int .i64 t.depth,.bool false] 40)).cell? ⟨gi,0,none⟩=some (.int .i64 code)∧(wy.alloc (.cells #[.int .i64 code,.int .i64 arg,.int .i64 (line:Int),.bool t.pend,.slice ga sc.chain.length ca,.int .i64 t.depth,.bool false] 40)).cell? ⟨gi,1,none⟩=some (.int .i64 arg)∧(wy.alloc (.cells #[.int .i64 code,.int .i64 arg,.int .i64 (line:Int),.bool t.pend,.slice ga sc.chain.length ca,.int .i64 t.depth,.bool false] 40)).cell? ⟨gi,2,none⟩=some (.int .i64 (line:Int))∧(wy.alloc (.cells #[.int .i64 code,.int .i64 arg,.int .i64 (line:Int),.bool t.pend,.slice ga sc.chain.length ca,.int .i64 t.depth,.bool false] 40)).cell? ⟨gi,3,none⟩=some (.bool t.pend)∧(wy.alloc (.cells #[.int .i64 code,.int .i64 arg,.int .i64 (line:Int),.bool t.pend,.slice ga sc.chain.length ca,.int .i64 t.depth,.bool false] 40)).cell? ⟨gi,4,none⟩=some (.slice ga sc.chain.length ca)∧(wy.alloc (.cells #[.int .i64 code,.int .i64 arg,.int .i64 (line:Int),.bool t.pend,.slice ga sc.chain.length ca,.int .i64 t.depth,.bool false] 40)).cell? ⟨gi,5,none⟩=some (.int .i64 t.depth)∧(wy.alloc (.cells #[.int .i64 code,.int .i64 arg,.int .i64 (line:Int),.bool t.pend,.slice ga sc.chain.length ca,.int .i64 t.depth,.bool false] 40)).cell? ⟨gi,6,none⟩=some (.bool false)):=hid ⟨x0,x8,KEEP5.out _ ((Below.heap_alloc _ _ _ glt).trans HYI.out)⟩;obtain ⟨ia0,ia1,ia2,ia3,ia4,ia5,ia6⟩:=KEEP5.out _ HYI.out;refine E_start (S:=(fun w'=>w'.cell? ⟨bb,0,none⟩=some (.pointer (some ⟨cb,0,none⟩))∧w'.cell? ⟨cb,8,none⟩=some (.slice va X.length vc)∧w'.cell? ⟨gi,0,none⟩=some (.int .i64 code)∧w'.cell? ⟨gi,1,none⟩=some (.int .i64 arg)∧w'.cell? ⟨gi,2,none⟩=some (.int .i64 (line:Int))∧w'.cell? ⟨gi,3,none⟩=some (.bool t.pend)∧w'.cell? ⟨gi,4,none⟩=some (.slice ga sc.chain.length ca)∧w'.cell? ⟨gi,5,none⟩=some (.int .i64 t.depth)∧w'.cell? ⟨gi,6,none⟩=some (.bool false))) 16 (by kernel_rfl) (SY.out) (fun hHeld=>?_);refine E_tk 0 ?_
     try simp only [Act.put,eS1,eS2,eS3,eA1,eA2,eA3]
     refine E_tk 1 ?_
     try simp only [Act.put,eS1,eS2,eS3,eA1,eA2,eA3]
     refine E_tk 2 ?_
     try simp only [Act.put,eS1,eS2,eS3,eA1,eA2,eA3]
     refine E_tk 3 ?_
     try simp only [Act.put,eS1,eS2,eS3,eA1,eA2,eA3]
     refine E_tk 4 ?_
     try simp only [Act.put,eS1,eS2,eS3,eA1,eA2,eA3]
     refine E_tk 5 ?_
     try simp only [Act.put,eS1,eS2,eS3,eA1,eA2,eA3]
     refine E_tk 6 ?_
     try simp only [Act.put,eS1,eS2,eS3,eA1,eA2,eA3]
     refine E_tk 7 ?_
     try simp only [Act.put,eS1,eS2,eS3,eA1,eA2,eA3]
     refine E_tk 8 ?_
     try simp only [Act.put,eS1,eS2,eS3,eA1,eA2,eA3]
     refine E_tk 9 ?_
     try simp only [Act.put,eS1,eS2,eS3,eA1,eA2,eA3]
     refine E_tk 10 ?_
     try simp only [Act.put,eS1,eS2,eS3,eA1,eA2,eA3]
     refine E_tk 11 ?_
     try simp only [Act.put,eS1,eS2,eS3,eA1,eA2,eA3]
     refine E_ready (rs:=[12]) (by kernel_rfl) (by decide) ?_;refine AllE.cons (o:=_) rfl (fun K hK=>?_) AllE.nil
     try simp only [eA1,eA2,eA3]
     go_simp
     refine hK.out _ _ (SX.out) (fun hHeld=>?_);clear hK K
     try simp only [Act.put,eS1,eS2,eS3,eA1,eA2,eA3]
     refine E_ready (rs:=[13]) (by kernel_rfl) (by decide) ?_;refine AllE.cons (o:=_) rfl (fun K hK=>?_) AllE.nil;refine step_append_lies _ rfl (.tmp 57) (.tmp 59) 65 rfl B 40 t0 _ 7 72 Tryz.underlying65 ht hy0 hy1 hy2 rfl (by decide) (.slice va X.length vc) X.length (itV X) rfl HOW.out.drew ⟨wy.heap.size,0,none⟩ 1 1 #[.int .i64 code,.int .i64 arg,.int .i64 (line:Int),.bool t.pend,.slice ga sc.chain.length ca,.int .i64 t.depth,.bool false].toList rfl rfl HNW.out (by intro u hu;simp at hu;rcases hu with rfl|rfl|rfl|rfl|rfl|rfl|rfl <;> rfl) (by decide) hm3 hb3 HBW.out _ rfl ?_;intro g3 c3 w3 O3 G3 A3 L3;have SR:=(HROW.out _ G3).2.2.2.2.2;have r8:=(HROW.out _ G3).2.1;have f8:=(HROW.out _ G3).2.2.1;refine hK.out _ _ (SR) (fun hHeld=>?_);clear hK K
     try simp only [Act.put,eS1,eS2,eS3,eA1,eA2,eA3]
     refine E_tk 14 ?_
     try simp only [Act.put,eS1,eS2,eS3,eA1,eA2,eA3]
     refine E_tk 15 ?_
     try simp only [Act.put,eS1,eS2,eS3,eA1,eA2,eA3]
     refine E_last (o:=_) (by kernel_rfl) rfl (by kernel_rfl) (fun K hK=>?_)
     try simp only [eA1,eA2,eA3]
     go_simp
     refine hK.out _ _ ?_;clear hK K;obtain ⟨X',hC,hS⟩:=HEM.out _ _ (HROW.out _ G3).1 O3 (fun g hg=>by
      have h1:g3=g:=Option.some.inj hg
      rcases A3 with e|e
      ·exact .inl (h1▸e)
      ·have e2:g3=(wy.alloc _).heap.size:=e
       simp at e2;exact .inr (by have:=HZ.out;omega))
     have HC3:=hid hC;have HS3:=hid hS;clear hC hS;have r7:=((HROW.out _ G3).2.2.2.2.1 (.slice (some ⟨g3,0,none⟩) (X.length+1) c3)).1;have f7:=((HROW.out _ G3).2.2.2.2.1 (.slice (some ⟨g3,0,none⟩) (X.length+1) c3)).2.1;go_wp2
     go_end0
     exact ⟨rfl,_,X',HC3,HS3⟩
    ·have HYI:Hid (wz.heap[gi]?=some (.cells #[.int .i64 code,.int .i64 arg,.int .i64 (line:Int),.bool t.pend,.slice ga sc.chain.length ca,.int .i64 0,.bool true] 40 (0,0))):=HZI
     have HYB:=HZB;have HYO:=HZO;clear HZI HZR HZB HZO z6 z5 y5 z0 z7;obtain ⟨wy,hwy⟩:∃ W,wz=W:=⟨_,rfl⟩;subst hwy;have HEM:Hid (∀ w3 iv',wz.grownBy w3 (Value.slice va X.length vc).ownBlock→w3.ownsRow B 40 7 iv' (X.length+1) (itV X++#[.int .i64 code,.int .i64 arg,.int .i64 (line:Int),.bool t.pend,.slice ga sc.chain.length ca,.int .i64 0,.bool true].toList)→(∀ g,iv'.ownBlock=some g→(Value.slice va X.length vc).ownBlock=some g∨w.heap.size≤g)→∃ X',CiAt jT Tryz.prog B cb ((w3.setCell ⟨cb,8,none⟩ iv').setCell ⟨bb,7,none⟩ (.bool false)) K (emitJ K.E t code arg line sc.chain) iv' X' sc b jv line∧Step cb (ME (.slice va X.length vc) b.bb) (ME iv' b.bb) w ((w3.setCell ⟨cb,8,none⟩ iv').setCell ⟨bb,7,none⟩ (.bool false))):=hid (fun w3 iv' hg ho hat=>by
      rw [← HBB.out];exact ⟨_,HH.out.emitted jT_ok HYB.out HYO.out hg 0 true (by rw [HC.out];rfl) (by rw [HC.out]) (by rw [itV_append];exact ho) hat⟩)
     have HZ:Hid (w.heap.size≤wz.heap.size):=hid HYB.out.size;have HCI:Hid (CiAt jT Tryz.prog B cb wz K t (.slice va X.length vc) X sc b jv line):=hid (HH.out.below HYB.out);go_upto_region 4 with fail;have KEEP5:Hid (∀ W:World,W.heap[gi]?=some (.cells #[.int .i64 code,.int .i64 arg,.int .i64 (line:Int),.bool t.pend,.slice ga sc.chain.length ca,.int .i64 0,.bool true] 40 (0,0))→W.cell? ⟨gi,0,none⟩=some (.int .i64 code)∧W.cell? ⟨gi,1,none⟩=some (.int .i64 arg)∧W.cell? ⟨gi,2,none⟩=some (.int .i64 (line:Int))∧W.cell? ⟨gi,3,none⟩=some (.bool t.pend)∧W.cell? ⟨gi,4,none⟩=some (.slice ga sc.chain.length ca)∧W.cell? ⟨gi,5,none⟩=some (.int .i64 0)∧W.cell? ⟨gi,6,none⟩=some (.bool true)):=hid (fun W hb=>by have h:=(blk hb).1;exact ⟨h 0 _ rfl,h 1 _ rfl,h 2 _ rfl,h 3 _ rfl,h 4 _ rfl,h 5 _ rfl,h 6 _ rfl⟩);have glt:gi<wz.heap.size:=(blk HYI.out).2.2;have y8:wz.cell? ⟨cb,8,none⟩=some (.slice va X.length vc):=(blk HCI.out.cc.row).1 8 _ rfl;have y0:wz.cell? ⟨bb,0,none⟩=some (.pointer (some ⟨cb,0,none⟩)):=(KB.out _ HYB.out).1;have x8:(wz.alloc (.cells #[.int .i64 code,.int .i64 arg,.int .i64 (line:Int),.bool t.pend,.slice ga sc.chain.length ca,.int .i64 0,.bool true] 40)).cell? ⟨cb,8,none⟩=some (.slice va X.length vc):=(blk ((Below.heap_alloc _ _ _ HCI.out.cc.lt).trans HCI.out.cc.row)).1 8 _ rfl;have x0:(wz.alloc (.cells #[.int .i64 code,.int .i64 arg,.int .i64 (line:Int),.bool t.pend,.slice ga sc.chain.length ca,.int .i64 0,.bool true] 40)).cell? ⟨bb,0,none⟩=some (.pointer (some ⟨cb,0,none⟩)):=(KB.out _ (HYB.out.alloc HYB.out.size _)).1;have HOW:Hid ((wz.alloc (.cells #[.int .i64 code,.int .i64 arg,.int .i64 (line:Int),.bool t.pend,.slice ga sc.chain.length ca,.int .i64 0,.bool true] 40)).ownsRow B 40 7 (.slice va X.length vc) X.length (itV X)):=hid (HCI.out.cc.its.alloc _);have HNW:Hid (∀ j u,(#[.int .i64 code,.int .i64 arg,.int .i64 (line:Int),.bool t.pend,.slice ga sc.chain.length ca,.int .i64 0,.bool true].toList)[j]?=some u→(wz.alloc (.cells #[.int .i64 code,.int .i64 arg,.int .i64 (line:Int),.bool t.pend,.slice ga sc.chain.length ca,.int .i64 0,.bool true] 40)).drew.cell? ((⟨wz.heap.size,0,none⟩:Addr).add j)=some u):=hid (World.news_of_block (cs:=#[.int .i64 code,.int .i64 arg,.int .i64 (line:Int),.bool t.pend,.slice ga sc.chain.length ca,.int .i64 0,.bool true]) (t:=40) (fr:=(0,0)) (heap_alloc_new wz _));obtain ⟨t0,ht,hy0,hy1,hy2⟩:=info_parts infoIt;have hm3:X.length+1≤maxLen:=by unfold maxLen;omega
     have hb3:(X.length+1)*72≤140737488355328:=by omega
     have HBW:Hid (B≤(wz.alloc (.cells #[.int .i64 code,.int .i64 arg,.int .i64 (line:Int),.bool t.pend,.slice ga sc.chain.length ca,.int .i64 0,.bool true] 40)).heap.size):=hid (by have:=HCI.out.cc.lo;have:=HCI.out.cc.lt;simp;omega);have HROW:Hid (∀ w3,(wz.alloc (.cells #[.int .i64 code,.int .i64 arg,.int .i64 (line:Int),.bool t.pend,.slice ga sc.chain.length ca,.int .i64 0,.bool true] 40)).drew.grownBy w3 (Value.slice va X.length vc).ownBlock→wz.grownBy w3 (Value.slice va X.length vc).ownBlock∧w3.cell? ⟨cb,8,none⟩=some (.slice va X.length vc)∧w3.frozen? ⟨cb,8,none⟩=false∧w3.cell? ⟨bb,0,none⟩=some (.pointer (some ⟨cb,0,none⟩))∧(∀ u,(w3.setCell ⟨cb,8,none⟩ u).cell? ⟨bb,7,none⟩=some (.bool t.pend)∧(w3.setCell ⟨cb,8,none⟩ u).frozen? ⟨bb,7,none⟩=false∧(w3.setCell ⟨cb,8,none⟩ u).cell? ⟨bb,0,none⟩=some (.pointer (some ⟨cb,0,none⟩)))∧(w3.cell? ⟨bb,0,none⟩=some (.pointer (some ⟨cb,0,none⟩))∧w3.cell? ⟨cb,8,none⟩=some (.slice va X.length vc)∧w3.cell? ⟨gi,0,none⟩=some (.int .i64 code)∧w3.cell? ⟨gi,1,none⟩=some (.int .i64 arg)∧w3.cell? ⟨gi,2,none⟩=some (.int .i64 (line:Int))∧w3.cell? ⟨gi,3,none⟩=some (.bool t.pend)∧w3.cell? ⟨gi,4,none⟩=some (.slice ga sc.chain.length ca)∧w3.cell? ⟨gi,5,none⟩=some (.int .i64 0)∧w3.cell? ⟨gi,6,none⟩=some (.bool true))):=hid (fun w3 hg=>by
      have s:=HCI.out.sep jT_ok;have hg2:wz.grownBy w3 (Value.slice va X.length vc).ownBlock:=⟨hg.os,hg.tape,hg.output,by have h2:(wz.alloc _).heap.size≤w3.heap.size:=hg.size;simp at h2;omega,fun q hq hne=>(hg.block q (by show q<(wz.alloc _).heap.size;simp;omega) hne).trans (Below.heap_alloc _ _ _ hq)⟩;have hr:=(hg2.block cb HCI.out.cc.lt (fun e=>s.ic e.symm)).trans HCI.out.cc.row;have hr2:=(hg2.block b.bb HCI.out.bd.blt (fun e=>s.ib e.symm)).trans HCI.out.bd.row;rw [HBB.out] at hr2;have hr3:∀ u,(w3.setCell ⟨cb,8,none⟩ u).heap[bb]?=_:=fun u=>(set_other (by rw [← HBB.out];exact s.bc)).trans hr2
      exact ⟨hg2,(blk hr).1 8 _ rfl,(blk hr).2.1 8,(blk hr2).1 0 _ rfl,fun u=>⟨(blk (hr3 u)).1 7 _ rfl,(blk (hr3 u)).2.1 7,(blk (hr3 u)).1 0 _ rfl⟩,(blk hr2).1 0 _ rfl,(blk hr).1 8 _ rfl,KEEP5.out _ ((hg2.block gi glt (fun e=>by have:=(HH.out.cc.its.lt gi e.symm).2;omega)).trans HYI.out)⟩)
     have SY:Hid (wz.cell? ⟨bb,0,none⟩=some (.pointer (some ⟨cb,0,none⟩))∧wz.cell? ⟨cb,8,none⟩=some (.slice va X.length vc)∧wz.cell? ⟨gi,0,none⟩=some (.int .i64 code)∧wz.cell? ⟨gi,1,none⟩=some (.int .i64 arg)∧wz.cell? ⟨gi,2,none⟩=some (.int .i64 (line:Int))∧wz.cell? ⟨gi,3,none⟩=some (.bool t.pend)∧wz.cell? ⟨gi,4,none⟩=some (.slice ga sc.chain.length ca)∧wz.cell? ⟨gi,5,none⟩=some (.int .i64 0)∧wz.cell? ⟨gi,6,none⟩=some (.bool true)):=hid ⟨y0,y8,KEEP5.out _ HYI.out⟩;have SX:Hid ((wz.alloc (.cells #[.int .i64 code,.int .i64 arg,.int .i64 (line:Int),.bool t.pend,.slice ga sc.chain.length ca,.int .i64 0,.bool true] 40)).cell? ⟨bb,0,none⟩=some (.pointer (some ⟨cb,0,none⟩))∧(wz.alloc (.cells #[.int .i64 code,.int .i64 arg,.int .i64 (line:Int),.bool t.pend,.slice ga sc.chain.length ca,.int .i64 0,.bool true] 40)).cell? ⟨cb,8,none⟩=some (.slice va X.length vc)∧(wz.alloc (.cells #[.int .i64 code,.int .i64 arg,.int .i64 (line:Int),.bool t.pend,.slice ga sc.chain.length ca,.int .i64 0,.bool true] 40)).cell? ⟨gi,0,none⟩=some (.int .i64 code)∧(wz.alloc (.cells #[.int .i64 code,.int .i64 arg,.int .i64 (line:Int),.bool t.pend,.slice ga sc.chain.length ca,.int .i64 0,.bool true] 40)).cell? ⟨gi,1,none⟩=some (.int .i64 arg)∧(wz.alloc (.cells #[.int .i64 code,.int .i64 arg,.int .i64 (line:Int),.bool t.pend,.slice ga sc.chain.length ca,.int .i64 0,.bool true] 40)).cell? ⟨gi,2,none⟩=some (.int .i64 (line:Int))∧(wz.alloc (.cells #[.int .i64 code,.int .i64 arg,.int .i64 (line:Int),.bool t.pend,.slice ga sc.chain.length ca,.int .i64 0,.bool true] 40)).cell? ⟨gi,3,none⟩=some (.bool t.pend)∧(wz.alloc (.cells #[.int .i64 code,.int .i64 arg,.int .i64 (line:Int),.bool t.pend,.slice ga sc.chain.length ca,.int .i64 0,.bool true] 40)).cell? ⟨gi,4,none⟩=some (.slice ga sc.chain.length ca)∧(wz.alloc (.cells #[.int .i64 code,.int .i64 arg,.int .i64 (line:Int),.bool t.pend,.slice ga sc.chain.length ca,.int .i64 0,.bool true] 40)).cell? ⟨gi,5,none⟩=some (.int .i64 0)∧(wz.alloc (.cells #[.int .i64 code,.int .i64 arg,.int .i64 (line:Int),.bool t.pend,.slice ga sc.chain.length ca,.int .i64 0,.bool true] 40)).cell? ⟨gi,6,none⟩=some (.bool true)):=hid ⟨x0,x8,KEEP5.out _ ((Below.heap_alloc _ _ _ glt).trans HYI.out)⟩;obtain ⟨ia0,ia1,ia2,ia3,ia4,ia5,ia6⟩:=KEEP5.out _ HYI.out;refine E_start (S:=(fun w'=>w'.cell? ⟨bb,0,none⟩=some (.pointer (some ⟨cb,0,none⟩))∧w'.cell? ⟨cb,8,none⟩=some (.slice va X.length vc)∧w'.cell? ⟨gi,0,none⟩=some (.int .i64 code)∧w'.cell? ⟨gi,1,none⟩=some (.int .i64 arg)∧w'.cell? ⟨gi,2,none⟩=some (.int .i64 (line:Int))∧w'.cell? ⟨gi,3,none⟩=some (.bool t.pend)∧w'.cell? ⟨gi,4,none⟩=some (.slice ga sc.chain.length ca)∧w'.cell? ⟨gi,5,none⟩=some (.int .i64 0)∧w'.cell? ⟨gi,6,none⟩=some (.bool true))) 16 (by kernel_rfl) (SY.out) (fun hHeld=>?_);refine E_tk 0 ?_
     try simp only [Act.put,eS1,eS2,eS3,eA1,eA2,eA3]
     refine E_tk 1 ?_
     try simp only [Act.put,eS1,eS2,eS3,eA1,eA2,eA3]
     refine E_tk 2 ?_
     try simp only [Act.put,eS1,eS2,eS3,eA1,eA2,eA3]
     refine E_tk 3 ?_
     try simp only [Act.put,eS1,eS2,eS3,eA1,eA2,eA3]
     refine E_tk 4 ?_
     try simp only [Act.put,eS1,eS2,eS3,eA1,eA2,eA3]
     refine E_tk 5 ?_
     try simp only [Act.put,eS1,eS2,eS3,eA1,eA2,eA3]
     refine E_tk 6 ?_
     try simp only [Act.put,eS1,eS2,eS3,eA1,eA2,eA3]
     refine E_tk 7 ?_
     try simp only [Act.put,eS1,eS2,eS3,eA1,eA2,eA3]
     refine E_tk 8 ?_
     try simp only [Act.put,eS1,eS2,eS3,eA1,eA2,eA3]
     refine E_tk 9 ?_
     try simp only [Act.put,eS1,eS2,eS3,eA1,eA2,eA3]
     refine E_tk 10 ?_
     try simp only [Act.put,eS1,eS2,eS3,eA1,eA2,eA3]
     refine E_tk 11 ?_
     try simp only [Act.put,eS1,eS2,eS3,eA1,eA2,eA3]
     refine E_ready (rs:=[12]) (by kernel_rfl) (by decide) ?_;refine AllE.cons (o:=_) rfl (fun K hK=>?_) AllE.nil
     try simp only [eA1,eA2,eA3]
     go_simp
     refine hK.out _ _ (SX.out) (fun hHeld=>?_);clear hK K
     try simp only [Act.put,eS1,eS2,eS3,eA1,eA2,eA3]
     refine E_ready (rs:=[13]) (by kernel_rfl) (by decide) ?_;refine AllE.cons (o:=_) rfl (fun K hK=>?_) AllE.nil;refine step_append_lies _ rfl (.tmp 57) (.tmp 59) 65 rfl B 40 t0 _ 7 72 Tryz.underlying65 ht hy0 hy1 hy2 rfl (by decide) (.slice va X.length vc) X.length (itV X) rfl HOW.out.drew ⟨wz.heap.size,0,none⟩ 1 1 #[.int .i64 code,.int .i64 arg,.int .i64 (line:Int),.bool t.pend,.slice ga sc.chain.length ca,.int .i64 0,.bool true].toList rfl rfl HNW.out (by intro u hu;simp at hu;rcases hu with rfl|rfl|rfl|rfl|rfl|rfl|rfl <;> rfl) (by decide) hm3 hb3 HBW.out _ rfl ?_;intro g3 c3 w3 O3 G3 A3 L3;have SR:=(HROW.out _ G3).2.2.2.2.2;have r8:=(HROW.out _ G3).2.1;have f8:=(HROW.out _ G3).2.2.1;refine hK.out _ _ (SR) (fun hHeld=>?_);clear hK K
     try simp only [Act.put,eS1,eS2,eS3,eA1,eA2,eA3]
     refine E_tk 14 ?_
     try simp only [Act.put,eS1,eS2,eS3,eA1,eA2,eA3]
     refine E_tk 15 ?_
     try simp only [Act.put,eS1,eS2,eS3,eA1,eA2,eA3]
     refine E_last (o:=_) (by kernel_rfl) rfl (by kernel_rfl) (fun K hK=>?_)
     try simp only [eA1,eA2,eA3]
     go_simp
     refine hK.out _ _ ?_;clear hK K;obtain ⟨X',hC,hS⟩:=HEM.out _ _ (HROW.out _ G3).1 O3 (fun g hg=>by
      have h1:g3=g:=Option.some.inj hg
      rcases A3 with e|e
      ·exact .inl (h1▸e)
      ·have e2:g3=(wz.alloc _).heap.size:=e
       simp at e2;exact .inr (by have:=HZ.out;omega))
     have HC3:=hid hC;have HS3:=hid hS;clear hC hS;have r7:=((HROW.out _ G3).2.2.2.2.1 (.slice (some ⟨g3,0,none⟩) (X.length+1) c3)).1;have f7:=((HROW.out _ G3).2.2.2.2.1 (.slice (some ⟨g3,0,none⟩) (X.length+1) c3)).2.1;go_wp2
     go_end0
     exact ⟨rfl,_,X',HC3,HS3⟩
end Go.Proofs.YtcflojdkaddemaaGreatDoor
