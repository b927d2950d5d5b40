/- Parts of the proof. -/
import Derived.Test.YtcflojdkaddemaaGreatDoorI32
import Derived.Lib.AppendStr
namespace Go.Proofs.YtcflojdkaddemaaGreatDoor
open Go.RowKit Go.Lib
theorem below_drw7 {B:Nat} {w w':World} (h:Below B w w') (k:Nat):Below B w (w'.drewN k):=⟨h.os,h.tape,h.output,h.size,h.block⟩
theorem wid_one (c:Int) (h:sgnB c=true):1≤widN c:=by rcases sgn_wid c h with h|h <;> omega
set_option maxHeartbeats 2000000 in
theorem i_ok7 (c a:Int) (w:World) (ha:(Lit.int .i64 a).wf=true) :
  Calls Tryz.prog 115 #[.agg #[.int .i64 c,.int .i64 a]] w fun e w'=>e=.returned (.bool (insB ⟨c,a⟩))∧Below w.heap.size w w':=by
 have hb0:-9223372036854775808≤a∧a≤9223372036854775807:=bounds_i64 ha;have C:=hid (fun W=>i_code c W);have BY:=hid (fun W=>i_bytes a W ha);obtain ⟨x0,x1,x2,x3,x4,x5,x6,x7,hx⟩:=arr8 (argB a 8) (argB_length a 8);rw [hx] at BY
 by_cases hc:codeB c=true
 ·have SH:=hid (fun W=>i_shape c W)
  have WI:=hid (fun W=>i_wide (widN c) (sgnB c) (argB a 8) W (argB_length a 8) (Nat.le_trans (widN_le c) (by decide)) (wid_one c));obtain ⟨y0,y1,y2,y3,y4,y5,y6,y7,hy⟩:=arr8 (widL (widN c) (sgnB c) (argB a 8)) (widL_length _ _ _ (argB_length a 8) (Nat.le_trans (widN_le c) (by decide)));have EQ:=hid (fun W=>run_eql_arr (widL (widN c) (sgnB c) (argB a 8)) (argB a 8) (widL_length _ _ _ (argB_length a 8) (Nat.le_trans (widN_le c) (by decide))) (argB_length a 8) W);have HR:Hid (insB ⟨c,a⟩=decide (widL (widN c) (sgnB c) (argB a 8)=argB a 8)):=hid (by
   rw [insB_eq,hc,Bool.true_and,← Bool.decide_and,decide_eq_decide];exact (fit_iff c a hb0.1 hb0.2).symm)
  rw [hx,hy] at WI EQ;obtain ⟨r,hr⟩:∃ r,decide (widL (widN c) (sgnB c) (argB a 8)=argB a 8)=r:=⟨_,rfl⟩;rw [hr] at EQ HR;obtain ⟨m,hm⟩:∃ m:Nat,widN c=m:=⟨_,rfl⟩;obtain ⟨sg,hsg⟩:∃ sg,sgnB c=sg:=⟨_,rfl⟩;rw [hm,hsg] at SH WI;rw [hc] at C;clear hb0 hc hr hm hsg hx hy ha;have HB0:=hid (fun (o:Obj)=>((Below.refl w.heap.size w).alloc (Nat.le_refl _) o))
  go_enter Tryz.func115,Tryz.ntmps115
  go_wp2_with fail;refine (BY.out _).mono ?_;rintro e w1 ⟨rfl,b1⟩;have HB1:=hid ((HB0.out _).trans (b1.mono (by simp)));have z1:w.heap.size<w1.heap.size:=by have:=b1.size;simp at this;omega
  have c0:=b1.cell (p:=⟨w.heap.size,0,none⟩) (by simp);go_wp2_with fail;obtain ⟨W1,hW1⟩:∃ W,w1.alloc (.cells #[.int .u8 x0,.int .u8 x1,.int .u8 x2,.int .u8 x3,.int .u8 x4,.int .u8 x5,.int .u8 x6,.int .u8 x7] 156)=W:=⟨_,rfl⟩;have HA:Hid (Below w1.heap.size w1 W1):=hid (hW1▸(Below.refl _ _).alloc (Nat.le_refl _) _);have HP:Hid (W1.heap[w1.heap.size]?=some (.cells #[.int .u8 x0,.int .u8 x1,.int .u8 x2,.int .u8 x3,.int .u8 x4,.int .u8 x5,.int .u8 x6,.int .u8 x7] 156 (0,0))):=hid (hW1▸heap_alloc_new w1 _);have HC0:Hid (W1.cell? ⟨w.heap.size,0,none⟩=some (.int .i64 c)):=hid ((HA.out.cell (p:=⟨w.heap.size,0,none⟩) z1).trans (c0.trans ((blk (heap_alloc_new w _)).1 0 _ rfl)));have z2:w1.heap.size<W1.heap.size:=(blk HP.out).2.2;have KEEP:Hid (∀ W,Below W1.heap.size W1 W→W.cell? ⟨w.heap.size,0,none⟩=some (.int .i64 c)∧W.cell? ⟨w1.heap.size,0,none⟩=some (.int .u8 x0)∧W.cell? ⟨w1.heap.size,1,none⟩=some (.int .u8 x1)∧W.cell? ⟨w1.heap.size,2,none⟩=some (.int .u8 x2)∧W.cell? ⟨w1.heap.size,3,none⟩=some (.int .u8 x3)∧W.cell? ⟨w1.heap.size,4,none⟩=some (.int .u8 x4)∧W.cell? ⟨w1.heap.size,5,none⟩=some (.int .u8 x5)∧W.cell? ⟨w1.heap.size,6,none⟩=some (.int .u8 x6)∧W.cell? ⟨w1.heap.size,7,none⟩=some (.int .u8 x7)):=hid (fun W hb=>by
   have q:=(blk ((hb.block _ z2).trans HP.out)).1;exact ⟨(hb.cell (p:=⟨w.heap.size,0,none⟩) (show w.heap.size<W1.heap.size by omega)).trans HC0.out,q 0 _ rfl,q 1 _ rfl,q 2 _ rfl,q 3 _ rfl,q 4 _ rfl,q 5 _ rfl,q 6 _ rfl,q 7 _ rfl⟩)
  have HBW:Hid (Below w.heap.size w W1):=hid (HB1.out.trans (HA.out.mono (by omega)));have hbin:=fun W=>EQ.out W
  rw [hW1];clear hW1 c0 b1 HB0
  go_region_held3 (fun w'=>w'.cell? ⟨w.heap.size,0,none⟩=some (.int .i64 c)∧w'.cell? ⟨w1.heap.size,0,none⟩=some (.int .u8 x0)∧w'.cell? ⟨w1.heap.size,1,none⟩=some (.int .u8 x1)∧w'.cell? ⟨w1.heap.size,2,none⟩=some (.int .u8 x2)∧w'.cell? ⟨w1.heap.size,3,none⟩=some (.int .u8 x3)∧w'.cell? ⟨w1.heap.size,4,none⟩=some (.int .u8 x4)∧w'.cell? ⟨w1.heap.size,5,none⟩=some (.int .u8 x5)∧w'.cell? ⟨w1.heap.size,6,none⟩=some (.int .u8 x6)∧w'.cell? ⟨w1.heap.size,7,none⟩=some (.int .u8 x7)) (first|exact KEEP.out _ (Below.refl W1.heap.size W1).drew|exact KEEP.out _ (undrew b2)|exact KEEP.out _ ((undrew b2).trans (b3.mono (undrew b2).size))) (first
   | (go_at_call 157;(with_reducible refine (C.out _).mono ?_);rintro e w' ⟨rfl,rfl⟩)
   | (go_at_call 117;(with_reducible refine (SH.out _).mono ?_);rintro e w2 ⟨rfl,b2⟩)
   | (go_at_call 158;(with_reducible refine (WI.out _).mono ?_);rintro e w3 ⟨rfl,b3⟩))
  all_goals
   have HB3:Hid (Below w.heap.size w w3):=hid (HBW.out.trans (((undrew b2).trans (b3.mono (undrew b2).size)).mono (by omega)));clear b2 b3;go_wp2;go_ret;exact ⟨ret_b7 HR.out.symm,HB3.out⟩
 ·have HR:Hid (insB ⟨c,a⟩=false):=hid (by rw [insB_eq,Bool.eq_false_iff.2 hc,Bool.false_and])
  rw [Bool.eq_false_iff.2 hc] at C;clear hb0 hc hx ha;have HB0:=hid (fun (o:Obj)=>((Below.refl w.heap.size w).alloc (Nat.le_refl _) o))
  go_enter Tryz.func115,Tryz.ntmps115
  go_wp2_with fail;refine (BY.out _).mono ?_;rintro e w1 ⟨rfl,b1⟩;have HB1:=hid ((HB0.out _).trans (b1.mono (by simp)));have z1:w.heap.size<w1.heap.size:=by have:=b1.size;simp at this;omega
  have c0:w1.cell? ⟨w.heap.size,0,none⟩=some (.int .i64 c):=(b1.cell (p:=⟨w.heap.size,0,none⟩) (by simp)).trans ((blk (heap_alloc_new w _)).1 0 _ rfl);clear b1 HB0;go_wp2_with fail;go_quiet ((go_at_call 157;exact Calls.quiet_of_same ((C.out _).mono (fun e w' h=>⟨h.1,h.2.symm⟩))))
  all_goals
   go_wp2;go_ret;exact ⟨ret_b7 HR.out.symm,below_drw7 (HB1.out.alloc (by omega) _) _⟩
end Go.Proofs.YtcflojdkaddemaaGreatDoor

namespace Go.Proofs.YtcflojdkaddemaaGreatDoor
open Go.RowKit Go.Lib
theorem info7:(Tryz.prog.info? 5).map (fun i=>(i.zero,i.size,i.bytes))=some (some (.int .u8 0),1,1):=by kernel_rfl
theorem encL_no (c a:Int) (h:insB ⟨c,a⟩=false):encL ⟨c,a⟩=[]:=by unfold encL;rw [h];rfl
theorem encL_yes (c a:Int) (h:insB ⟨c,a⟩=true):encL ⟨c,a⟩=UInt8.ofNat c.toNat :: argB a (widN c):=by unfold encL;rw [h];rfl
end Go.Proofs.YtcflojdkaddemaaGreatDoor

namespace Go.Proofs.YtcflojdkaddemaaGreatDoor
open Go.RowKit Go.Lib
theorem step_append_own7 {P:Program} (w:World) {ops:Array Oper} {o:Oper} {a:Act} {K:Act→World→Prop} {Q:Exit→Act→World→Prop} {E:Prop} (hgd:o.guard=none) (s x:Operand) (t:TypeId)
  (ho:o.op=.call { callee:=.builtin .append,args:=#[s,x],argTypes:=#[t,t] })
  (base:Nat) (e:TypeId) (i:TypeInfo) (z:Value) (size bytes:Nat) (ht:P.underlying t=some (.slice e)) (hi:P.info? e=some i) (hz:i.zero=some z)
  (hsize:i.size=size) (hby:i.bytes=bytes) (hzs:z.cells.size=size) (hsz:0<size)
  (v:Value) (n:Nat) (xs:List Value) (hs:a.eval s=v) (hown:w.ownsRow base e size v n xs)
  (ad:Addr) (m c:Nat) (news:List Value) (hx:a.eval x=.slice (some ad) m c) (hl:news.length=m*size) (hnews:∀ j u,news[j]?=some u→w.cell? (ad.add j)=some u) (h1:∀ u ∈ news,u.oneCell'=true)
  (h63:n+m≤maxLen) (hbytes:(n+m)*bytes≤140737488355328) (hbase:base≤w.heap.size)
  (h:∀ v' w',w'.ownsRow base e size v' (n+m) (xs++news)→w.grownBy w' v.ownBlock→K (a.put o.dst v') w') :
  if Region.wanted o (yielded ops a.tmps)=true then Oper.wp P o a w K Q else E:=by
 have hw:Region.wanted o (yielded ops a.tmps)=true:=by simp [Region.wanted,hgd]
 rw [if_pos hw];exact wp_append_own w s x t ho base e i z size bytes ht hi hz hsize hby hzs hsz v n xs hs hown ad m c news hx hl hnews h1 h63 hbytes hbase fun v' w' h2 h3 _=>h v' w' h2 h3
theorem arr_cells (l:List UInt8) (B m:Nat) (T:TypeId) (w:World) (h:w.heap[B]?=some (.cells (arrC l) T (0,0))):∀ j u,(byteCells (l.take m))[j]?=some u→w.cell? ((⟨B,0,none⟩:Addr).add j)=some u:=fun j u hu=>by
 have hadd:(⟨B,0,none⟩:Addr).add j=⟨B,j,none⟩:=by unfold Addr.add;split <;> simp_all
 rw [hadd,cell_of_row w B j (arrC l) T (0,0) h];unfold arrC;unfold byteCells at hu ⊢;rw [List.getElem?_map,List.getElem?_take] at hu
 split at hu
 ·simpa using hu
 ·cases hu
theorem undrewA {W w':World} {X:Obj} (h:Below (W.alloc X).heap.size (W.alloc X) w'):Below W.heap.size W w':=((Below.refl W.heap.size W).alloc (Nat.le_refl _) X).trans (h.mono (by simp))
theorem undrewB {W w':World} {X:Obj} (h:Below (W.alloc X).drew.heap.size (W.alloc X).drew w'):Below W.heap.size W w':=undrewA (undrew h)
set_option maxHeartbeats 2000000 in
theorem i_enc7 (c a:Int) (w:World) (ha:(Lit.int .i64 a).wf=true) :
  Calls Tryz.prog 56 #[.agg #[.int .i64 c,.int .i64 a]] w fun e w'=>e=.returned (.string ⟨(encL ⟨c,a⟩).toArray⟩)∧Below w.heap.size w w':=by
 have OK:=hid (fun W=>i_ok7 c a W ha);have HB0:=hid (fun (o:Obj)=>((Below.refl w.heap.size w).alloc (Nat.le_refl _) o))
 cases hi:insB ⟨c,a⟩ with
 | false =>
  rw [hi] at OK;have HE:=hid (encL_no c a hi);clear hi
  go_enter Tryz.func56,Tryz.ntmps56
  go_wp2_with fail;refine (OK.out _).mono ?_;rintro e w1 ⟨rfl,b1⟩;have HB1:=hid ((HB0.out _).trans (b1.mono (by simp)));go_wp2_with fail;go_ret;rw [HE.out];exact ⟨rfl,HB1.out⟩
 | true =>
  rw [hi] at OK;have HE:=hid (encL_yes c a hi);have hcc:=(insB_parts _ hi).1;have SH:=hid (fun W=>i_shape c W);have BY:=hid (fun W=>i_bytes a W ha);obtain ⟨x0,x1,x2,x3,x4,x5,x6,x7,hx⟩:=arr8 (argB a 8) (argB_length a 8);have HX:=hid hx;rw [hx] at BY;have hm:=widN_le c;obtain ⟨m,hme⟩:∃ m:Nat,widN c=m:=⟨_,rfl⟩;rw [hme] at HE SH hm;obtain ⟨i0,hi0,hz0,hz1,hz2⟩:=info_parts info7;have h0:0≤c:=hcc.1;have h1:c≤17:=hcc.2;have hcb:Hid (c=((UInt8.ofNat c.toNat).toNat:Int)):=hid (by rw [byte_of c h0 (by omega)]);clear hi hcc hme hx ha
  go_enter Tryz.func56,Tryz.ntmps56
  go_wp2_with fail;refine (OK.out _).mono ?_;rintro e w1 ⟨rfl,b1⟩;have HB1:=hid ((HB0.out _).trans (b1.mono (by simp)));have c0:w1.cell? ⟨w.heap.size,0,none⟩=some (.int .i64 c):=(b1.cell (p:=⟨w.heap.size,0,none⟩) (by simp)).trans ((blk (heap_alloc_new w _)).1 0 _ rfl);have c1:w1.cell? ⟨w.heap.size,1,none⟩=some (.int .i64 a):=(b1.cell (p:=⟨w.heap.size,1,none⟩) (by simp)).trans ((blk (heap_alloc_new w _)).1 1 _ rfl);have z1:w.heap.size<w1.heap.size:=by have:=b1.size;simp at this;omega
  clear b1;go_wp2_with fail;refine (BY.out _).mono ?_;rintro e w2 ⟨rfl,b2⟩;have HB2:=hid (HB1.out.trans (b2.mono (by omega)));have d0:w2.cell? ⟨w.heap.size,0,none⟩=some (.int .i64 c):=(b2.cell (p:=⟨w.heap.size,0,none⟩) z1).trans c0;have z2:w.heap.size<w2.heap.size:=by have:=b2.size;omega
  clear b2 c0 c1;go_wp2_with fail;obtain ⟨W1,hW1⟩:∃ W,w2.alloc (.cells #[.int .u8 x0,.int .u8 x1,.int .u8 x2,.int .u8 x3,.int .u8 x4,.int .u8 x5,.int .u8 x6,.int .u8 x7] 156)=W:=⟨_,rfl⟩;have HA:Hid (Below w2.heap.size w2 W1):=hid (hW1▸(Below.refl _ _).alloc (Nat.le_refl _) _);have HP:Hid (W1.heap[w2.heap.size]?=some (.cells (arrC (argB a 8)) 156 (0,0))):=hid (by rw [HX.out,← hW1];exact heap_alloc_new w2 _);have HC0:Hid (W1.cell? ⟨w.heap.size,0,none⟩=some (.int .i64 c)):=hid ((HA.out.cell (p:=⟨w.heap.size,0,none⟩) z2).trans d0);have z3:w2.heap.size<W1.heap.size:=(blk HP.out).2.2;have KEEP:Hid (∀ W,Below W1.heap.size W1 W→W.cell? ⟨w.heap.size,0,none⟩=some (.int .i64 c)∧W.heap[w2.heap.size]?=some (.cells (arrC (argB a 8)) 156 (0,0))):=hid (fun W hb =>
   ⟨(hb.cell (p:=⟨w.heap.size,0,none⟩) (show w.heap.size<W1.heap.size by omega)).trans HC0.out,(hb.block _ z3).trans HP.out⟩)
  have HBW:Hid (Below w.heap.size w W1):=hid (HB2.out.trans (HA.out.mono (by omega)));have hfl:=fun (W:World)=>run_shape0 (m:Int) (sgnB c) W
  have hm0:(0:Int)≤(m:Int):=by omega
  have hm8:(m:Int)≤8:=by omega
  rw [hW1];clear hW1 d0 HB0 HB1 HB2;obtain ⟨b,hb⟩:∃ b,UInt8.ofNat c.toNat=b:=⟨_,rfl⟩;rw [hb] at HE hcb;clear hb;have HCW:Hid (IntKind.u8.wrap c=(b.toNat:Int)):=hid (by rw [IntKind.wrap_u8'];have:=hcb.out;omega);have NL:Hid ((byteCells ((argB a 8).take m)).length=m*1):=hid (by rw [byteCells_length,List.length_take,argB_length];omega);have h63:1+m≤maxLen:=by unfold maxLen;omega
  have hby:(1+m)*1≤140737488355328:=by omega
  have ZB:Hid (∀ W,Below W1.heap.size W1 W→W1.heap.size≤W.heap.size):=hid (fun W h=>h.size);have ZC:Hid (∀ W,Below W1.heap.size W1 W→w.heap.size<W.heap.size):=hid (fun W h=>by have:=h.size;omega);have hw0:W1.cell? ⟨w.heap.size,0,none⟩=some (.int .i64 c):=HC0.out;have hwz:w.heap.size<W1.heap.size:=by omega
  have HOA:Hid (∀ W,Below (W1.alloc (.cells #[.int .u8 (IntKind.u8.wrap c)] 5)).heap.size (W1.alloc (.cells #[.int .u8 (IntKind.u8.wrap c)] 5)) W→W.ownsRow W1.heap.size 5 1 (.slice (some ⟨W1.heap.size,0,none⟩) 1 1) 1 [.int .u8 (IntKind.u8.wrap c)]):=hid (fun W h=>owns3_below (World.ownsRow_lit (base:=W1.heap.size) (e:=5) (size:=1) W1 #[.int .u8 (IntKind.u8.wrap c)] 1 (Nat.le_refl _) (by decide) rfl) h);have HOB:Hid (∀ W,Below W1.heap.size W1 W→(W.alloc (.cells #[.int .u8 (IntKind.u8.wrap c)] 5)).ownsRow W1.heap.size 5 1 (.slice (some ⟨W.heap.size,0,none⟩) 1 1) 1 [.int .u8 (IntKind.u8.wrap c)]):=hid (fun W h=>World.ownsRow_lit (base:=W1.heap.size) (e:=5) (size:=1) W #[.int .u8 (IntKind.u8.wrap c)] 1 h.size (by decide) rfl);have GR:Hid (∀ (W W':World) (g:Nat),Below W1.heap.size W1 W→W.grownBy W' (some g)→W1.heap.size≤g→Below W1.heap.size W1 W'):=hid (fun W W' g h hg hk=>h.grown hg h.size (fun k e=>by cases e;exact hk));have RW:Hid (∀ (v:Value) (W:World),W.ownsRow W1.heap.size 5 1 v (1+m) ([.int .u8 (IntKind.u8.wrap c)]++byteCells ((argB a 8).take m))→W.ownsRow W1.heap.size 5 1 v (b :: argB a m).length (byteCells (b :: argB a m))):=hid (fun v W h=>by
   have e:byteCells (b :: argB a m)=[.int .u8 (IntKind.u8.wrap c)]++byteCells ((argB a 8).take m):=by rw [HCW.out,argB_take a m (by omega)];rfl
   have e2:(b :: argB a m).length=1+m:=by rw [List.length_cons,argB_length];omega
   rw [e,e2];exact h)
  go_region_law (first
   | (go_simp;go_at_call 117;(with_reducible refine (SH.out _).mono ?_);rintro e w4 ⟨rfl,b4⟩;have c4:w4.cell? ⟨w.heap.size,0,none⟩=some (.int .i64 c):=(KEEP.out _ (by first|exact undrew b4|exact undrewA b4|exact undrewB b4)).1;have z4:w.heap.size<w4.heap.size:=ZC.out _ (by first|exact undrew b4|exact undrewA b4|exact undrewB b4))
   | ((refine step_append_own7 _ ?_ (.tmp 13) (.tmp 18) 22 ?_ W1.heap.size 5 i0 (.int .u8 0) 1 1 Tryz.underlying22 hi0 hz0 hz1 hz2 rfl (by decide) _ 1 [.int .u8 (IntKind.u8.wrap c)] ?_ (HOA.out _ (undrew b4)) ⟨w2.heap.size,0,none⟩ m 8 (byteCells ((argB a 8).take m)) ?_ NL.out ?_ (byteCells_one _) h63 hby ?_ ?_;rfl;rfl;rfl;rfl;exact arr_cells _ _ _ _ _ (KEEP.out _ (by first|exact undrewA b4|exact undrewB b4|exact (undrew b4).alloc (undrew b4).size _)).2;exact ZB.out _ (by first|assumption|exact undrew b4|exact undrewA b4|exact undrewB b4|exact (undrew b4).alloc (undrew b4).size _);intro v' w5 hown5 hgrow5;have hb5:=GR.out _ _ _ (by first|exact undrewA b4|exact undrewB b4|exact (undrew b4).alloc (undrew b4).size _) hgrow5 (by first|exact Nat.le_refl _|exact (undrew b4).size);have hcv:=conv_own (P:=Tryz.prog) w5 W1.heap.size 22 9 5 v' (b :: argB a m) Tryz.underlying22 Tryz.underlying5 Tryz.underlying9 (RW.out _ _ hown5)))
   | (refine step_append_own7 _ ?_ (.tmp 13) (.tmp 18) 22 ?_ W1.heap.size 5 i0 (.int .u8 0) 1 1 Tryz.underlying22 hi0 hz0 hz1 hz2 rfl (by decide) _ 1 [.int .u8 (IntKind.u8.wrap c)] ?_ (HOB.out _ (undrew b4)) ⟨w2.heap.size,0,none⟩ m 8 (byteCells ((argB a 8).take m)) ?_ NL.out ?_ (byteCells_one _) h63 hby ?_ ?_;rfl;rfl;rfl;rfl;exact arr_cells _ _ _ _ _ (KEEP.out _ (by first|exact undrewA b4|exact undrewB b4|exact (undrew b4).alloc (undrew b4).size _)).2;exact ZB.out _ (by first|assumption|exact undrew b4|exact undrewA b4|exact undrewB b4|exact (undrew b4).alloc (undrew b4).size _);intro v' w5 hown5 hgrow5;have hb5:=GR.out _ _ _ (by first|exact undrewA b4|exact undrewB b4|exact (undrew b4).alloc (undrew b4).size _) hgrow5 (by first|exact Nat.le_refl _|exact (undrew b4).size);have hcv:=conv_own (P:=Tryz.prog) w5 W1.heap.size 22 9 5 v' (b :: argB a m) Tryz.underlying22 Tryz.underlying5 Tryz.underlying9 (RW.out _ _ hown5)))
  all_goals
   have HB5:Hid (Below w.heap.size w w5):=hid (HBW.out.trans (hb5.mono (by omega)));clear hb5 hcv hown5 hgrow5 b4;go_wp2;go_ret;have HE':encL ⟨c,a⟩=b :: argB a m:=HE.out;rw [HE'];exact ⟨rfl,HB5.out⟩
end Go.Proofs.YtcflojdkaddemaaGreatDoor

namespace Go.Proofs.YtcflojdkaddemaaGreatDoor
open Go.RowKit Go.Lib
def AImg (T B:Nat) (c:List UInt8) (l:List SyL) (w:World) (e:Ending) (w':World):Prop :=
 ∃ v,e=.returned (.agg #[.string ⟨c.toArray⟩,v])∧w'.ownsRow B T 3 v l.length (sysV l)∧Below w.heap.size w w'
theorem row_of {B T n s:Nat} {w:World} {v:Value} {xs:List Value} (h:w.ownsRow B T s v n xs):∀ g,v.ownBlock=some g→∃ cur,w.heap[g]?=some (.cells cur T (0,0)):=by
 intro g hg
 rcases h.2 with ⟨e,_⟩|⟨g',cap,cur,e,_,hc,_⟩
 ·subst e;cases hg
 ·subst e
  have:g=g':=by simpa [Value.ownBlock] using hg.symm
  subst this;exact ⟨cur,hc⟩
theorem owns_apart {B B' T T' n n' s s':Nat} {w w':World} {v v':Value} {xs xs':List Value} (h:w.ownsRow B T s v n xs) (h':w.ownsRow B' T' s' v' n' xs') (hg:w.grownBy w' v'.ownBlock) (ht:T'≠T):w'.ownsRow B T s v n xs :=
 owns_other h hg (fun g e=>by
  obtain ⟨cur,hc⟩:=row_of h' g e;exact .inr ⟨cur,_,hc,ht⟩)
theorem infoSyI:(Tryz.prog.info? 94).map (fun i=>(i.zero,i.size,i.bytes))=some (some (.agg #[.string ⟨#[]⟩,.int .i64 0,.int .i64 0]),3,32):=by kernel_rfl
theorem wf_ins {x:OpL} (h:insB x=true):(Lit.int .i64 x.arg).wf=true:=by
 obtain ⟨_,h1,h2⟩:=insB_parts x h;have e:-4294967296≤x.arg∧x.arg≤4294967296:=by
  rcases fit_cases x.code with ⟨_,_,h3,h4⟩|⟨_,_,h3,h4⟩|⟨_,_,h3,h4⟩|⟨_,_,h3,h4⟩|⟨_,_,h3,h4⟩ <;> (rw [h3] at h1;rw [h4] at h2;omega)
 show (decide (IntKind.i64.min≤x.arg)&&decide (x.arg≤IntKind.i64.max))=true
 rw [show IntKind.i64.min=-9223372036854775808 from rfl,show IntKind.i64.max=9223372036854775807 from rfl]
 simp
 omega
set_option maxRecDepth 100000 in
set_option maxHeartbeats 8000000 in
theorem i_assemble (inl:Nat) (pa:Option Addr) (pc:Nat) (PX:List LnL) (hl:PX.length≤1048576) (hcap:PX.length≤pc) (w:World) (hr:ReadL 9 147 w pa PX) (hz:SzAl PX) (hsh:Shapes w) (ho:OkI (plL PX)) (fm:Int) (hfm:0≤fm∧fm≤63) (hinl:inl≤3) (fo sp:Bool) (im:Nat) (him:im≤1) (LF:Nat→List ItL)
  (hLF:∀ f (hf:f<(funs (plL PX)).length),CompTo (if fo=true then foldP (plL PX) else plL PX) (frB fm f) inl (funs (plL PX))[f] (LF f)) (hFI:∀ f (hf:f<(funs (plL PX)).length),FnIt (plL PX) (funs (plL PX))[f] (LF f)) :
  Calls Tryz.prog 12 #[.slice pa PX.length pc,.agg #[.int .i64 fm,.int .i64 (inl:Int),.bool fo,.bool sp],.int .i64 (im:Int)] w (AImg 94 w.heap.size (layC 0 (fnsIm (plL PX) sp im LF (funs (plL PX)).length)) (laySy (plL PX) 0 (fnsIm (plL PX) sp im LF (funs (plL PX)).length)) w):=by
 have hn6:(funs (plL PX)).length≤6:=ho.2.1.1;have hAF:=fnsIm_mem (p:=plL PX) (sp:=sp) (im:=im) (LF:=LF) (q:=(funs (plL PX)).length) (Nat.le_refl _) hFI;have hAK:∀ f ∈ fnsIm (plL PX) sp im LF (funs (plL PX)).length,FnIt (plL PX) f.1 f.2∧lkZ (plL PX) (f.1:Int)=0:=fun f hf=>⟨hAF f hf,by
  unfold fnsIm at hf;obtain ⟨q,hq,rfl⟩:=List.mem_map.1 hf;have hqn:q<(funs (plL PX)).length:=List.mem_range.1 (List.mem_filter.1 hq).1;rw [List.getElem?_eq_getElem hqn];obtain ⟨hl0,h0⟩:=funs_at _ _ (List.getElem_mem hqn)
  show lkZ (plL PX) (((funs (plL PX))[q]:Nat):Int)=0
  rw [lkZ_at _ _ hl0];exact h0⟩
 have PLO:=hid (fun W (hb:Below w.heap.size w W)=>i_placesOf inl pa pc PX hl hcap W (hr.below hb) hz (hsh.on hb) ho fm hfm hinl fo sp im him LF hLF hFI);have hAl:=fnsIm_len (plL PX) sp im LF (funs (plL PX)).length;obtain ⟨A,hA⟩:∃ A,fnsIm (plL PX) sp im LF (funs (plL PX)).length=A:=⟨_,rfl⟩;rw [hA] at PLO hAF hAK hAl ⊢;have hlC:=layC_small A 0 hAF;have hlP:=layP_len A 0 hAF;obtain ⟨M,hM⟩:∃ M,(layP 0 A).map (fun y=>((y.1:Int),y.2))=M:=⟨_,rfl⟩;have hMc:(layP 0 A).map castP=M:=hM;rw [hM] at PLO;have HMEM:Hid (∀ y ∈ M,(0≤y.1∧y.1≤100000)∧y.2.line<PX.length∧insB ⟨y.2.code,y.2.arg⟩=true):=hid (fun y hy=>by
  rw [← hM] at hy;obtain ⟨z,hz,rfl⟩:=List.mem_map.1 hy;have h1:=layP_off A 0 hAF z hz;refine ⟨⟨by show (0:Int)≤(z.1:Int);omega,by show (z.1:Int)≤100000;omega⟩,?_,h1.2.2⟩;have h2:=h1.2.1;rw [plL_length] at h2;exact h2)
 have hMl:M.length≤18000:=by rw [← hM,List.length_map];omega
 have INV:=hid (asm_inv (plL PX) M (fun y hy=>(HMEM.out y hy).1) (by rw [← hMc];exact layP_first A 0 hAK));have SUC:=hid (fun q h=>asmF_succ (plL PX) M q h);have FIN:Hid (asmF (plL PX) M M.length=(layC 0 A,laySy (plL PX) 0 A)):=hid (by
  have h:=asm_all A [] [] hAK;unfold asmF;rw [List.take_length,← hMc];exact h)
 have Z0:=hid (asmF_zero (plL PX) M);obtain ⟨RC,hRC⟩:∃ c,layC 0 A=c:=⟨_,rfl⟩;obtain ⟨RS,hRS⟩:∃ c,laySy (plL PX) 0 A=c:=⟨_,rfl⟩;rw [hRC,hRS] at FIN ⊢;have HR:=hid hr;have NM:Hid (∀ k (hk:k<PX.length),nameAt (plL PX) k=PX[k].name):=hid (fun k hk=>by
  have h2:(plL PX)[k]?=some PX[k].p:=by unfold plL;rw [List.getElem?_map,List.getElem?_eq_getElem hk];rfl
  unfold nameAt;rw [h2];rfl)
 have KO:=hid (fun W (hb:Below w.heap.size w W) x va vn vc hx=>i_kindOf pa pc PX x va vn vc W hl (hr.below hb) hx);have EN:=hid (fun W c a h=>i_enc7 c a W h);obtain ⟨p,hp⟩:∃ p,plL PX=p:=⟨_,rfl⟩;rw [hp] at INV SUC FIN Z0 KO NM;have T2:=hid (two_new w (.cells #[.int .i64 fm,.int .i64 (inl:Int),.bool fo,.bool sp] 26) (.cells #[.string ⟨#[]⟩,.slice none 0 0] 32));obtain ⟨W0,hW0⟩:∃ W,(w.alloc (.cells #[.int .i64 fm,.int .i64 (inl:Int),.bool fo,.bool sp] 26)).alloc (.cells #[.string ⟨#[]⟩,.slice none 0 0] 32)=W:=⟨_,rfl⟩;rw [hW0] at T2;have HW0:=hid hW0;have HB0:Hid (Below w.heap.size w W0):=hid T2.out.2.2.2;have HZ0:Hid (W0.heap.size=w.heap.size+2):=hid T2.out.2.2.1;have HC:Hid (∀ W,Below W0.heap.size W0 W→W.heap[w.heap.size+1]?=some (.cells #[.string ⟨#[]⟩,.slice none 0 0] 32 (0,0))∧Below w.heap.size w W):=hid (fun W hb=>⟨(hb.block (w.heap.size+1) (by have:=HZ0.out;omega)).trans T2.out.2.1,HB0.out.trans (hb.mono (by have:=HZ0.out;omega))⟩);obtain ⟨e0,e1,e2,e3⟩:=cells4 T2.out.1;clear hr hz hsh ho hfm hLF hFI hAF hAK hA hlC hlP hM hMc hRC hRS hp T2 hW0 hAl
 go_enter Tryz.func12,Tryz.ntmps12
 go_upto_region 3 with fail;rw [HW0.out];go_wp2_with fail;refine (PLO.out _ HB0.out).mono ?_;rintro e w3 ⟨vP,X,rfl,OP,hXM,b3⟩;have B3:Hid (Below W0.heap.size W0 w3):=hid b3;have z3:=b3.size;obtain ⟨ax,cx,rfl⟩:=owns3_shape OP;have RP:=hid (readPl_of OP);have HXM:=hid hXM;have hxl:X.length=M.length:=by rw [← hXM];simp
 rw [hxl];have HXL:=hid hxl;obtain ⟨i0,hi,hz0,hz1,hz2⟩:=info_parts infoSyI;obtain ⟨u0,hu,uz0,uz1,uz2⟩:=info_parts info7;clear b3 e0 e1 e2 e3 OP hXM hxl PLO;go_wp2_with fail
 go_loopw [7,8,10,11,17] (fun v7 v8 _ _ i wr=>∃ q:Nat,q≤M.length∧i=.int .i64 (q:Int)∧Hid (wr.ownsRow w3.heap.size 5 1 v7 (asmF p M q).1.length (Lib.byteCells (asmF p M q).1))∧Hid (wr.ownsRow w3.heap.size 94 3 v8 (asmF p M q).2.length (sysV (asmF p M q).2))∧Hid (Below w3.heap.size w3 wr)) (fun _ _ _ _ i _=>M.length - (RowKit.intOf i).toNat)
 case atStart=>exact ⟨0,Nat.zero_le _,rfl,hid (by rw [Z0.out];exact ⟨rfl,.inl ⟨rfl,rfl⟩⟩),hid (by rw [Z0.out];exact ⟨rfl,.inl ⟨rfl,rfl⟩⟩),hid (Below.refl _ _)⟩
 case round =>
  obtain ⟨q,hq,rfl,HO7,HO8,HB⟩:=hrel;have hzr:=HB.out.size;have HBZ:Hid (Below W0.heap.size W0 wr):=hid (B3.out.trans (HB.out.mono z3));have HBW:=hid (HC.out wr HBZ.out).2
  by_cases hlt:q<M.length
  ·have k0:(0:Int)≤(q:Int):=by omega
   have k1:(q:Int)<(M.length:Int):=by omega
   obtain ⟨g,hga,hg,CE⟩:=(RP.out.below HB.out) q (by have:=HXL.out;omega);have hqx:q<X.length:=by have:=HXL.out;omega
   obtain ⟨d0,d1,d2,d3,d4,d5,d6,d7⟩:=plc_cells X[q];have c0:=(CE 0 (by omega)).trans d0;have c1:=(CE 1 (by omega)).trans d1;have c2:=(CE 2 (by omega)).trans d2;have c3:=(CE 3 (by omega)).trans d3;have c4:=(CE 4 (by omega)).trans d4;have c5:=(CE 5 (by omega)).trans d5;have c6:=(CE 6 (by omega)).trans d6;have c7:=(CE 7 (by omega)).trans d7;rw [Nat.add_zero] at c0;have hMq:M[q]=(X[q].off,X[q].it):=by
    have h:(X.map fun x=>(x.off,x.it))[q]?=M[q]?:=by rw [HXM.out]
    rw [List.getElem?_map,List.getElem?_eq_getElem hqx,List.getElem?_eq_getElem hlt] at h;exact (Option.some.inj h).symm
   obtain ⟨hm1,hm2,hm3⟩:=HMEM.out M[q] (List.getElem_mem hlt);have SQ:=hid (SUC.out q hlt);have IQ:=hid (INV.out q hq);have IQ1:=hid (INV.out (q+1) (by omega));rw [hMq] at SQ;rw [hMq] at hm1 hm2 hm3;generalize X[q]=y at *;obtain ⟨yo,yit,ya,yn,yc⟩:=y;dsimp only at c0 c1 c2 c3 c4 c5 c6 c7 hm1 hm2 hm3 SQ;have KQ:=hid (fun W hb=>KO.out W hb yit ya yn yc hm2);have HNM:=hid (NM.out yit.line hm2);obtain ⟨gl,hgl0,hgl,⟨_,cnm,_,_⟩,_⟩:=(HR.out.below HBW.out) yit.line hm2;have HGL0:Hid (gl<w3.heap.size):=hid (by
    obtain ⟨gl2,h2,h3,_⟩:=HR.out yit.line hm2;rw [hgl0] at h2;injection h2 with h2
    injection h2 with h2
    have:=HB0.out.size
    omega)
   have HWF:=hid (wf_ins hm3);obtain ⟨kk,hkk⟩:∃ k,kindP p yit=k:=⟨_,rfl⟩;have HKK:=hid hkk;rw [hkk] at KQ;have hl1:(0:Int)≤(yit.line:Int):=by omega
   have hl2:(yit.line:Int)<(PX.length:Int):=by omega
   subst hga hgl0;generalize PX[yit.line].name=nm at *;obtain ⟨yc0,yc1,yc2,yc3,yc4,yc5,yc6⟩:=yit;dsimp only at *;unfold itA at KQ;dsimp only at KQ;obtain ⟨wy,hwy⟩:∃ W,wr.alloc (.cells #[.int .i64 yo,.int .i64 yc0,.int .i64 yc1,.int .i64 (yc2:Int),.bool yc3,.slice ya yn yc,.int .i64 yc5,.bool yc6] 42)=W:=⟨_,rfl⟩;have HP:Hid (wy.heap[wr.heap.size]?=some (.cells #[.int .i64 yo,.int .i64 yc0,.int .i64 yc1,.int .i64 (yc2:Int),.bool yc3,.slice ya yn yc,.int .i64 yc5,.bool yc6] 42 (0,0))):=hid (by rw [← hwy];exact heap_alloc_new wr _);have BY:Hid (Below wr.heap.size wr wy):=hid (hwy▸(Below.refl _ _).alloc (Nat.le_refl _) _);have HWY:=hid hwy;have HNC:Hid (wy.cell? ⟨gl,yc2*4+1,none⟩=some (.string nm)):=hid ((BY.out.cell (p:=⟨gl,_,none⟩) hgl).trans cnm);have hglz:gl<wy.heap.size:=by have:=BY.out.size;omega
   clear hwy CE d0 d1 d2 d3 d4 d5 d6 d7 hMq hkk cnm;go_upto_region 6 with fail;rw [HWY.out];clear c0 c1 c2 c3 c4 c5 c6 c7 HWY hg;have hp:=blk HP.out;have p1:=hp.1 1 _ rfl;have p2:=hp.1 2 _ rfl;have p3:=hp.1 3 _ rfl;have p4:=hp.1 4 _ rfl;have p5:=hp.1 5 _ rfl;have p6:=hp.1 6 _ rfl;have p7:=hp.1 7 _ rfl;clear hp;have HBY:Hid (Below w.heap.size w wy):=hid (HBW.out.trans (BY.out.mono (by have h:=HBZ.out.size;have:=HZ0.out;omega)));go_wp2_with fail;refine (KQ.out _ HBY.out).mono ?_;rintro e w4 ⟨rfl,b4⟩;have B4:Hid (Below wr.heap.size wr w4):=hid (BY.out.trans (b4.mono BY.out.size));have HP4:=hid ((b4.block _ (blk HP.out).2.2).trans HP.out);have HNC4:=hid ((b4.cell (p:=⟨gl,yc2*4+1,none⟩) hglz).trans HNC.out);have O74:=hid (owns3_below HO7.out B4.out);have O84:=hid (owns3_below HO8.out B4.out);have z4:=B4.out.size;have HLT8:Hid (∀ k,u8.ownBlock=some k→w3.heap.size≤k∧k<wr.heap.size):=hid (fun k hk=>HO8.out.lt k hk);have HGL:Hid (gl<w3.heap.size):=HGL0;clear b4 p1 p2 p3 p4 p5 p6 p7 KQ HBY HNC HP BY HO7 HO8 hgl;have hz8:∀ k,u8.ownBlock=some k→w3.heap.size≤k∧k<wr.heap.size:=fun k hk=>HLT8.out k hk
   have KP:Hid (∀ W,Below w4.heap.size w4 W→W.cell? ⟨wr.heap.size,0,none⟩=some (.int .i64 yo)∧W.cell? ⟨wr.heap.size,3,none⟩=some (.int .i64 (yc2:Int))∧W.cell? ⟨gl,yc2*4+1,none⟩=some (.string nm)):=hid (fun W hb=>by
    have h:=(hb.block _ (blk HP4.out).2.2).trans HP4.out;exact ⟨(blk h).1 0 _ rfl,(blk h).1 3 _ rfl,(hb.cell (p:=⟨gl,_,none⟩) (by show gl<w4.heap.size;have:=HGL.out;omega)).trans HNC4.out⟩)
   have KG:Hid (∀ W W',Below w4.heap.size w4 W→W.grownBy W' u8.ownBlock→W'.cell? ⟨wr.heap.size,0,none⟩=some (.int .i64 yo)∧W'.cell? ⟨wr.heap.size,3,none⟩=some (.int .i64 (yc2:Int))∧W'.cell? ⟨gl,yc2*4+1,none⟩=some (.string nm)):=hid (fun W W' hb hg=>by
    obtain ⟨q1,q2,q3⟩:=KP.out W hb;have hzW:=hb.size;have e1:=hg.block wr.heap.size (by have:=(blk HP4.out).2.2;omega) (fun e=>by have:=(HLT8.out _ e.symm).2;omega);have e2:=hg.block gl (by have:=HGL.out;omega) (fun e=>by have:=(HLT8.out _ e.symm).1;have:=HGL.out;omega);exact ⟨(World.cell?_of_block (a:=⟨wr.heap.size,0,none⟩) e1).trans q1,(World.cell?_of_block (a:=⟨wr.heap.size,3,none⟩) e1).trans q2,(World.cell?_of_block (a:=⟨gl,yc2*4+1,none⟩) e2).trans q3⟩)
   have hC5:=IQ.out.len;have hS5:=IQ.out.cnt;have hne5:=IQ.out.ne;have hSt5:=hid IQ1.out.st;have hCn:=IQ1.out.len;have hSn:=IQ1.out.ne (by omega);have hSc:=IQ1.out.cnt;rw [SQ.out] at hSt5 hCn hSn hSc;obtain ⟨C,hC⟩:∃ c,(asmF p M q).1=c:=⟨_,rfl⟩;obtain ⟨S,hS⟩:∃ c,(asmF p M q).2=c:=⟨_,rfl⟩;obtain ⟨S',hS'⟩:∃ c,asmK p S (yo,(⟨yc0,yc1,yc2,yc3,yc4,yc5,yc6⟩:ItL))=c:=⟨_,rfl⟩;have SQ2:Hid (asmF p M (q+1)=(C++encL ⟨yc0,yc1⟩,asmZ S' (C++encL ⟨yc0,yc1⟩).length)):=hid (by rw [SQ.out];unfold asmS;rw [hC,hS,hS']);have hS1:0<S'.length:=by
    have h:0<(asmZ (asmK p (asmF p M q).2 _) _).length:=hSn;rw [asmZ_len,hS,hS'] at h;exact h
   have hSc':S'.length≤q+1:=by
    have h:(asmZ (asmK p (asmF p M q).2 _) _).length≤q+1:=hSc;rw [asmZ_len,hS,hS'] at h;exact h
   have hK1:Hid (kk=1→S'=S++[⟨nm,yo,0⟩]):=hid (fun h=>by
    rw [← hS'];unfold asmK;rw [if_pos (HKK.out.trans h)]
    show S++[⟨nameAt p yc2,yo,0⟩]=_
    rw [HNM.out])
   have hK0:Hid (kk≠1→S'=S):=hid (fun h=>by
    rw [← hS'];unfold asmK;rw [if_neg (fun e=>h (HKK.out.symm.trans e))])
   have hSTT:Hid (∀ x ∈ S',0≤x.start∧x.start≤100000):=hid (fun x hx=>by
    by_cases h:kk=1
    ·rw [hK1.out h] at hx
     rcases List.mem_append.1 hx with hx|hx
     ·rw [← hS] at hx;exact IQ.out.st x hx
     ·rw [List.mem_singleton] at hx;rw [hx];exact hm1
    ·rw [hK0.out h,← hS] at hx;exact IQ.out.st x hx)
   rw [hC] at O74 hC5;rw [hS] at O84 hS5 hne5;have hCn2:C.length+(encL ⟨yc0,yc1⟩).length≤5*(q+1):=by
    have h:(C++encL ⟨yc0,yc1⟩).length≤5*(q+1):=by rw [← hC];exact hCn
    rwa [List.length_append] at h
   clear SQ IQ IQ1 hC hS hS' hSt5 hCn hSn hSc HKK HNM hz8
   go_upto_if 25 with fail
   go_cut [8] (fun v wx=>∃ gg cc,v=.slice (some ⟨gg,0,none⟩) S'.length cc∧gg<wr.heap.size+wx.heap.size∧Hid (wx.ownsRow w3.heap.size 94 3 (.slice (some ⟨gg,0,none⟩) S'.length cc) S'.length (sysV S'))∧Hid (wx.ownsRow w3.heap.size 5 1 u7 C.length (Lib.byteCells C))∧Hid (Below w3.heap.size w3 wx)∧Hid (wx.heap[wr.heap.size]?=some (.cells #[.int .i64 yo,.int .i64 yc0,.int .i64 yc1,.int .i64 (yc2:Int),.bool yc3,.slice ya yn yc,.int .i64 yc5,.bool yc6] 42 (0,0))))
   case first =>
    by_cases hk:kk=1
    ·have HK:=hid (hK1.out hk)
     subst hk;have h63:S.length+1≤maxLen:=by unfold maxLen;omega
     have hby:(S.length+1)*32≤140737488355328:=by omega
     have hbs:w3.heap.size≤w4.heap.size+1:=by omega
     go_wp2_with fail
     go_region_held3 (fun W=>W.cell? ⟨wr.heap.size,0,none⟩=some (.int .i64 yo)∧W.cell? ⟨wr.heap.size,3,none⟩=some (.int .i64 (yc2:Int))∧W.cell? ⟨gl,yc2*4+1,none⟩=some (.string nm)) (first|exact KP.out _ (Below.refl w4.heap.size w4).drew|exact KP.out _ ((Below.refl w4.heap.size w4).alloc (Nat.le_refl _) _).drew|exact KP.out _ ((Below.refl w4.heap.size w4).drew.alloc (Nat.le_refl _) _)|exact KG.out _ _ ((Below.refl w4.heap.size w4).alloc (Nat.le_refl _) _).drew hgrow|exact KG.out _ _ ((Below.refl w4.heap.size w4).drew.alloc (Nat.le_refl _) _) hgrow) (first
      | (refine step_append_lies _ ?_ (.tmp 26) (.tmp 37) 30 ?_ w3.heap.size 94 i0 _ 3 32 Tryz.underlying30 hi hz0 hz1 hz2 rfl (by decide) u8 _ _ ?_ ((O84.out.alloc _).drew) ⟨w4.heap.size,0,none⟩ 1 1 [.string nm,.int .i64 yo,.int .i64 0] ?_ rfl ?_ (by intro x hx;simp at hx;rcases hx with rfl|rfl|rfl <;> rfl) (by decide) h63 hby ?_ (w4.heap.size+1) ?_ ?_;rfl;rfl;rfl;rfl;exact World.news_of_block (cs:=#[.string nm,.int .i64 yo,.int .i64 0]) (t:=94) (fr:=(0,0)) (heap_alloc_new w4 _);(simp;exact hbs);simp;intro gg cap w5 hown5 hgrow hat hltg))
     all_goals
      have O9:Hid (w5.ownsRow w3.heap.size 94 3 (.slice (some ⟨gg,0,none⟩) S'.length cap) S'.length (sysV S')):=hid (by rw [HK.out,List.length_append,sysV_append,sysV_one];exact hown5);have GW:Hid ((w4.alloc (.cells #[.string nm,.int .i64 yo,.int .i64 0] 94)).drew.grownBy w5 u8.ownBlock):=hid hgrow;have HBX:Hid (Below w3.heap.size w3 w5):=hid (((HB.out.trans (B4.out.mono hzr)).alloc (by omega) _).drew.grown GW.out (by simp;omega) (fun k hk=>(HLT8.out k hk).1));have O75:Hid (w5.ownsRow w3.heap.size 5 1 u7 C.length (Lib.byteCells C)):=hid (owns_apart ((O74.out.alloc _).drew) ((O84.out.alloc _).drew) GW.out (by decide));have HP5:Hid (w5.heap[wr.heap.size]?=some (.cells #[.int .i64 yo,.int .i64 yc0,.int .i64 yc1,.int .i64 (yc2:Int),.bool yc3,.slice ya yn yc,.int .i64 yc5,.bool yc6] 42 (0,0))):=hid ((GW.out.block wr.heap.size (by simp;have:=(blk HP4.out).2.2;omega) (fun e=>by have:=(HLT8.out _ e.symm).2;omega)).trans ((Below.heap_alloc w4 _ _ (blk HP4.out).2.2).trans HP4.out));have HSL:Hid (S'.length=S.length+1):=hid (by rw [HK.out];simp);clear hown5 hgrow hat;go_wp2_with fail;go_meet;exact ⟨gg,cap,by rw [HSL.out],by omega,O9,O75,HBX,HP5⟩
    ·have HK:=hid (hK0.out hk)
     have hbe:(kk == 1)=false:=beq_eq_false_iff_ne.2 hk;have O9:=O84.out;obtain ⟨gg,cc,hv8,hgg,_⟩:=row_some O9 (by rw [← HK.out];exact hS1);subst hv8;have O10:Hid (w4.ownsRow w3.heap.size 94 3 (.slice (some ⟨gg,0,none⟩) S'.length cc) S'.length (sysV S')):=hid (by rw [HK.out];exact O9);have HSL:Hid (S.length=S'.length):=hid (by rw [HK.out]);have HBX:Hid (Below w3.heap.size w3 w4):=hid (HB.out.trans (B4.out.mono hzr));clear O9;go_wp2_with fail;go_meet;exact ⟨gg,cc,by rw [HSL.out],by omega,O10,O74,HBX,HP4⟩
   case rest =>
    rename World=>w5
    obtain ⟨gg,cc,rfl,_,O85,O75,HB5,HP5⟩:=hcut;have hz5:=HB5.out.size;have p1:=(blk HP5.out).1 1 _ rfl;have p2:=(blk HP5.out).1 2 _ rfl;have ENQ:=hid (EN.out w5 yc0 yc1 HWF.out);obtain ⟨E,hE⟩:∃ l,encL ⟨yc0,yc1⟩=l:=⟨_,rfl⟩;rw [hE] at ENQ SQ2 hCn2;clear hE;go_wp2_with fail;refine ENQ.out.mono ?_;rintro e w6 ⟨rfl,b6⟩;have HB6:Hid (Below w3.heap.size w3 w6):=hid (HB5.out.trans (b6.mono hz5));have O86:=hid (owns3_below O85.out b6);have O76:=owns3_below O75.out b6;have hz6:w3.heap.size≤w6.heap.size:=HB6.out.size;have hsz:(⟨E.toArray⟩:ByteArray).size=E.length:=by simp [ByteArray.size]
    have h63:C.length+(⟨E.toArray⟩:ByteArray).size≤maxLen:=by rw [hsz];unfold maxLen;omega
    have hby:C.length+(⟨E.toArray⟩:ByteArray).size≤140737488355328:=by rw [hsz];omega
    have HSZ:=hid hsz;clear b6 p1 p2 ENQ HP5 O85 O75 HB5 hz5 HP4 O74 O84 HNC4 KP KG hsz;go_wp2_with (at_builtin;refine Lib.wpList_append_own_string _ rfl _ _ 22 9 rfl w3.heap.size 5 u0 Tryz.underlying22 Tryz.underlying9 hu uz0 uz1 uz2 _ _ _ rfl O76 ⟨E.toArray⟩ rfl h63 hby hz6 ?_)
    intro v7 w7 hown7 hgrow _;have O77:Hid (w7.ownsRow w3.heap.size 5 1 v7 (C++E).length (Lib.byteCells (C++E))):=hid (by
     rw [List.length_append,Lib.byteCells_append,← HSZ.out];exact hown7)
    have O87:=hid (owns_apart O86.out O76 hgrow (by decide));have HB7:Hid (Below w3.heap.size w3 w7):=hid (HB6.out.grown hgrow hz6 (fun k hk=>(O76.lt k hk).1));obtain ⟨m,hm⟩:∃ m,S'.length=m+1:=⟨S'.length - 1,by omega⟩;have hmS:m<S'.length:=by omega
    have hst:=hSTT.out S'[m] (List.getElem_mem hmS);have cs1a:=O87.out.cellAt (m*3+1) (by omega);have cs2a:=O87.out.cellAt (m*3+2) (by omega);rw [sysV_get S' m 1 hmS (by omega)] at cs1a;rw [sysV_get S' m 2 hmS (by omega)] at cs2a;have cs1:w7.cell? ⟨gg,m*3+1,none⟩=some (.int .i64 S'[m].start):=cs1a;have cs2:w7.cell? ⟨gg,m*3+2,none⟩=some (.int .i64 S'[m].size):=cs2a;have fr:=O87.out.frozenAt;have ST:=O87.out.stored (m*3+2) (.int .i64 (((C++E).length:Int) - S'[m].start));have HST1:Hid ((w7.setCell ⟨gg,m*3+2,none⟩ (.int .i64 (((C++E).length:Int) - S'[m].start))).ownsRow w3.heap.size 94 3 (.slice (some ⟨gg,0,none⟩) S'.length cc) (asmZ S' (C++E).length).length (sysV (asmZ S' (C++E).length))):=hid (by
     rw [asmZ_len,asmZ_set S' m _ hm hmS,← sysV_size S' m hmS];exact ST.1)
    have HST2:=hid ST.2;have HO7N:=hid (owns_apart O77.out O87.out ST.2 (by decide));have HBN:Hid (Below w3.heap.size w3 (w7.setCell ⟨gg,m*3+2,none⟩ (.int .i64 (((C++E).length:Int) - S'[m].start)))):=hid (HB7.out.grown ST.2 HB7.out.size (fun k hk=>(O87.out.lt k hk).1));obtain ⟨n7,hn7⟩:∃ n,(C++E).length=n:=⟨_,rfl⟩;have hn7b:n7≤90000:=by rw [← hn7,List.length_append];omega
    have HN7:=hid hn7;obtain ⟨a7,c7,rfl⟩:=owns_shape O77.out;rw [hn7] at HST1 HO7N HBN O77 SQ2 HST2 ⊢;generalize S'[m].start=st at *;have hwsub:IntKind.i64.wrap ((n7:Int) - st)=(n7:Int) - st:=IntWalk.i64_in _ (by omega);have m0:(0:Int)≤(m:Int):=by omega
    have m1:(m:Int)<((m+1:Nat):Int):=by omega
    have hmb:m≤20000:=by omega
    have hwm:wrap64 (m:Int)=(m:Int):=by unfold wrap64;omega
    have HMM:=hid hm;rw [hm];have REL:Hid (Hid ((w7.setCell ⟨gg,m*3+2,none⟩ (.int .i64 ((n7:Int) - st))).ownsRow w3.heap.size 5 1 (.slice a7 n7 c7) (asmF p M (q+1)).1.length (Lib.byteCells (asmF p M (q+1)).1))∧Hid ((w7.setCell ⟨gg,m*3+2,none⟩ (.int .i64 ((n7:Int) - st))).ownsRow w3.heap.size 94 3 (.slice (some ⟨gg,0,none⟩) (m+1) cc) (asmF p M (q+1)).2.length (sysV (asmF p M (q+1)).2))):=hid (by
     rw [SQ2.out];refine ⟨hid ?_,hid ?_⟩
     ·show World.ownsRow _ _ _ _ _ (C++E).length _
      rw [HN7.out];exact HO7N.out
     ·rw [← HMM.out];exact HST1.out)
    clear cs1a cs2a hn7 hm ST HST1 HST2 HO7N O77 O87 O86 O76 hown7 hgrow h63 hby HSZ SQ2 hst hSTT hK0 hK1 hCn2 hn7b hmb HB7 HB6 hSc' hS1;go_wp2_with fail;go_roundw
    case rel=>exact ⟨q+1,by omega,by go_num,REL.out.1,REL.out.2,HBN⟩
    case measure=>simp [RowKit.intOf];omega
  ·have hqq:q=M.length:=by omega
   subst hqq;have k1:¬ ((M.length:Nat):Int)<((M.length:Nat):Int):=by omega
   have O7F:=HO7.out;have O8F:=hid HO8.out;rw [FIN.out] at O7F O8F;have hcv:=conv_own (P:=Tryz.prog) wr w3.heap.size 22 9 5 _ RC Tryz.underlying22 Tryz.underlying5 Tryz.underlying9 O7F;have hr:=(HC.out wr HBZ.out).1;obtain ⟨a8,c8,h8⟩:=owns3_shape O8F.out;subst h8;have r0:wr.cell? ⟨w.heap.size+1,0,none⟩=some (.string ⟨#[]⟩):=(blk hr).1 0 _ rfl;have r1:wr.cell? ⟨w.heap.size+1,1,none⟩=some (.slice none 0 0):=(blk hr).1 1 _ rfl;have f0:=(blk hr).2.1 0;have f1:=(blk hr).2.1 1;have hw2:w.heap.size+2≤w3.heap.size:=by have:=HZ0.out;omega
   clear O7F HO7 HO8 hr;go_wp2;refine bodyPost_ret (v:=.agg #[.string ⟨RC.toArray⟩,.slice a8 RS.length c8]) (by simp [results,Tryz.results12,go_sem,r0,r1]) rfl ⟨.slice a8 RS.length c8,rfl,?_,(HBW.out.setCell (by simp) _).setCell (by simp) _⟩;exact owns_lo (owns_set (owns_set O8F.out (by omega)) (by omega)) (by omega)
end Go.Proofs.YtcflojdkaddemaaGreatDoor

namespace Go.Proofs.YtcflojdkaddemaaGreatDoor
open Go.RowKit Go.Lib
theorem s_in7n (x lo hi:Int) (w:World):Calls Tryz.prog 92 #[.int .i64 x,.int .i64 lo,.int .i64 hi] w fun e w'=>e=.returned (.bool (decide (lo≤x)&&decide (x≤hi)))∧w=w':=by
 by_cases h1:lo≤x <;> by_cases h2:x≤hi
 all_goals
  go_enter Tryz.func92,Tryz.ntmps92
  go_wp2;go_ret;exact ⟨ret_b (by simp [h1,h2]),rfl⟩
theorem s_name7n (s:ByteArray) (w:World) (hm:s.size≤maxLen):Calls Tryz.prog 108 #[.string s] w fun e w'=>e=.returned (.bool (nameB s))∧w=w':=by
 unfold maxLen at hm
 go_enter Tryz.func108,Tryz.ntmps108
 go_wp2_with fail
 go_loop [3] (fun i=>∃ k:Nat,k≤s.size∧i=.int .i64 (k:Int)∧(s.data.toList.take k).all lowB=true) (fun i=>s.size - (intOf i).toNat)
 case atStart=>exact ⟨0,Nat.zero_le _,rfl,rfl⟩
 case round =>
  obtain ⟨k,hk,rfl,ha⟩:=hrel;have HA:=hid ha;clear ha
  by_cases hlt:k<s.size
  ·have hp:s[k].toNat<256:=s[k].toNat_lt
   by_cases hbad:s[k].toNat<97∨122<s[k].toNat
   ·have hr:=hid (nameB_bad s k hlt hbad)
    go_wp2_with fail
    all_goals go_ret
    all_goals exact ⟨ret_b hr.out.symm,rfl⟩
   ·have h1:97≤s[k].toNat:=by omega
    have h2:s[k].toNat≤122:=by omega
    have HN:=hid (low_next s k hlt HA.out h1 h2);clear hbad;go_wp2
    go_round
    case rel=>exact ⟨k+1,by omega,by go_num,HN.out⟩
    case measure=>simp [intOf];omega
  ·have hkk:k=s.size:=by omega
   have hr:=hid (nameB_all s (by have:=HA.out;rw [hkk] at this;exact this));clear hkk;go_wp2_with (first|(go_at_call 92;refine (s_in7n _ _ _ _).mono ?_;rintro e w' ⟨rfl,rfl⟩))
   go_ret;exact ⟨ret_b (by rw [hr.out];congr 1 <;> (rw [decide_eq_decide];omega)),rfl⟩
theorem i_name7n (s:ByteArray) (w:World) (hm:s.size≤maxLen):Calls Tryz.prog 68 #[.string s] w fun e w'=>e=.returned (.bool (nameB s))∧w=w':=by
 unfold maxLen at hm
 by_cases hs0:s.size<1
 ·have hr:=hid (nameB_short s (by omega))
  go_enter Tryz.func68,Tryz.ntmps68
  go_wp2;go_ret;exact ⟨ret_b hr.out.symm,rfl⟩
 by_cases hs1:8<s.size
 ·have hr:=hid (nameB_long s hs1)
  go_enter Tryz.func68,Tryz.ntmps68
  go_wp2;go_ret;exact ⟨ret_b hr.out.symm,rfl⟩
 go_enter Tryz.func68,Tryz.ntmps68
 go_wp2_with fail
 go_loop [14] (fun i=>∃ k:Nat,k≤s.size∧i=.int .i64 (k:Int)∧(s.data.toList.take k).all lowB=true) (fun i=>s.size - (intOf i).toNat)
 case atStart=>exact ⟨0,Nat.zero_le _,rfl,rfl⟩
 case round =>
  obtain ⟨k,hk,rfl,ha⟩:=hrel;have HA:=hid ha;clear ha
  by_cases hlt:k<s.size
  ·have hp:s[k].toNat<256:=s[k].toNat_lt
   by_cases hbad:s[k].toNat<97∨122<s[k].toNat
   ·have hr:=hid (nameB_bad s k hlt hbad)
    go_wp2_with fail
    all_goals go_ret
    all_goals exact ⟨ret_b hr.out.symm,rfl⟩
   ·have h1:97≤s[k].toNat:=by omega
    have h2:s[k].toNat≤122:=by omega
    have HN:=hid (low_next s k hlt HA.out h1 h2);clear hbad;go_wp2
    go_round
    case rel=>exact ⟨k+1,by omega,by go_num,HN.out⟩
    case measure=>simp [intOf];omega
  ·have hkk:k=s.size:=by omega
   have hr:=hid (nameB_good s (by omega) (by omega) (by have:=HA.out;rw [hkk] at this;exact this));clear hkk;go_wp2;go_ret;exact ⟨ret_b hr.out.symm,rfl⟩
end Go.Proofs.YtcflojdkaddemaaGreatDoor

namespace Go.Proofs.YtcflojdkaddemaaGreatDoor
open Go.RowKit Go.Lib
def decV:Option (OpL×Nat)→Value
 | none=>.tuple #[.agg #[.int .i64 0,.int .i64 0],.int .i64 0,.bool false]
 | some (x,n)=>.tuple #[.agg #[.int .i64 x.code,.int .i64 x.arg],.int .i64 (n:Int),.bool true]
theorem decZ_neg (l:List UInt8) (a:Int) (h:a<0):decZ l a=none:=by unfold decZ;rw [if_pos h]
theorem decZ_far (l:List UInt8) (a:Int) (h:(l.length:Int)≤a):decZ l a=none:=by
 unfold decZ;rw [if_neg (by omega),List.drop_of_length_le (by omega)];rfl
theorem decZ_in (l:List UInt8) (i:Nat) (h:i<l.length):decZ l (i:Int) =
  if (l[i].toNat:Int)≤17∧widN (l[i].toNat:Int)≤(l.drop (i+1)).length then some (⟨(l[i].toNat:Int),sgnV (l[i].toNat:Int) (valB ((l.drop (i+1)).take (widN (l[i].toNat:Int))))⟩,1+widN (l[i].toNat:Int)) else none:=by
 unfold decZ;rw [if_neg (by omega),Int.toNat_natCast,List.drop_eq_getElem_cons h];rfl
theorem sizZ_zero (c:Int) (h0:0≤c):sizZ c=0↔17<c:=by
 unfold sizZ codeB
 constructor
 ·intro h
  by_cases hc:c≤17
  ·rw [decide_eq_true h0,decide_eq_true hc,if_pos (by decide)] at h;omega
  ·omega
 ·intro h
  rw [decide_eq_false (show ¬ c≤17 by omega),Bool.and_false,if_neg (by simp)]
theorem sizZ_code (c:Int) (h0:0≤c) (h1:c≤17):sizZ c=1+(widN c:Int):=by
 unfold sizZ codeB;rw [decide_eq_true h0,decide_eq_true h1,if_pos (by decide)]
theorem next_byte (l:List UInt8) (i k:Nat) (hk:k<4) (h:i+1+k<l.length) :
  wrap64 ((l[i+1+k].toNat:Int)*2 ^ (8*k))=((l[i+1+k].toNat*256 ^ k:Nat):Int) ∧
  wrap64 ((valB ((l.drop (i+1)).take k):Int)+((l[i+1+k].toNat*256 ^ k:Nat):Int))=(valB ((l.drop (i+1)).take (k+1)):Int)∧valB ((l.drop (i+1)).take k)<4294967296:=by
 have e:(2:Int) ^ (8*k)=((256 ^ k:Nat):Int):=by rw [Int.pow_mul,Int.natCast_pow];rfl
 have hd:k<(l.drop (i+1)).length:=by rw [List.length_drop];omega
 have ht:=valB_take (l.drop (i+1)) k hd;have hg:(l.drop (i+1))[k]=l[i+1+k]:=by simp
 rw [hg] at ht;have hv:=valB_lt ((l.drop (i+1)).take k);rw [List.length_take,show min k (l.drop (i+1)).length=k from by omega] at hv;have hb:=l[i+1+k].toNat_lt;have h4:256 ^ k*256≤4294967296:=by
  have:=Nat.pow_le_pow_right (show 0<256 by decide) (show k+1≤4 by omega)
  rw [Nat.pow_succ] at this;exact Nat.le_trans this (by decide)
 have hb2:l[i+1+k].toNat*256 ^ k≤255*256 ^ k:=Nat.mul_le_mul_right _ (by omega);rw [e,← Int.natCast_mul];obtain ⟨P,hP⟩:∃ P,l[i+1+k].toNat*256 ^ k=P:=⟨_,rfl⟩;rw [hP] at ht hb2 ⊢;unfold wrap64;refine ⟨?_,?_,?_⟩ <;> omega
end Go.Proofs.YtcflojdkaddemaaGreatDoor
