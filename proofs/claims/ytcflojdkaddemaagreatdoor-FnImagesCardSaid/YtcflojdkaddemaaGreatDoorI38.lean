/- Parts of the proof. -/
import Derived.Test.YtcflojdkaddemaaGreatDoorI37
import Derived.Test.YtcflojdkaddemaaGreatDoorI26
namespace Go.Proofs.YtcflojdkaddemaaGreatDoor
open Go.RowKit Go.Lib
def DrawBl (T:TypeId) (c:Nat) (a:Option Addr) (len cap:Nat) (z:List Int) (w:World) (e:Ending) (w':World):Prop :=
 ∃ (fm:Int) (inl:Nat) (fo sp:Bool),e=.returned (.agg #[.int .i64 fm,.int .i64 (inl:Int),.bool fo,.bool sp])∧0≤fm∧fm≤63∧inl≤3∧CurAt T w' c a len cap z∧w.grownBy w' (some c)
set_option maxRecDepth 100000 in
set_option maxHeartbeats 2000000 in
theorem d_bld (c:Nat) (a:Option Addr) (len cap:Nat) (z:List Int) (w:World) (H:CurAt 145 w c a len cap z) :
  Calls Tryz.prog 50 #[.pointer (some ⟨c,0,none⟩)] w (DrawBl 145 c a len cap z w):=by
 have hc:=H.lt;have K0:=hid (H.alloc (.cells #[.int .i64 0,.int .i64 0,.bool false,.bool false] 26));have G0:=hid (grown_alloc' w (.cells #[.int .i64 0,.int .i64 0,.bool false,.bool false] 26) (some c));have R0:=hid (heap_alloc_new w (.cells #[.int .i64 0,.int .i64 0,.bool false,.bool false] 26));clear H
 go_enter Tryz.func50,Tryz.ntmps50
 go_wp2_with fail;refine (d_below c a len cap z 64 _ K0.out (by omega) (by omega)).mono ?_;rintro e w1 ⟨x,x0,x1,rfl,H1,g1⟩;have G1:=hid (World.grownBy.trans G0.out g1);have R1:Hid (w1.heap[w.heap.size]?=some (.cells #[.int .i64 0,.int .i64 0,.bool false,.bool false] 26 (0,0))):=hid ((g1.block w.heap.size (by simp) (by intro e;injection e;omega)).trans R0.out);have z1:w.heap.size<w1.heap.size:=(blk R1.out).2.2;have K1:=hid (H1.alloc (.cells #[.int .i64 0,.int .i64 1,.int .i64 2,.int .i64 3] 3));have G2:=hid (grown_alloc G1.out (.cells #[.int .i64 0,.int .i64 1,.int .i64 2,.int .i64 3] 3));have R2:=hid ((Below.heap_alloc w1 (.cells #[.int .i64 0,.int .i64 1,.int .i64 2,.int .i64 3] 3) _ z1).trans R1.out);have HC1:=H1.lt;clear H1 g1;go_wp2_with fail;refine (d_pickint c a len cap z w1.heap.size 4 [0,1,2,3] 0 3 _ K1.out rfl (by omega) (by omega) (heap_alloc_new w1 _) (by omega) (by intro x hx;simp at hx;omega)).mono ?_;rintro e w2 ⟨y,y0,y1,rfl,H2,g2⟩;have G3:=hid (World.grownBy.trans G2.out g2);have R3:=hid ((g2.block w.heap.size (by simp;omega) (by intro e;injection e;omega)).trans R2.out);have K2:=hid (H2.alloc (.cells #[.int .i64 x,.int .i64 y,.bool false,.bool false] 26));have G4:=hid (grown_alloc G3.out (.cells #[.int .i64 x,.int .i64 y,.bool false,.bool false] 26));have P4:=hid (heap_alloc_new w2 (.cells #[.int .i64 x,.int .i64 y,.bool false,.bool false] 26));have z3:w.heap.size<w2.heap.size:=(blk R3.out).2.2;have R4:=hid ((Below.heap_alloc w2 (.cells #[.int .i64 x,.int .i64 y,.bool false,.bool false] 26) _ z3).trans R3.out);have HC2:=H2.lt;obtain ⟨inl,rfl⟩:=Int.eq_ofNat_of_zero_le y0;clear H2 g2;go_wp2_with fail;refine (d_once c a len cap z 2 _ K2.out (by omega) (by omega)).mono ?_;rintro e w3 ⟨fo,rfl,H3,g3⟩;have G5:=hid (World.grownBy.trans G4.out g3);have P5:=hid ((g3.block w2.heap.size (by simp) (by intro e;injection e;omega)).trans P4.out);have R5:=hid ((g3.block w.heap.size (by simp;omega) (by intro e;injection e;omega)).trans R4.out);have d1:=(blk P5.out).1 2 _ rfl;have f1:=(blk P5.out).2.1 2;have K6:=hid (H3.kept (grown_setCell w3 w2.heap.size 2 (.bool fo)) (fun k e=>by cases e;omega));have G6:=hid (grown_new G5.out (grown_setCell w3 w2.heap.size 2 (.bool fo)) (fun g e=>by cases e;omega));have P6:=hid (heap_setCell_at P5.out (.bool fo) (j:=2));have R6:=hid ((set_other (v:=.bool fo) (j:=2) (show w.heap.size≠w2.heap.size by omega)).trans R5.out);clear H3 g3;go_wp2_with fail;refine (d_once c a len cap z 2 _ K6.out (by omega) (by omega)).mono ?_;rintro e w4 ⟨sp,rfl,H4,g4⟩;have G7:=hid (World.grownBy.trans G6.out g4);have hz2:w2.heap.size<w3.heap.size:=(blk P5.out).2.2;have P7:=hid ((g4.block w2.heap.size (by simp [World.setCell];omega) (by intro e;injection e;omega)).trans P6.out);have R7:=hid ((g4.block w.heap.size (by simp [World.setCell];omega) (by intro e;injection e;omega)).trans R6.out);have d2:=(blk P7.out).1 3 _ rfl;have f2:=(blk P7.out).2.1 3;have K8:=hid (H4.kept (grown_setCell w4 w2.heap.size 3 (.bool sp)) (fun k e=>by cases e;omega));have G8:=hid (grown_new G7.out (grown_setCell w4 w2.heap.size 3 (.bool sp)) (fun g e=>by cases e;omega));have P8:=hid (heap_setCell_at P7.out (.bool sp) (j:=3));have R8:=hid ((set_other (v:=.bool sp) (j:=3) (show w.heap.size≠w2.heap.size by omega)).trans R7.out);clear H4 g4;obtain ⟨W5,hW5⟩:∃ W,w4.setCell ⟨w2.heap.size,3,none⟩ (.bool sp)=W:=⟨_,rfl⟩;rw [hW5] at K8 G8 P8 R8;have HW5:=hid hW5;clear hW5 d1 f1;go_upto_region 4 with fail;rw [HW5.out];clear d2 f2 HW5;have e0:W5.cell? ⟨w2.heap.size,0,none⟩=some (.int .i64 x):=(blk P8.out).1 0 _ rfl;have e1:W5.cell? ⟨w2.heap.size,1,none⟩=some (.int .i64 (inl:Int)):=(blk P8.out).1 1 _ rfl;have e2:W5.cell? ⟨w2.heap.size,2,none⟩=some (.bool fo):=(blk P8.out).1 2 _ rfl;have e3:W5.cell? ⟨w2.heap.size,3,none⟩=some (.bool sp):=(blk P8.out).1 3 _ rfl;have g0:W5.cell? ⟨w.heap.size,0,none⟩=some (.int .i64 0):=(blk R8.out).1 0 _ rfl;have g1:W5.cell? ⟨w.heap.size,1,none⟩=some (.int .i64 0):=(blk R8.out).1 1 _ rfl;have g2:W5.cell? ⟨w.heap.size,2,none⟩=some (.bool false):=(blk R8.out).1 2 _ rfl;have g3:W5.cell? ⟨w.heap.size,3,none⟩=some (.bool false):=(blk R8.out).1 3 _ rfl;have p0:=(blk R8.out).2.1 0;have p1:=(blk R8.out).2.1 1;have p2:=(blk R8.out).2.1 2;have p3:=(blk R8.out).2.1 3;go_wp2_with fail;refine bodyPost_ret (v:=.agg #[.int .i64 x,.int .i64 (inl:Int),.bool fo,.bool sp]) (by simp [results,Tryz.results50,go_sem,g0,g1,g2,g3]) rfl ?_;refine ⟨x,inl,fo,sp,rfl,x0,by omega,by omega,?_,?_⟩
 ·exact (((K8.out.kept (grown_setCell _ w.heap.size 0 _) (fun k e=>by cases e;exact hc)).kept (grown_setCell _ w.heap.size 1 _) (fun k e=>by cases e;exact hc)).kept (grown_setCell _ w.heap.size 2 _) (fun k e=>by cases e;exact hc)).kept (grown_setCell _ w.heap.size 3 _) (fun k e=>by cases e;exact hc)
 ·exact grown_new (grown_new (grown_new (grown_new G8.out (grown_setCell _ w.heap.size 0 _) (fun g e=>by cases e;exact Nat.le_refl _)) (grown_setCell _ w.heap.size 1 _) (fun g e=>by cases e;exact Nat.le_refl _)) (grown_setCell _ w.heap.size 2 _) (fun g e=>by cases e;exact Nat.le_refl _)) (grown_setCell _ w.heap.size 3 _) (fun g e=>by cases e;exact Nat.le_refl _)
def DrawP4 (T TL TS TK:TypeId) (c:Nat) (a:Option Addr) (len cap:Nat) (z:List Int) (w:World) (e:Ending) (w':World):Prop :=
 ∃ g cp X,e=.returned (.slice (some ⟨g,0,none⟩) X.length cp)∧Hid (w'.ownsRow w.heap.size TL 4 (.slice (some ⟨g,0,none⟩) X.length cp) X.length (lnsV X))∧Hid (AllIn TS TK w' X)∧OkI (plL X)∧CurAt T w' c a len cap z∧w.grownBy w' (some c)
theorem szal_ok4 {X:List LnL} (h:OkI (plL X)):SzAl X:=fun x hx=>line_small _ (h.1.2 _ (List.mem_map_of_mem hx))
theorem len_ok4 {X:List LnL} (h:OkI (plL X)):X.length≤60:=by have:=h.1.1;rwa [plL_length] at this
def cstP:List PLine:=[⟨0,⟨#[109,97,105,110]⟩,[],[]⟩,⟨2,⟨#[]⟩,[],[⟨0,1,⟨#[]⟩⟩]⟩,⟨6,⟨#[]⟩,[],[⟨0,1,⟨#[]⟩⟩]⟩,⟨7,⟨#[]⟩,[],[]⟩]
theorem cst_fun:funs cstP=[0]:=by decide +kernel
theorem cst_end:beZ cstP ((0:Nat):Int)=3:=by decide +kernel
theorem cst_ok:OkI cstP:=by
 refine ⟨⟨by decide,by decide +kernel⟩,⟨by rw [cst_fun];decide,by decide +kernel,by decide +kernel,?_⟩,?_,?_,?_,?_⟩
 ·rw [cst_fun]
  intro k hk h;obtain rfl:k=0:=by simpa using hk
  exact (by decide +kernel:findZ cstP (cstP[0]'(by decide)).name=((0:Nat):Int))
 ·rw [cst_fun]
  refine ⟨rfl,by rw [cst_end];decide,?_⟩;rw [cst_end];rfl
 ·exact ⟨by decide +kernel,by decide +kernel,by decide +kernel,by decide +kernel,trivial⟩
 ·exact ⟨fun h=>absurd h (by decide),fun h=>absurd h (by decide),fun h=>absurd h (by decide),fun h=>absurd h (by decide),trivial⟩
 ·rw [cst_fun]
  intro k hk;obtain rfl:k=0:=by simpa using hk
  refine ⟨by decide +kernel,?_⟩;rw [cst_end];intro x hx t ht;have hx':x ∈ cstP:=List.mem_of_mem_drop (List.mem_of_mem_take hx);unfold cstP at hx';simp only [List.mem_cons,List.not_mem_nil,or_false] at hx';have hk0:t.kind=0:=by
   rcases hx' with rfl|rfl|rfl|rfl <;> simp at ht <;> rw [ht]
  exact ⟨fun h=>by omega,fun h=>by omega⟩
set_option maxRecDepth 100000 in
set_option maxHeartbeats 4000000 in
theorem d_prog4 (c:Nat) (a:Option Addr) (len cap:Nat) (z:List Int) (w:World) (H:CurAt 145 w c a len cap z) :
  Calls Tryz.prog 49 #[.pointer (some ⟨c,0,none⟩)] w (DrawP4 145 87 9 147 c a len cap z w):=by
 have hcw:=H.lt;have HC:=hid H;clear H
 go_enter Tryz.func49,Tryz.ntmps49
 go_wp2_with fail
 go_loopw [3,4] (fun i _ wr=>∃ q:Nat,q≤5∧i=.int .i64 (q:Int)∧Hid (CurAt 145 wr c a len cap z)∧Hid (w.grownBy wr (some c))) (fun i _ _=>5 - (RowKit.intOf i).toNat)
 case atStart=>exact ⟨0,by omega,rfl,HC,hid (World.grownBy.refl w (some c))⟩
 case round =>
  obtain ⟨q,hq,rfl,HK,HG⟩:=hrel;have hzw:=HG.out.size
  by_cases hlt:q<5
  ·have k1:(q:Int)<5:=by omega
   go_wp2_with fail;refine (d_prog c a len cap z _ HK.out).mono ?_;rintro e w1 ⟨v,X,rfl,ST,hX0,hX1⟩;obtain ⟨gv,cv,rfl,_⟩:=ST.form;have HS:=hid (ST.base HG.out);have HST:=hid ST;have hcap:=own_cap4 ST.1;have R1:=hid (readL_of ST.1 ST.2.2.1);have HSM:Hid (SzAl X):=hid (fun x hx=>line_small _ (ST.2.2.2.1 x hx).line);have SPO:=hid (s_progOkB (some ⟨gv,0,none⟩) cv X w1 (by omega) R1.out HSM.out);obtain ⟨b,hb⟩:∃ b,pokB (plL X)=b:=⟨_,rfl⟩;rw [hb] at SPO;have hz1:=HS.out.2.2.2.2.2.size;clear ST;go_wp2_with fail;refine SPO.out.mono ?_;rintro e w2 ⟨rfl,b2⟩;have HB2:=hid b2;have HK2:Hid (CurAt 145 w2 c a len cap z):=hid (HS.out.2.2.2.2.1.kept (grown_of_below b2 none) (fun k e=>by cases e));have HG2:Hid (w.grownBy w2 (some c)):=hid (HS.out.2.2.2.2.2.trans (grown_of_below b2 (some c)));clear b2
   cases b with
   | true =>
    have hok:=(pokB_iff _).1 hb;go_wp2;go_ret;exact ⟨gv,cv,X,rfl,hid (owns3_below HS.out.1 HB2.out),hid (HS.out.2.2.1.below HB2.out),hok,HK2.out,HG2.out⟩
   | false =>
    go_wp2;go_roundw
    case rel=>exact ⟨q+1,by omega,by go_num,HK2,HG2⟩
    case measure=>simp [RowKit.intOf];omega
  ·have k1:¬ (q:Int)<5:=by omega
   have hb0:=hcw;obtain ⟨w1,hw1⟩:∃ W,wr.alloc (.cells #[.int .i64 0,.int .i64 1,.string ⟨#[]⟩] 147)=W:=⟨_,rfl⟩;have T0:Hid (w1.heap[wr.heap.size]?=some (.cells #[.int .i64 0,.int .i64 1,.string ⟨#[]⟩] 147 (0,0))):=hid (by rw [← hw1];exact heap_alloc_new wr _);have HO0:Hid (w1.ownsRow 0 147 3 (.slice (some ⟨wr.heap.size,0,none⟩) 1 1) 1 (toksV [⟨0,1,⟨#[]⟩⟩])):=hid (by
    rw [← hw1];exact World.ownsRow_lit (e:=147) (size:=3) (base:=0) wr #[.int .i64 0,.int .i64 1,.string ⟨#[]⟩] 1 (Nat.zero_le _) (by decide) rfl)
   have HK1:Hid (CurAt 145 w1 c a len cap z):=hid (by rw [← hw1];exact HK.out.alloc _);have HG1:Hid (w.grownBy w1 (some c)):=hid (by rw [← hw1];exact grown_alloc HG.out _);go_wp2;go_ret;refine ⟨w1.heap.size,4,[⟨0,⟨#[109,97,105,110]⟩,[],[],.slice none 0 0,.slice none 0 0⟩,⟨2,⟨#[]⟩,[],[⟨0,1,⟨#[]⟩⟩],.slice none 0 0,.slice (some ⟨wr.heap.size,0,none⟩) 1 1⟩,⟨6,⟨#[]⟩,[],[⟨0,1,⟨#[]⟩⟩],.slice none 0 0,.slice (some ⟨wr.heap.size,0,none⟩) 1 1⟩,⟨7,⟨#[]⟩,[],[],.slice none 0 0,.slice none 0 0⟩],rfl,hid ?_,hid ?_,cst_ok,HK1.out.alloc _,grown_alloc HG1.out _⟩
   ·have hs1:w1.heap.size=wr.heap.size+1:=by rw [← hw1];simp
    exact World.ownsRow_lit (e:=87) (size:=4) (base:=w.heap.size) w1 #[.int .i64 0,.string ⟨#[109,97,105,110]⟩,.slice none 0 0,.slice none 0 0,.int .i64 2,.string ⟨#[]⟩,.slice none 0 0,.slice (some ⟨wr.heap.size,0,none⟩) 1 1,.int .i64 6,.string ⟨#[]⟩,.slice none 0 0,.slice (some ⟨wr.heap.size,0,none⟩) 1 1,.int .i64 7,.string ⟨#[]⟩,.slice none 0 0,.slice none 0 0] 4 (by omega) (by decide) rfl
   ·have HT:∀ X:Obj,(w1.alloc X).ownsRow 0 147 3 (.slice (some ⟨wr.heap.size,0,none⟩) 1 1) 1 (toksV [⟨0,1,⟨#[]⟩⟩]):=fun X=>HO0.out.alloc X
    have hn:∀ (W:World) T s,W.ownsRow 0 T s (.slice none 0 0) 0 []:=fun W T s=>⟨by simp,.inl ⟨rfl,rfl⟩⟩
    intro x hx;simp only [List.mem_cons,List.not_mem_nil,or_false] at hx
    rcases hx with rfl|rfl|rfl|rfl
    ·exact ⟨hn _ _ _,hn _ _ _⟩
    ·exact ⟨hn _ _ _,HT _⟩
    ·exact ⟨hn _ _ _,HT _⟩
    ·exact ⟨hn _ _ _,hn _ _ _⟩
def OneBld (TL TS TK:TypeId) (w:World) (e:Ending) (w':World):Prop :=
 ∃ g cp X fm inl fo sp fm2 inl2 fo2 sp2,e=.returned (.tuple #[.slice (some ⟨g,0,none⟩) X.length cp,.agg #[.int .i64 fm,.int .i64 ((inl:Nat):Int),.bool fo,.bool sp],.agg #[.int .i64 fm2,.int .i64 ((inl2:Nat):Int),.bool fo2,.bool sp2]])∧Hid (w'.ownsRow w.heap.size TL 4 (.slice (some ⟨g,0,none⟩) X.length cp) X.length (lnsV X))∧Hid (AllIn TS TK w' X)∧OkI (plL X) ∧
  0≤fm∧fm≤63∧inl≤3∧0≤fm2∧fm2≤63∧inl2≤3∧Below w.heap.size w w'
end Go.Proofs.YtcflojdkaddemaaGreatDoor

namespace Go.Proofs.YtcflojdkaddemaaGreatDoor
open Go.RowKit Go.Lib
def Kep (w w':World) (c:Nat):Prop:=w.grownBy w' (some c)∧c<w.heap.size
set_option maxRecDepth 100000 in
set_option maxHeartbeats 4000000 in
theorem d_build (a:Option Addr) (len cap:Nat) (z:List Int) (w:World) (H:IsRow .u8 w a len cap z) (hl:len≤1048576) :
  Calls Tryz.prog 10 #[.slice a len cap] w (OneBld 87 9 147 w):=by
 have HC:=hid H;clear H;obtain ⟨w0,hw0⟩:∃ W,(w.alloc (.cells #[.int .i64 0,.int .i64 0,.bool false,.bool false] 26)).alloc (.cells #[.int .i64 0,.int .i64 0,.bool false,.bool false] 26)=W:=⟨_,rfl⟩;have T2:=hid (two_new w (.cells #[.int .i64 0,.int .i64 0,.bool false,.bool false] 26) (.cells #[.int .i64 0,.int .i64 0,.bool false,.bool false] 26));rw [hw0] at T2;have HW0:=hid hw0;clear hw0;have DN:=hid (d_new a len cap z w0 (HC.out.below T2.out.2.2.2 HC.out.lt) hl)
 go_enter Tryz.func10,Tryz.ntmps10
 go_upto_region 1 with fail;rw [HW0.out];go_wp2_with fail;refine DN.out.mono ?_;rintro e w1 ⟨c,rfl,hc0,hc1,H1,B1⟩;obtain ⟨t0,t1,tz,tb⟩:=T2.out;have R1:=hid ((B1.block _ (by omega)).trans t0);have Q1:=hid ((B1.block _ (by omega)).trans t1);have K1:=hid H1;have L1:Hid (Below w.heap.size w w1):=hid (tb.trans (B1.mono (by omega)));have hcc:w.heap.size+1<c:=by omega
 clear H1 B1 hc0 hc1 t0 t1 tz tb T2;go_wp2_with fail;refine (d_prog4 c a len cap z _ K1.out).mono ?_;rintro e w2 ⟨g,cp,X,rfl,HO2,HA2,hok,H2,G2⟩;have hs1:=L1.out.size;have R2:=hid ((G2.block _ (blk R1.out).2.2 (by intro e;injection e;omega)).trans R1.out);have Q2:=hid ((G2.block _ (blk Q1.out).2.2 (by intro e;injection e;omega)).trans Q1.out);have K2:=hid H2;have L2:Hid (Below w.heap.size w w2):=hid (L1.out.grown G2 hs1 (fun k hk=>by injection hk with hk;omega));have HOK:=hid hok;clear H2 G2 hok;go_wp2_with fail;refine (d_bld c a len cap z _ K2.out).mono ?_;rintro e w3 ⟨fm,inl,fo,sp,rfl,m0,m1,m2,H3,G3⟩;have hs2:=L2.out.size;have R3:=hid ((G3.block _ (blk R2.out).2.2 (by intro e;injection e;omega)).trans R2.out);have Q3:=hid ((G3.block _ (blk Q2.out).2.2 (by intro e;injection e;omega)).trans Q2.out);have hsz3:=G3.size;have L3:Hid (Below w.heap.size w w3):=hid (L2.out.grown G3 hs2 (fun k hk=>by injection hk with hk;omega));have HO3:Hid (w3.ownsRow w.heap.size 87 4 (.slice (some ⟨g,0,none⟩) X.length cp) X.length (lnsV X)):=hid (owns_lo (owns_far HO2.out G3 K1.out.lt) hs1);have HA3:Hid (AllIn 9 147 w3 X):=hid (HA2.out.other G3 (cur_other K2.out (by decide) (by decide)));have K3:=hid H3;have G23:=hid G3;clear H3 G3;obtain ⟨w4,hw4⟩:∃ W,w3.alloc (.cells #[.int .i64 fm,.int .i64 (inl:Int),.bool fo,.bool sp] 26)=W:=⟨_,rfl⟩;have HW4:=hid hw4;have hck:c<w3.heap.size:=K3.out.lt;have D4:Hid (Kep w4 w4.drew c):=hid ⟨grown_of_below (Below.refl _ _).drew (some c),by rw [← HW4.out];simp;omega⟩;have W4D:Hid (w4.grownBy w4.drew (some c)):=hid D4.out.1;have K4:Hid (CurAt 145 w4.drew c a len cap z):=hid (by rw [← HW4.out];exact K3.out.alloc _);have P4:Hid (w4.heap[w3.heap.size]?=some (.cells #[.int .i64 fm,.int .i64 (inl:Int),.bool fo,.bool sp] 26 (0,0))):=hid (by rw [← HW4.out];exact heap_alloc_new w3 _);have R4:Hid (w4.heap[w.heap.size]?=some (.cells #[.int .i64 0,.int .i64 0,.bool false,.bool false] 26 (0,0))):=hid (by rw [← HW4.out];exact (Below.heap_alloc w3 _ _ (blk R3.out).2.2).trans R3.out);have Q4:Hid (w4.heap[w.heap.size+1]?=some (.cells #[.int .i64 0,.int .i64 0,.bool false,.bool false] 26 (0,0))):=hid (by rw [← HW4.out];exact (Below.heap_alloc w3 _ _ (blk Q3.out).2.2).trans Q3.out);have SS:Hid (∀ W,Kep w4 W c→W.cell? ⟨w3.heap.size,0,none⟩=some (.int .i64 fm)∧W.cell? ⟨w3.heap.size,1,none⟩=some (.int .i64 (inl:Int))∧W.cell? ⟨w3.heap.size,2,none⟩=some (.bool fo)∧W.cell? ⟨w3.heap.size,3,none⟩=some (.bool sp)):=hid (fun W hb=>by
  have h:=(hb.1.block _ (blk P4.out).2.2 (by intro e;injection e;omega)).trans P4.out;exact ⟨(blk h).1 0 _ rfl,(blk h).1 1 _ rfl,(blk h).1 2 _ rfl,(blk h).1 3 _ rfl⟩)
 clear hw4;go_upto_region 4 with fail;rw [HW4.out];refine E_start (S:=(fun w'=>w'.cell? ⟨w3.heap.size,0,none⟩=some (.int .i64 fm)∧w'.cell? ⟨w3.heap.size,1,none⟩=some (.int .i64 (inl:Int))∧w'.cell? ⟨w3.heap.size,2,none⟩=some (.bool fo)∧w'.cell? ⟨w3.heap.size,3,none⟩=some (.bool sp))) 6 (by kernel_rfl) (SS.out _ D4.out) (fun hHeld=>?_);refine E_tk 0 ?_
 try simp only [Act.put,eS1,eS2,eS3,eA1,eA2,eA3]
 refine E_tk 1 ?_
 try simp only [Act.put,eS1,eS2,eS3,eA1,eA2,eA3]
 refine E_tk 2 ?_
 try simp only [Act.put,eS1,eS2,eS3,eA1,eA2,eA3]
 refine E_ready (rs:=[3]) (by kernel_rfl) (by decide) ?_;refine AllE.cons (o:=_) rfl (fun K hK=>?_) AllE.nil
 try simp only [eA1,eA2,eA3]
 go_simp
 refine (d_bld c a len cap z _ K4.out).mono ?_;rintro e w5 ⟨fm2,inl2,fo2,sp2,rfl,n0,n1,n2,H5,G5⟩;have HG5:Hid (w4.grownBy w5 (some c)):=hid (W4D.out.trans G5);have HB5:Hid (Kep w4 w5 c):=hid ⟨HG5.out,by rw [← HW4.out];simp;omega⟩;have K5:=hid H5;clear H5 G5;go_wp2_with fail;refine hK.out _ _ (SS.out _ HB5.out) (fun hHeld=>?_);clear hK K
 try simp only [Act.put,eS1,eS2,eS3,eA1,eA2,eA3]
 refine E_ready (rs:=[4]) (by kernel_rfl) (by decide) ?_;refine AllE.cons (o:=_) rfl (fun K hK=>?_) AllE.nil
 try simp only [eA1,eA2,eA3]
 go_simp
 refine hK.out _ _ (SS.out _ HB5.out) (fun hHeld=>?_);clear hK K
 try simp only [Act.put,eS1,eS2,eS3,eA1,eA2,eA3]
 have R5:=hid ((HG5.out.block _ (blk R4.out).2.2 (by intro e;injection e;omega)).trans R4.out);have Q5:=hid ((HG5.out.block _ (blk Q4.out).2.2 (by intro e;injection e;omega)).trans Q4.out);have rc0:=(blk R5.out).1 0 _ rfl;have rf0:=(blk R5.out).2.1 0;have rc1:=(blk R5.out).1 1 _ rfl;have rf1:=(blk R5.out).2.1 1;have rc2:=(blk R5.out).1 2 _ rfl;have rf2:=(blk R5.out).2.1 2;have rc3:=(blk R5.out).1 3 _ rfl;have rf3:=(blk R5.out).2.1 3;have qc0:=(blk Q5.out).1 0 _ rfl;have qf0:=(blk Q5.out).2.1 0;have qc1:=(blk Q5.out).1 1 _ rfl;have qf1:=(blk Q5.out).2.1 1;have qc2:=(blk Q5.out).1 2 _ rfl;have qf2:=(blk Q5.out).2.1 2;have qc3:=(blk Q5.out).1 3 _ rfl;have qf3:=(blk Q5.out).2.1 3;have SST:Hid (∀ W:World,(∀ b,b≠w.heap.size→W.heap[b]?=w5.heap[b]?)→W.cell? ⟨w3.heap.size,0,none⟩=some (.int .i64 fm)∧W.cell? ⟨w3.heap.size,1,none⟩=some (.int .i64 (inl:Int))∧W.cell? ⟨w3.heap.size,2,none⟩=some (.bool fo)∧W.cell? ⟨w3.heap.size,3,none⟩=some (.bool sp)):=hid (fun W hb=>by
   obtain ⟨s1,s2,s3,s4⟩:=SS.out _ HB5.out;have e:=hb w3.heap.size (by have:=(blk R3.out).2.2;omega);exact ⟨(World.cell?_of_block (a:=⟨w3.heap.size,0,none⟩) e).trans s1,(World.cell?_of_block (a:=⟨w3.heap.size,1,none⟩) e).trans s2,(World.cell?_of_block (a:=⟨w3.heap.size,2,none⟩) e).trans s3,(World.cell?_of_block (a:=⟨w3.heap.size,3,none⟩) e).trans s4⟩)
 refine E_ready (rs:=[5]) (by kernel_rfl) (by decide) ?_;refine AllE.cons (o:=_) rfl (fun K hK=>?_) AllE.nil
 try simp only [eA1,eA2,eA3]
 go_simp
 refine hK.out _ _ (SST.out _ (fun b hb=>(set_other hb).trans ((set_other hb).trans ((set_other hb).trans (set_other hb))))) (fun hHeld=>?_);clear hK K
 try simp only [Act.put,eS1,eS2,eS3,eA1,eA2,eA3]
 refine E_last (o:=_) (by kernel_rfl) rfl (by kernel_rfl) (fun K hK=>?_)
 try simp only [eA1,eA2,eA3]
 go_simp
 refine hK.out _ _ ?_;clear hK K;obtain ⟨W8,hW8⟩:∃ W,((((((((w5.setCell ⟨w.heap.size,0,none⟩ (.int .i64 fm)).setCell ⟨w.heap.size,1,none⟩ (.int .i64 (inl:Int))).setCell ⟨w.heap.size,2,none⟩ (.bool fo)).setCell ⟨w.heap.size,3,none⟩ (.bool sp)).setCell ⟨w.heap.size+1,0,none⟩ (.int .i64 fm2)).setCell ⟨w.heap.size+1,1,none⟩ (.int .i64 (inl2:Int))).setCell ⟨w.heap.size+1,2,none⟩ (.bool fo2)).setCell ⟨w.heap.size+1,3,none⟩ (.bool sp2))=W:=⟨_,rfl⟩;have R8:Hid (W8.heap[w.heap.size]?=some (.cells #[.int .i64 fm,.int .i64 (inl:Int),.bool fo,.bool sp] 26 (0,0))):=hid (by
  rw [← hW8];have h0:=heap_setCell_at R5.out (.int .i64 fm) (j:=0);have h1:=heap_setCell_at h0 (.int .i64 (inl:Int)) (j:=1);have h2:=heap_setCell_at h1 (.bool fo) (j:=2);exact (set_other (by omega)).trans ((set_other (by omega)).trans ((set_other (by omega)).trans ((set_other (by omega)).trans (heap_setCell_at h2 (.bool sp) (j:=3))))))
 have Q8:Hid (W8.heap[w.heap.size+1]?=some (.cells #[.int .i64 fm2,.int .i64 (inl2:Int),.bool fo2,.bool sp2] 26 (0,0))):=hid (by
  rw [← hW8];have hq:((((w5.setCell ⟨w.heap.size,0,none⟩ (.int .i64 fm)).setCell ⟨w.heap.size,1,none⟩ (.int .i64 (inl:Int))).setCell ⟨w.heap.size,2,none⟩ (.bool fo)).setCell ⟨w.heap.size,3,none⟩ (.bool sp)).heap[w.heap.size+1]?=_:=(set_other (by omega)).trans ((set_other (by omega)).trans ((set_other (by omega)).trans ((set_other (by omega)).trans Q5.out)));have h0:=heap_setCell_at hq (.int .i64 fm2) (j:=0);have h1:=heap_setCell_at h0 (.int .i64 (inl2:Int)) (j:=1);have h2:=heap_setCell_at h1 (.bool fo2) (j:=2);exact heap_setCell_at h2 (.bool sp2) (j:=3))
 have G8:Hid (∀ b,b≠w.heap.size→b≠w.heap.size+1→W8.heap[b]?=w5.heap[b]?):=hid (fun b h1 h2=>by
  rw [← hW8];exact (set_other h2).trans ((set_other h2).trans ((set_other h2).trans ((set_other h2).trans ((set_other h1).trans ((set_other h1).trans ((set_other h1).trans (set_other h1))))))))
 have hBW:Below w.heap.size w W8:=by
  have L4:Below w.heap.size w w4:=by rw [← HW4.out];exact L3.out.alloc (by omega) _
  have L5:Below w.heap.size w w5:=L4.grown HG5.out L4.size (fun k hk=>by injection hk with hk;omega);rw [← hW8];exact (((((((L5.setCell (by simp) _).setCell (by simp) _).setCell (by simp) _).setCell (by simp) _).setCell (by simp) _).setCell (by simp) _).setCell (by simp) _).setCell (by simp) _
 have HBW:=hid hBW;have G25:Hid (w2.grownBy w5 (some c)):=hid (G23.out.trans (World.grownBy.trans (by rw [← HW4.out];exact grown_alloc' w3 _ (some c)) HG5.out));have HOE:Hid (W8.ownsRow w.heap.size 87 4 (.slice (some ⟨g,0,none⟩) X.length cp) X.length (lnsV X)):=hid (by
  have h5:=owns_far HO2.out G25.out K1.out.lt;have hk1:=K1.out.lt;exact owns_lo (owns_blks h5 (fun q hq=>G8.out q (by have:=(h5.lt q hq).1;omega) (by have:=(h5.lt q hq).1;omega))) hs1)
 have HAE:Hid (AllIn 9 147 W8 X):=hid (fun x hx=>by
  have hm:=(HA2.out.other G25.out (cur_other K2.out (by decide) (by decide))) x hx;exact ⟨owns_blks hm.1 (fun q hq=>G8.out q (fun e=>ne_types hm.1 R5.out (by decide) (by rw [hq,e])) (fun e=>ne_types hm.1 Q5.out (by decide) (by rw [hq,e]))),owns_blks hm.2 (fun q hq=>G8.out q (fun e=>ne_types hm.2 R5.out (by decide) (by rw [hq,e])) (fun e=>ne_types hm.2 Q5.out (by decide) (by rw [hq,e])))⟩)
 have HW8:=hid hW8;clear hW8;have x0:W8.cell? ⟨w.heap.size,0,none⟩=some (.int .i64 fm):=(blk R8.out).1 0 _ rfl;have x1:W8.cell? ⟨w.heap.size,1,none⟩=some (.int .i64 (inl:Int)):=(blk R8.out).1 1 _ rfl;have x2:W8.cell? ⟨w.heap.size,2,none⟩=some (.bool fo):=(blk R8.out).1 2 _ rfl;have x3:W8.cell? ⟨w.heap.size,3,none⟩=some (.bool sp):=(blk R8.out).1 3 _ rfl;have y0:W8.cell? ⟨w.heap.size+1,0,none⟩=some (.int .i64 fm2):=(blk Q8.out).1 0 _ rfl;have y1:W8.cell? ⟨w.heap.size+1,1,none⟩=some (.int .i64 (inl2:Int)):=(blk Q8.out).1 1 _ rfl;have y2:W8.cell? ⟨w.heap.size+1,2,none⟩=some (.bool fo2):=(blk Q8.out).1 2 _ rfl;have y3:W8.cell? ⟨w.heap.size+1,3,none⟩=some (.bool sp2):=(blk Q8.out).1 3 _ rfl;go_wp2_with fail;rw [HW8.out];refine bodyPost_ret (v:=.tuple #[.slice (some ⟨g,0,none⟩) X.length cp,.agg #[.int .i64 fm,.int .i64 (inl:Int),.bool fo,.bool sp],.agg #[.int .i64 fm2,.int .i64 (inl2:Int),.bool fo2,.bool sp2]]) (by simp [results,Tryz.results10,go_sem,x0,x1,x2,x3,y0,y1,y2,y3]) rfl ?_;exact ⟨g,cp,X,fm,inl,fo,sp,fm2,inl2,fo2,sp2,rfl,HOE,HAE,HOK.out,m0,m1,m2,n0,n1,n2,HBW.out⟩
end Go.Proofs.YtcflojdkaddemaaGreatDoor

namespace Go.Proofs.YtcflojdkaddemaaGreatDoor
open Go.RowKit
theorem big_no (a:Option Addr) (len cap:Nat) (w:World) (hl:len≤1048576):Calls Tryz.prog 9 #[.slice a len cap] w fun e w'=>e=.returned (.bool false)∧w=w':=by
 have h:decide ((1048576:Int)<(len:Int))=false:=by simp;omega
 go_enter Tryz.func9,Tryz.ntmps9
 go_wp2;go_ret;exact ⟨rfl,rfl⟩
theorem big_yes (a:Option Addr) (len cap:Nat) (w:World) (hl:1048576<len) (hm:len≤9223372036854775807):Calls Tryz.prog 9 #[.slice a len cap] w fun e w'=>e=.returned (.bool true)∧w=w':=by
 have h:decide ((1048576:Int)<(len:Int))=true:=by simp;omega
 go_enter Tryz.func9,Tryz.ntmps9
 go_wp2;go_ret;exact ⟨rfl,rfl⟩
end Go.Proofs.YtcflojdkaddemaaGreatDoor
