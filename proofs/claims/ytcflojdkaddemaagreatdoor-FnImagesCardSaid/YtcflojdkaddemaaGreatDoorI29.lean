/- Parts of the proof. -/
import Derived.Test.YtcflojdkaddemaaGreatDoorI28
import Derived.RangeFuncBox
import Derived.RangeFuncWrites
import Derived.Shelf.Abstract
import Derived.OwnWalkIn
import Derived.TacticsInMore
import Derived.LoopNIn
import Derived.LoopIn
namespace Go.Proofs.YtcflojdkaddemaaGreatDoor
open Go.RowKit Go.Lib
theorem pl_exists {n:Nat} (P:∀ j,j<n→PlW→Prop) (h:∀ j hj,∃ x,P j hj x):∃ X:List PlW,X.length=n∧∀ j (hj:j<n) (hx:j<X.length),P j hj X[j]:=by
 refine ⟨List.ofFn fun j:Fin n=>Classical.choose (h j.1 j.2),by simp,fun j hj hx=>?_⟩;rw [List.getElem_ofFn];exact Classical.choose_spec (h j hj)
def ReadIt7 (w:World) (a:Option Addr) (L:List ItL):Prop :=
 ∀ j (h:j<L.length),∃ g xa xn xc,a=some ⟨g,0,none⟩∧g<w.heap.size∧w.cell? ⟨g,j*7,none⟩=some (.int .i64 L[j].code)∧w.cell? ⟨g,j*7+1,none⟩=some (.int .i64 L[j].arg)∧w.cell? ⟨g,j*7+2,none⟩=some (.int .i64 (L[j].line:Int))∧w.cell? ⟨g,j*7+3,none⟩=some (.bool L[j].start)∧w.cell? ⟨g,j*7+4,none⟩=some (.slice xa xn xc)∧w.cell? ⟨g,j*7+5,none⟩=some (.int .i64 L[j].depth)∧w.cell? ⟨g,j*7+6,none⟩=some (.bool L[j].ent)
theorem infoPl:(Tryz.prog.info? 42).map (fun i=>(i.zero,i.size,i.bytes))=some (some (.agg #[.int .i64 0,.int .i64 0,.int .i64 0,.int .i64 0,.bool false,.slice none 0 0,.int .i64 0,.bool false]),8,80):=by kernel_rfl
def PlAt (w:World) (a:Option Addr) (o:Nat) (L:List ItL) (X:List PlW):Prop :=
 X.length=L.length∧∀ j (h:j<L.length) (h':j<X.length),X[j].off=(offN o L j:Int)∧X[j].it=L[j]∧∃ g,a=some ⟨g,0,none⟩∧g<w.heap.size∧w.cell? ⟨g,j*7,none⟩=some (.int .i64 L[j].code)∧w.cell? ⟨g,j*7+1,none⟩=some (.int .i64 L[j].arg)∧w.cell? ⟨g,j*7+2,none⟩=some (.int .i64 (L[j].line:Int))∧w.cell? ⟨g,j*7+3,none⟩=some (.bool L[j].start)∧w.cell? ⟨g,j*7+4,none⟩=some (.slice X[j].a X[j].n X[j].c)∧w.cell? ⟨g,j*7+5,none⟩=some (.int .i64 L[j].depth)∧w.cell? ⟨g,j*7+6,none⟩=some (.bool L[j].ent)
theorem pl_at7 {w:World} {a:Option Addr} {L:List ItL} (h:ReadIt7 w a L) (o:Nat):∃ X,PlAt w a o L X:=by
 obtain ⟨X,h1,h2⟩:=pl_exists (n:=L.length) (fun j hj x=>x.off=(offN o L j:Int)∧x.it=L[j]∧∃ g,a=some ⟨g,0,none⟩∧g<w.heap.size∧w.cell? ⟨g,j*7,none⟩=some (.int .i64 L[j].code)∧w.cell? ⟨g,j*7+1,none⟩=some (.int .i64 L[j].arg)∧w.cell? ⟨g,j*7+2,none⟩=some (.int .i64 (L[j].line:Int))∧w.cell? ⟨g,j*7+3,none⟩=some (.bool L[j].start)∧w.cell? ⟨g,j*7+4,none⟩=some (.slice x.a x.n x.c)∧w.cell? ⟨g,j*7+5,none⟩=some (.int .i64 L[j].depth)∧w.cell? ⟨g,j*7+6,none⟩=some (.bool L[j].ent)) (fun j hj=>by
  obtain ⟨g,xa,xn,xc,e,hg,c0,c1,c2,c3,c4,c5,c6⟩:=h j hj;exact ⟨⟨(offN o L j:Int),L[j],xa,xn,xc⟩,rfl,rfl,g,e,hg,c0,c1,c2,c3,c4,c5,c6⟩)
 exact ⟨X,h1,h2⟩
theorem headPl_at (k:Nat) (X:List PlW) (h:k<X.length) (R:List Value) (i:Nat) (hi:i<8):(headPl (k+1) X R)[k*8+i]?=(plC X[k])[i]?:=by
 have hl:(X.take (k+1)).length=k+1:=by rw [List.length_take];omega
 unfold headPl;rw [List.getElem?_append_left (by rw [plsV_length,hl];omega),plsV_at _ k (by omega) i hi,List.getElem_take]
set_option maxRecDepth 100000 in
set_option maxHeartbeats 4000000 in
theorem i_placeItems (pa:Option Addr) (pc:Nat) (PX:List LnL) (g0:Nat) (L:List ItL) (a:Option Addr) (cap o:Nat) (w:World) (hl:PX.length≤1048576) (hr:ReadL 9 147 w pa PX) (hL:ReadIt7 w a L) (hF:FnIt (plL PX) g0 L) (ho:o≤100000) :
  Calls Tryz.prog 61 #[.slice pa PX.length pc,.slice a L.length cap,.int .i64 (o:Int)] w fun e w'=>∃ v X,e=.returned v∧w'.ownsRow w.heap.size 42 8 v X.length (plsV X)∧X.map (fun x=>(x.off,x.it))=(plcF o L 0 L).map (fun y=>((y.1:Int),y.2))∧Below w.heap.size w w':=by
 obtain ⟨X,hX,hP⟩:=pl_at7 hL o;have HPA:=hid hP;have HF:=hid hF;have HR:=hid hr;have hnn:=hF.nn;obtain ⟨n,hn⟩:∃ n,L.length=n:=⟨_,rfl⟩;have HN:=hid hn;rw [hn] at hnn hX;obtain ⟨i0,hi,hz0,hz1,hz2⟩:=info_parts infoPl;have hmk:=fun W=>run_make_rowN (P:=Tryz.prog) 34 42 i0 _ 8 80 Tryz.underlying34 hi hz0 hz1 hz2 .i64 .i64 n n (Nat.le_refl _) (by omega) (by omega) W
 obtain ⟨cs,hcs⟩:∃ cs,madeCells (Value.agg #[.int .i64 0,.int .i64 0,.int .i64 0,.int .i64 0,.bool false,.slice none 0 0,.int .i64 0,.bool false]).cells (n*8)=cs:=⟨_,rfl⟩;have hcsz:cs.size=n*8:=by rw [← hcs,size_madeCells]
 rw [hcs] at hmk;have HZ:=hid hcsz;have HXL:=hid hX;rw [hn];clear hcs hi hz0 hz1 hz2 hcsz hL hP hF hr hn hX
 go_enter Tryz.func61,Tryz.ntmps61
 go_wp2_with fail;clear hmk;have hN0:L.length=n:=HN.out
 go_loopw [2,8,9,17] (fun f _ _ i wr=>∃ (k:Nat) (R:List Value),k≤n∧i=.int .i64 (k:Int)∧f=.int .i64 (offN o L k:Int)∧R.length=(n - k)*8∧Hid (wr.ownsRow w.heap.size 42 8 (.slice (some ⟨w.heap.size,0,none⟩) n n) n (headPl k X R))∧Hid (Below w.heap.size w wr)) (fun _ _ _ i _=>n - (intOf i).toNat)
 case atStart=>exact ⟨0,cs.toList,Nat.zero_le _,rfl,by rw [offN_zero],by simpa using HZ.out,hid (World.ownsRow_lit _ _ _ (Nat.le_refl _) (by unfold maxLen;omega) HZ.out),hid ((Below.refl _ _).alloc (Nat.le_refl _) _)⟩
 case round =>
  obtain ⟨k,R,hk,rfl,rfl,hR,HO,HB⟩:=hrel;have hB:=HB.out.size;have hgl:w.heap.size<wr.heap.size:=(HO.out.lt w.heap.size rfl).2;have hof:=offN_le o L k (by rw [HN.out];omega)
  by_cases hlt:k<n
  ·have hkL:k<L.length:=by rw [HN.out];exact hlt
   have hkX:k<X.length:=by rw [HXL.out];exact hlt
   obtain ⟨x0,x1,g,hga,hg,c0,c1,c2,c3,c4,c5,c6⟩:=HPA.out k hkL hkX;have HOS:=hid (offN_succ o L k hkL);obtain ⟨y0,y1,y2,y3,y4,y5,y6,y7,R',hRe,hR'⟩:∃ y0 y1 y2 y3 y4 y5 y6 y7 R',R=y0 :: y1 :: y2 :: y3 :: y4 :: y5 :: y6 :: y7 :: R'∧R'.length=(n - (k+1))*8:=by
    match R,hR with
    | y0 :: y1 :: y2 :: y3 :: y4 :: y5 :: y6 :: y7 :: R',h=>exact ⟨_,_,_,_,_,_,_,_,R',rfl,by simp only [List.length_cons] at h;omega⟩
    | [],h|[_],h|[_,_],h|[_,_,_],h|[_,_,_,_],h|[_,_,_,_,_],h|[_,_,_,_,_,_],h|[_,_,_,_,_,_,_],h=>simp at h;omega
   subst hRe;have HR':=hid hR';have HS:=hid (headPl_set k X hkX y0 y1 y2 y3 y4 y5 y6 y7 R');subst hga;have d0:=(HB.out.cell (p:=⟨g,k*7,none⟩) hg).trans c0;have d1:=(HB.out.cell (p:=⟨g,k*7+1,none⟩) hg).trans c1;have d2:=(HB.out.cell (p:=⟨g,k*7+2,none⟩) hg).trans c2;have d3:=(HB.out.cell (p:=⟨g,k*7+3,none⟩) hg).trans c3;have d5:=(HB.out.cell (p:=⟨g,k*7+5,none⟩) hg).trans c5;have d6:=(HB.out.cell (p:=⟨g,k*7+6,none⟩) hg).trans c6;obtain ⟨y,hy⟩:∃ y,X[k]=y:=⟨_,rfl⟩;have XK:=hid hy;rw [hy] at x0 x1 c4 HS;clear hy;obtain ⟨yo,yi,va,vn,vc⟩:=y;dsimp only at x0 x1 c4 HS;subst x0;subst x1;have k0:(0:Int)≤(k:Int):=by omega
   have k1:(k:Int)<(n:Int):=by omega
   have d4:=(HB.out.cell (p:=⟨g,k*7+4,none⟩) hg).trans c4;have hsx:=sizX_le L[k];have HSZ:Hid (sizZ L[k].code=(sizX L[k]:Int)∨True):=hid (.inr trivial);clear c0 c1 c2 c3 c4 c5 c6 hR hR';obtain ⟨x,hx⟩:∃ x,L[k]=x:=⟨_,rfl⟩;have HLK:=hid hx;rw [hx] at d0 d1 d2 d3 d5 d6 HS HOS hsx XK;clear hx HSZ;have NX:=hid (heap_alloc_new wr (.cells #[.int .i64 x.code,.int .i64 x.arg,.int .i64 (x.line:Int),.bool x.start,.slice va vn vc,.int .i64 x.depth,.bool x.ent] 40));have BX:Hid (Below wr.heap.size wr (wr.alloc (.cells #[.int .i64 x.code,.int .i64 x.arg,.int .i64 (x.line:Int),.bool x.start,.slice va vn vc,.int .i64 x.depth,.bool x.ent] 40))):=hid ((Below.refl _ _).alloc (Nat.le_refl _) _);have HOX:=hid (HO.out.alloc (.cells #[.int .i64 x.code,.int .i64 x.arg,.int .i64 (x.line:Int),.bool x.start,.slice va vn vc,.int .i64 x.depth,.bool x.ent] 40));obtain ⟨wx,hwx⟩:∃ W,wr.alloc (.cells #[.int .i64 x.code,.int .i64 x.arg,.int .i64 (x.line:Int),.bool x.start,.slice va vn vc,.int .i64 x.depth,.bool x.ent] 40)=W:=⟨_,rfl⟩;rw [hwx] at NX BX HOX;have HWX:=hid hwx;have HBX:=hid (HB.out.trans (BX.out.mono hB));clear hwx;go_upto_region 5 with fail;rw [HWX.out];have q0:wx.cell? ⟨wr.heap.size,0,none⟩=some (.int .i64 x.code):=(blk NX.out).1 0 _ rfl;have q1:wx.cell? ⟨wr.heap.size,1,none⟩=some (.int .i64 x.arg):=(blk NX.out).1 1 _ rfl;have q2:wx.cell? ⟨wr.heap.size,2,none⟩=some (.int .i64 (x.line:Int)):=(blk NX.out).1 2 _ rfl;have q3:wx.cell? ⟨wr.heap.size,3,none⟩=some (.bool x.start):=(blk NX.out).1 3 _ rfl;have q4:wx.cell? ⟨wr.heap.size,4,none⟩=some (.slice va vn vc):=(blk NX.out).1 4 _ rfl;have q5:wx.cell? ⟨wr.heap.size,5,none⟩=some (.int .i64 x.depth):=(blk NX.out).1 5 _ rfl;have q6:wx.cell? ⟨wr.heap.size,6,none⟩=some (.bool x.ent):=(blk NX.out).1 6 _ rfl;have hlen:(headPl k X (y0 :: y1 :: y2 :: y3 :: y4 :: y5 :: y6 :: y7 :: R')).length=n*8:=HOX.out.1;have cellk:∀ i,i<8→∃ y,wx.cell? ⟨w.heap.size,k*8+i,none⟩=some y:=fun i hi=>by
    have:=HOX.out.cellAt (k*8+i) (by omega)
    rw [this];exact ⟨_,List.getElem?_eq_getElem (by omega)⟩
   obtain ⟨z0,e0⟩:=cellk 0 (by omega);rw [Nat.add_zero] at e0;obtain ⟨z1,e1⟩:=cellk 1 (by omega);obtain ⟨z2,e2⟩:=cellk 2 (by omega);obtain ⟨z3,e3⟩:=cellk 3 (by omega);obtain ⟨z4,e4⟩:=cellk 4 (by omega);obtain ⟨z5,e5⟩:=cellk 5 (by omega);obtain ⟨z6,e6⟩:=cellk 6 (by omega);obtain ⟨z7,e7⟩:=cellk 7 (by omega);have fr:=HOX.out.frozenAt;have S1:=HOX.out.stored (k*8) (.int .i64 (offN o L k:Int));have S2:=S1.1.stored (k*8+1) (.int .i64 x.code);have S3:=S2.1.stored (k*8+2) (.int .i64 x.arg);have S4:=S3.1.stored (k*8+3) (.int .i64 (x.line:Int));have S5:=S4.1.stored (k*8+4) (.bool x.start);have S6:=S5.1.stored (k*8+5) (.slice va vn vc);have S7:=S6.1.stored (k*8+6) (.int .i64 x.depth);have S8:=S7.1.stored (k*8+7) (.bool x.ent);have HO2:=hid (HS.out▸S8.1);have GG:=hid (((((((S1.2.trans S2.2).trans S3.2).trans S4.2).trans S5.2).trans S6.2).trans S7.2).trans S8.2);clear cellk hlen S1 S2 S3 S4 S5 S6 S7 S8 d0 d1 d2 d3 d4 d5 d6;obtain ⟨ws,hws⟩:∃ W,((((((((wx.setCell ⟨w.heap.size,k*8,none⟩ (.int .i64 (offN o L k:Int))).setCell ⟨w.heap.size,k*8+1,none⟩ (.int .i64 x.code)).setCell ⟨w.heap.size,k*8+2,none⟩ (.int .i64 x.arg)).setCell ⟨w.heap.size,k*8+3,none⟩ (.int .i64 (x.line:Int))).setCell ⟨w.heap.size,k*8+4,none⟩ (.bool x.start)).setCell ⟨w.heap.size,k*8+5,none⟩ (.slice va vn vc)).setCell ⟨w.heap.size,k*8+6,none⟩ (.int .i64 x.depth)).setCell ⟨w.heap.size,k*8+7,none⟩ (.bool x.ent))=W:=⟨_,rfl⟩;rw [hws] at HO2 GG;have HWS:=hid hws;clear hws;have HBS:=hid (HBX.out.grown GG.out HBX.out.size (fun j hj=>by injection hj with e;omega));go_upto_region 6 with fail;rw [HWS.out];clear q0 q1 q2 q3 q4 q5 q6 e0 e1 e2 e3 e4 e5 e6 e7 fr;have hlen2:(headPl (k+1) X R').length=n*8:=HO2.out.1;have ck:∀ i,i<8→ws.cell? ⟨w.heap.size,k*8+i,none⟩=(plC ⟨(offN o L k:Int),x,va,vn,vc⟩)[i]?:=fun i hi=>by
    rw [HO2.out.cellAt (k*8+i) (by omega),headPl_at k X hkX R' i hi,XK.out]
   have f0:ws.cell? ⟨w.heap.size,k*8,none⟩=some (.int .i64 (offN o L k:Int)):=ck 0 (by omega);have f1:ws.cell? ⟨w.heap.size,k*8+1,none⟩=some (.int .i64 x.code):=ck 1 (by omega);have f2:ws.cell? ⟨w.heap.size,k*8+2,none⟩=some (.int .i64 x.arg):=ck 2 (by omega);have f3:ws.cell? ⟨w.heap.size,k*8+3,none⟩=some (.int .i64 (x.line:Int)):=ck 3 (by omega);have f4:ws.cell? ⟨w.heap.size,k*8+4,none⟩=some (.bool x.start):=ck 4 (by omega);have f5:ws.cell? ⟨w.heap.size,k*8+5,none⟩=some (.slice va vn vc):=ck 5 (by omega);have f6:ws.cell? ⟨w.heap.size,k*8+6,none⟩=some (.int .i64 x.depth):=ck 6 (by omega);have f7:ws.cell? ⟨w.heap.size,k*8+7,none⟩=some (.bool x.ent):=ck 7 (by omega);have EP:=hid (i_endP (offN o L k:Int) x va vn vc ws (by omega) (by omega));have HSZ:Hid ((offN o L k:Int)+sizZ x.code=(offN o L (k+1):Int)):=hid (by
    rw [HOS.out];have hcb:codeB x.code=true:=by
     have h:=(HF.out.op _ (List.getElem_mem hkL));rw [HLK.out] at h
     rcases h with h|h
     ·rcases h with h|h <;> rw [h] <;> decide
     ·have h2:=insB_parts _ h
      unfold codeB;rw [decide_eq_true h2.1.1,decide_eq_true h2.1.2];rfl
    unfold sizZ sizX;rw [if_pos hcb];omega)
   clear ck hlen2;unfold plV at EP;go_wp2_with fail;refine EP.out.mono ?_;rintro e w2 ⟨rfl,b2⟩;have HO3:=hid (owns3_below HO2.out b2);have HB3:=hid (HBS.out.trans (b2.mono HBS.out.size));rw [HSZ.out];clear f0 f1 f2 f3 f4 f5 f6 f7 b2;go_wp2;go_roundw
   case rel=>exact ⟨k+1,R',by omega,by go_num,rfl,HR'.out,HO3,HB3⟩
   case measure=>simp [intOf] <;> omega
  ·obtain rfl:k=n:=by omega
   have hR0:R=[]:=List.length_eq_zero_iff.1 (by rw [hR];simp);subst hR0;have k1:¬ (k:Int)<(k:Int):=by omega
   obtain ⟨n,hn⟩:∃ n,k=n:=⟨_,rfl⟩;rw [hn] at HO HN HXL k1 ⊢;clear hn hR hk hlt hof;have hnn:n≤3000:=by rw [← HN.out];exact HF.out.nn
   have HO1:Hid (wr.ownsRow w.heap.size 42 8 (.slice (some ⟨w.heap.size,0,none⟩) n n) n (plsV (mnd o L X 0))):=hid (by
    have h:=HO.out;unfold headPl at h;rw [List.take_of_length_le (by rw [HXL.out];exact Nat.le_refl _),List.append_nil] at h;rw [mnd_zero];exact h)
   rename World=>wl
   go_wp2_with fail
   go_loopw [10,11,36] (fun _ _ i wr=>∃ k:Nat,k≤n∧i=.int .i64 (k:Int)∧Hid (wr.ownsRow w.heap.size 42 8 (.slice (some ⟨w.heap.size,0,none⟩) n n) n (plsV (mnd o L X k)))∧Hid (Below w.heap.size w wr)) (fun _ _ i _=>n - (intOf i).toNat)
   case atStart=>exact ⟨0,Nat.zero_le _,rfl,HO1,HB⟩
   case round =>
    obtain ⟨k,hk,rfl,HO2,HB2⟩:=hrel;have hB2:=HB2.out.size;have hgl2:w.heap.size<wr.heap.size:=(HO2.out.lt w.heap.size rfl).2
    by_cases hlt:k<n
    ·have hkL:k<L.length:=by rw [HN.out];exact hlt
     have hkX:k<X.length:=by rw [HXL.out];exact hlt
     obtain ⟨x0,x1,g,hga,hg,c0,c1,c2,c3,c4,c5,c6⟩:=HPA.out k hkL hkX;subst hga;have d0:=(HB2.out.cell (p:=⟨g,k*7,none⟩) hg).trans c0;have d1:=(HB2.out.cell (p:=⟨g,k*7+1,none⟩) hg).trans c1;have d2:=(HB2.out.cell (p:=⟨g,k*7+2,none⟩) hg).trans c2;have d3:=(HB2.out.cell (p:=⟨g,k*7+3,none⟩) hg).trans c3;have d4:=(HB2.out.cell (p:=⟨g,k*7+4,none⟩) hg).trans c4;have d5:=(HB2.out.cell (p:=⟨g,k*7+5,none⟩) hg).trans c5;have d6:=(HB2.out.cell (p:=⟨g,k*7+6,none⟩) hg).trans c6;obtain ⟨x,hx⟩:∃ x,L[k]=x:=⟨_,rfl⟩;obtain ⟨y,hy⟩:∃ y,X[k]=y:=⟨_,rfl⟩;have HLK:=hid hx;have XK:=hid hy;rw [hx] at d0 d1 d2 d3 d5 d6 x1;rw [hy] at x0 x1 d4;clear hx hy c0 c1 c2 c3 c4 c5 c6;obtain ⟨yo,yi,va,vn,vc⟩:=y;dsimp only at x0 x1 d4;subst x0;subst x1;rename ItL=>x
     have k0:(0:Int)≤(k:Int):=by omega
     have k2:(k:Int)<(n:Int):=by omega
     have hxl:x.line<PX.length:=by
      have h:=HF.out.ln _ (List.getElem_mem hkL);rw [HLK.out,plL_length] at h;exact h
     have NX:=hid (heap_alloc_new wr (.cells #[.int .i64 x.code,.int .i64 x.arg,.int .i64 (x.line:Int),.bool x.start,.slice va vn vc,.int .i64 x.depth,.bool x.ent] 40));have BX:Hid (Below wr.heap.size wr (wr.alloc (.cells #[.int .i64 x.code,.int .i64 x.arg,.int .i64 (x.line:Int),.bool x.start,.slice va vn vc,.int .i64 x.depth,.bool x.ent] 40))):=hid ((Below.refl _ _).alloc (Nat.le_refl _) _);have HOX:=hid (HO2.out.alloc (.cells #[.int .i64 x.code,.int .i64 x.arg,.int .i64 (x.line:Int),.bool x.start,.slice va vn vc,.int .i64 x.depth,.bool x.ent] 40));obtain ⟨wx,hwx⟩:∃ W,wr.alloc (.cells #[.int .i64 x.code,.int .i64 x.arg,.int .i64 (x.line:Int),.bool x.start,.slice va vn vc,.int .i64 x.depth,.bool x.ent] 40)=W:=⟨_,rfl⟩;rw [hwx] at NX BX HOX;have HWX:=hid hwx;have HBX:=hid (HB2.out.trans (BX.out.mono hB2));clear hwx;go_upto_region 11 with fail;rw [HWX.out];have q0:wx.cell? ⟨wr.heap.size,0,none⟩=some (.int .i64 x.code):=(blk NX.out).1 0 _ rfl;have q1:wx.cell? ⟨wr.heap.size,1,none⟩=some (.int .i64 x.arg):=(blk NX.out).1 1 _ rfl;have q2:wx.cell? ⟨wr.heap.size,2,none⟩=some (.int .i64 (x.line:Int)):=(blk NX.out).1 2 _ rfl;have q3:wx.cell? ⟨wr.heap.size,3,none⟩=some (.bool x.start):=(blk NX.out).1 3 _ rfl;have q4:wx.cell? ⟨wr.heap.size,4,none⟩=some (.slice va vn vc):=(blk NX.out).1 4 _ rfl;have q5:wx.cell? ⟨wr.heap.size,5,none⟩=some (.int .i64 x.depth):=(blk NX.out).1 5 _ rfl;have q6:wx.cell? ⟨wr.heap.size,6,none⟩=some (.bool x.ent):=(blk NX.out).1 6 _ rfl;have KO:=hid (i_kindOf pa pc PX x va vn vc wx hl (HR.out.below HBX.out) hxl);clear d0 d1 d2 d3 d4 d5 d6;unfold itA at KO;go_wp2_with fail;refine KO.out.mono ?_;rintro e w2 ⟨rfl,b2⟩;have HBX2:=hid (HBX.out.trans (b2.mono HBX.out.size));have HO3:=hid (owns3_below HOX.out b2);have NX2:=hid ((b2.block _ (blk NX.out).2.2).trans NX.out);have hKJ:=kind_jump HF.out k hkL;rw [HLK.out] at hKJ;have HKJ:=hid hKJ;obtain ⟨kv,hkv⟩:∃ v,kindP (plL PX) x=v:=⟨_,rfl⟩;rw [hkv] at HKJ ⊢;clear b2 q0 q1 q2 q3 q4 q5 q6 hKJ hkv;have XI:Hid (X[k].it=x):=hid (by rw [XK.out])
     by_cases h2:kv=2
     ·subst h2
      have hj:=HKJ.out.2 rfl;have HJ:=hid hj;obtain ⟨ha0,ha1⟩:0≤x.arg∧x.arg<(n:Int):=by
       have h:=HF.out.ju _ (List.getElem_mem hkL);rw [HLK.out,HN.out] at h;exact h hj
      obtain ⟨m,hm⟩:=Int.eq_ofNat_of_zero_le ha0;have HM:=hid hm;rw [hm] at NX2 ha1;have hmn:m<n:=by omega
      have hmX:m<X.length:=by rw [HXL.out];exact hmn
      have hmL:m<L.length:=by rw [HN.out];exact hmn
      have m0:(0:Int)≤(m:Int):=by omega
      have XM:Hid (X[m].off=(offN o L m:Int)):=hid (HPA.out m hmL hmX).1;have hml:(plsV (mnd o L X k)).length=n*8:=HO3.out.1;have ck:∀ j (hj:j<X.length) (hj2:j<(mnd o L X k).length) i,i<8→w2.cell? ⟨w.heap.size,j*8+i,none⟩=(plC (mnd o L X k)[j])[i]?:=fun j hj hj2 i hi=>by
       rw [HO3.out.cellAt (j*8+i) (by have:=HXL.out;omega)];exact plsV_at _ j hj2 i hi
      have fM:w2.cell? ⟨w.heap.size,m*8,none⟩=some (.int .i64 (offN o L m:Int)):=by
       have h:=ck m hmX (by rw [mnd_len];exact hmX) 0 (by omega);rw [mnd_get _ _ _ _ _ hmX] at h;rw [Nat.add_zero] at h;rw [h,← XM.out]
       split <;> rfl
      have ck2:∀ i,i<8→w2.cell? ⟨w.heap.size,k*8+i,none⟩=(plC ⟨(offN o L k:Int),x,va,vn,vc⟩)[i]?:=fun i hi=>by
       rw [ck k hkX (by rw [mnd_len];exact hkX) i hi,mnd_get _ _ _ _ _ hkX,if_neg (by omega),XK.out]
      have HSS:Hid (∀ W,Below w2.heap.size w2 W→W.cell? ⟨wr.heap.size,1,none⟩=some (.int .i64 (m:Int))∧W.cell? ⟨w.heap.size,m*8,none⟩=some (.int .i64 (offN o L m:Int))∧W.cell? ⟨w.heap.size,k*8,none⟩=some (.int .i64 (offN o L k:Int))∧W.cell? ⟨w.heap.size,k*8+1,none⟩=some (.int .i64 x.code)∧W.cell? ⟨w.heap.size,k*8+2,none⟩=some (.int .i64 (m:Int))∧W.cell? ⟨w.heap.size,k*8+3,none⟩=some (.int .i64 (x.line:Int))∧W.cell? ⟨w.heap.size,k*8+4,none⟩=some (.bool x.start)∧W.cell? ⟨w.heap.size,k*8+5,none⟩=some (.slice va vn vc)∧W.cell? ⟨w.heap.size,k*8+6,none⟩=some (.int .i64 x.depth)∧W.cell? ⟨w.heap.size,k*8+7,none⟩=some (.bool x.ent)):=hid (fun W hb=>by
       have hz:w.heap.size<w2.heap.size:=(HO3.out.lt w.heap.size rfl).2;have kp:∀ p,W.cell? ⟨w.heap.size,p,none⟩=w2.cell? ⟨w.heap.size,p,none⟩:=fun p=>hb.cell (p:=⟨w.heap.size,p,none⟩) hz
       refine ⟨(hb.cell (p:=⟨wr.heap.size,1,none⟩) (blk NX2.out).2.2).trans ((blk NX2.out).1 1 _ rfl),(kp _).trans fM,(kp _).trans (ck2 0 (by omega)),(kp _).trans (ck2 1 (by omega)),?_,(kp _).trans (ck2 3 (by omega)),(kp _).trans (ck2 4 (by omega)),(kp _).trans (ck2 5 (by omega)),(kp _).trans (ck2 6 (by omega)),(kp _).trans (ck2 7 (by omega))⟩;rw [kp,ck2 2 (by omega),← HM.out];rfl)
      have SS:=HSS;have DX:Hid (Below w2.heap.size w2 w2.drew):=hid (Below.refl _ _).drew;have hok:=offN_le o L k (by omega);have hok2:=offN_le o L (k+1) (by omega);have hom:=offN_le o L m (by omega);have HSZ:Hid ((offN o L k:Int)+sizZ x.code=(offN o L (k+1):Int)):=hid (by
       rw [offN_succ o L k hkL,HLK.out];have hcb:codeB x.code=true:=by rcases HJ.out with h|h <;> rw [h] <;> decide
       unfold sizZ sizX;rw [if_pos hcb];omega)
      have EP:=hid (fun W=>i_endP (offN o L k:Int) { x with arg:=(m:Int) } va vn vc W (by omega) (by omega));clear ck ck2 fM hml hj ha0 ha1 hm hom;unfold plV at EP;dsimp only at EP;rw [HSZ.out] at EP;go_upto_region 12 with fail;refine E_start (S:=(fun w'=>w'.cell? ⟨wr.heap.size,1,none⟩=some (.int .i64 (m:Int))∧w'.cell? ⟨w.heap.size,m*8,none⟩=some (.int .i64 (offN o L m:Int))∧w'.cell? ⟨w.heap.size,k*8,none⟩=some (.int .i64 (offN o L k:Int))∧w'.cell? ⟨w.heap.size,k*8+1,none⟩=some (.int .i64 x.code)∧w'.cell? ⟨w.heap.size,k*8+2,none⟩=some (.int .i64 (m:Int))∧w'.cell? ⟨w.heap.size,k*8+3,none⟩=some (.int .i64 (x.line:Int))∧w'.cell? ⟨w.heap.size,k*8+4,none⟩=some (.bool x.start)∧w'.cell? ⟨w.heap.size,k*8+5,none⟩=some (.slice va vn vc)∧w'.cell? ⟨w.heap.size,k*8+6,none⟩=some (.int .i64 x.depth)∧w'.cell? ⟨w.heap.size,k*8+7,none⟩=some (.bool x.ent))) 19 (by kernel_rfl) (SS.out _ DX.out) (fun hHeld=>?_);refine E_tk 0 ?_
      try simp only [Act.put,eS1,eS2,eS3,eA1,eA2]
      refine E_tk 1 ?_
      try simp only [Act.put,eS1,eS2,eS3,eA1,eA2,eA3]
      refine E_tk 2 ?_
      try simp only [Act.put,eS1,eS2,eS3,eA1,eA2,eA3]
      refine E_tk 3 ?_
      try simp only [Act.put,eS1,eS2,eS3,eA1,eA2,eA3]
      refine E_tk 4 ?_
      try simp only [Act.put,eS1,eS2,eS3,eA1,eA2,eA3]
      refine E_tk 5 ?_
      try simp only [Act.put,eS1,eS2,eS3,eA1,eA2,eA3]
      refine E_tk 6 ?_
      try simp only [Act.put,eS1,eS2,eS3,eA1,eA2,eA3]
      refine E_tk 7 ?_
      try simp only [Act.put,eS1,eS2,eS3,eA1,eA2,eA3]
      refine E_tk 8 ?_
      try simp only [Act.put,eS1,eS2,eS3,eA1,eA2,eA3]
      refine E_tk 9 ?_
      try simp only [Act.put,eS1,eS2,eS3,eA1,eA2,eA3]
      refine E_tk 10 ?_
      try simp only [Act.put,eS1,eS2,eS3,eA1,eA2,eA3]
      refine E_tk 11 ?_
      try simp only [Act.put,eS1,eS2,eS3,eA1,eA2,eA3]
      refine E_tk 12 ?_
      try simp only [Act.put,eS1,eS2,eS3,eA1,eA2,eA3]
      refine E_ready (rs:=[13]) (by kernel_rfl) (by decide) ?_;refine AllE.cons (o:=_) rfl (fun K hK=>?_) AllE.nil
      try simp only [eA1,eA2,eA3]
      go_simp
      refine (EP.out _).mono ?_;rintro e w4 ⟨rfl,b4⟩;have HB4:=hid (DX.out.trans (b4.mono DX.out.size));clear b4;refine hK.out _ _ (SS.out _ HB4.out) (fun hHeld=>?_);clear hK K
      try simp only [Act.put,eS1,eS2,eS3,eA1,eA2,eA3]
      refine E_tk 14 ?_
      try simp only [Act.put,eS1,eS2,eS3,eA1,eA2,eA3]
      refine E_tk 15 ?_
      try simp only [Act.put,eS1,eS2,eS3,eA1,eA2,eA3]
      refine E_tk 16 ?_
      try simp only [Act.put,eS1,eS2,eS3,eA1,eA2,eA3]
      refine E_tk 17 ?_
      try simp only [Act.put,eS1,eS2,eS3,eA1,eA2,eA3]
      refine E_tk 18 ?_
      try simp only [Act.put,eS1,eS2,eS3,eA1,eA2,eA3]
      refine E_last (o:=_) (by kernel_rfl) rfl (by kernel_rfl) (fun K hK=>?_)
      try simp only [eA1,eA2,eA3]
      have HO5:=hid (owns3_below HO3.out HB4.out);have fr:=HO5.out.frozenAt;obtain ⟨_,_,_,_,e2,_⟩:=hHeld
      go_simp
      refine hK.out _ _ ?_;clear hK K;have hwr:IntKind.i64.wrap ((offN o L m:Int) - (offN o L (k+1):Int))=(offN o L m:Int) - (offN o L (k+1):Int):=IntWalk.i64_in _ (by have:=offN_le o L m (by omega);omega);rw [hwr];have S1:=HO5.out.stored (k*8+1+1) (.int .i64 ((offN o L m:Int) - (offN o L (k+1):Int)));have HL6:Hid ((plsV (mnd o L X k)).set (k*8+1+1) (.int .i64 ((offN o L m:Int) - (offN o L (k+1):Int)))=plsV (mnd o L X (k+1))):=hid (by
       have h1:=plsV_arg (mnd o L X k) k (by rw [mnd_len];exact hkX) ((offN o L m:Int) - (offN o L (k+1):Int));have h2:=mnd_get o L X k k hkX (by rw [mnd_len];exact hkX);rw [if_neg (by omega)] at h2;have h3:plA o L k X[k].it=(offN o L m:Int) - (offN o L (k+1):Int):=by
        rw [XI.out];unfold plA;rw [if_pos HJ.out,HM.out];rfl
       rw [h2,← h3,mnd_set o L X k hkX] at h1;rw [← h3];exact h1)
      have HO6:Hid _:=hid (HL6.out▸S1.1);have HB5:=hid (HBX2.out.trans (HB4.out.mono HBX2.out.size));have HB6:=hid (HB5.out.grown S1.2 HB5.out.size (fun j hj=>by injection hj with e;omega));clear S1 hwr fr e2;go_wp2;go_roundw
      case rel=>exact ⟨k+1,by omega,by go_num,HO6,HB6⟩
      case measure=>simp [intOf] <;> omega
     ·have d2:(kv == 2)=false:=by simpa using h2
      have HO4:Hid (w2.ownsRow w.heap.size 42 8 (.slice (some ⟨w.heap.size,0,none⟩) n n) n (plsV (mnd o L X (k+1)))):=hid (by
       rw [mnd_same o L X k hkX (by
        rw [XI.out];unfold plA;rw [if_neg (fun h=>h2 (HKJ.out.1 h))])]
       exact HO3.out)
      clear h2;go_wp2;go_roundw
      case rel=>exact ⟨k+1,by omega,by go_num,HO4,HBX2⟩
      case measure=>simp [intOf] <;> omega
    ·obtain rfl:k=n:=by omega
     have k2:¬ (k:Int)<(k:Int):=by omega
     have HFIN:Hid ((mnd o L X k).map (fun x=>(x.off,x.it))=(plcF o L 0 L).map fun y=>((y.1:Int),y.2)):=hid (by
      have h:=mnd_all o L X (by rw [HXL.out,HN.out]) (fun j h h'=>⟨(HPA.out j h h').1,(HPA.out j h h').2.1⟩);rw [HN.out] at h;exact h)
     have HLN:Hid ((mnd o L X k).length=k):=hid (by rw [mnd_len,HXL.out]);go_wp2;go_ret;exact ⟨_,rfl,mnd o L X k,by rw [HLN.out];exact HO2.out,HFIN.out,HB2.out⟩
end Go.Proofs.YtcflojdkaddemaaGreatDoor

namespace Go.Proofs.YtcflojdkaddemaaGreatDoor
open Go.RowKit Go.Lib
set_option maxRecDepth 100000 in
theorem i_imageOf (fm inl:Int) (fo sp:Bool) (f:Nat) (w:World) (hf:f≤1000) :
  Calls Tryz.prog 60 #[.agg #[.int .i64 fm,.int .i64 inl,.bool fo,.bool sp],.int .i64 (f:Int)] w fun e w'=>e=.returned (.int .i64 ((if sp=true then f % 2 else 0:Nat):Int))∧Below w.heap.size w w':=by
 have HBX:Hid (Below w.heap.size w (w.alloc (.cells #[.int .i64 fm,.int .i64 inl,.bool fo,.bool sp] 26))):=hid ((Below.refl _ _).alloc (Nat.le_refl _) _)
 cases sp with
 | false =>
  go_enter Tryz.func60,Tryz.ntmps60
  go_wp2;go_ret;exact ⟨rfl,HBX.out⟩
 | true =>
  have hm:(((if true=true then f % 2 else 0):Nat):Int)=(f:Int) % 2:=by simp
  rw [hm];clear hm
  go_enter Tryz.func60,Tryz.ntmps60
  go_wp2;go_ret;exact ⟨rfl,HBX.out⟩
end Go.Proofs.YtcflojdkaddemaaGreatDoor

namespace Go.Proofs.YtcflojdkaddemaaGreatDoor
open Go.RowKit Go.Shelf Go.Lib
attribute [local go_sem] Oper.semAt_some
def Kp2 (a b:Nat) (W W':World):Prop:=W'.heap[a]?=W.heap[a]?∧W'.heap[b]?=W.heap[b]?
theorem Kp2.trans {a b:Nat} {A B C:World} (h:Kp2 a b A B) (k:Kp2 a b B C):Kp2 a b A C:=⟨k.1.trans h.1,k.2.trans h.2⟩
end Go.Proofs.YtcflojdkaddemaaGreatDoor
