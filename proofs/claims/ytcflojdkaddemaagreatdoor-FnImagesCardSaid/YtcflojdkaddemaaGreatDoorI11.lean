/- Parts of the proof. -/
import Derived.Test.YtcflojdkaddemaaGreatDoorI10
namespace Go.Proofs.YtcflojdkaddemaaGreatDoor
open Go.RowKit Go.Lib Go.Maps
structure Sm8 (t:CiS):Prop where
 d1:-1099511627776≤t.depth
 d2:t.depth≤1099511627776
 n:t.items.length≤4000000
theorem CiAt.len {T:JT} {P:Program} {B cb:Nat} {w:World} {K:KcE} {t:CiS} {iv:Value} {X:List ItW} {sc:ScL} {b:BdW} {jv:Value} {line:Nat} (h:CiAt T P B cb w K t iv X sc b jv line):X.length=t.items.length:=by rw [← h.cc.items,List.length_map]
theorem CiAt.cells {T:JT} {P:Program} {B cb:Nat} {w:World} {K:KcE} {t:CiS} {iv:Value} {X:List ItW} {sc:ScL} {b:BdW} {jv:Value} {line:Nat} (h:CiAt T P B cb w K t iv X sc b jv line) :
  w.cell? ⟨b.bb,0,none⟩=some (.pointer (some ⟨cb,0,none⟩))∧w.cell? ⟨cb,3,none⟩=some (.bool K.E.framed)∧w.cell? ⟨cb,7,none⟩=some (.int .i64 t.depth)∧w.frozen? ⟨cb,7,none⟩=false :=
 ⟨(blk h.bd.row).1 0 _ rfl,(blk h.cc.row).1 3 _ rfl,(blk h.cc.row).1 7 _ rfl,(blk h.cc.row).2.1 7⟩
theorem em_depth {B cb:Nat} {K:KcE} {t1:CiS} {iv iv1:Value} {X1:List ItW} {sc:ScL} {b:BdW} {jv:Value} {line:Nat} {w w0 w1:World} (dd:Int) (h0:Below w.heap.size w w0) (hC:CiAt jT Tryz.prog B cb w1 K t1 iv1 X1 sc b jv line) (hS:Step cb (ME iv b.bb) (ME iv1 b.bb) w0 w1) :
  EmR B cb K (incJ t1 dd) iv sc b jv line w (.returned (.tuple #[])) (w1.setCell ⟨cb,7,none⟩ (.int .i64 (t1.depth+dd))) :=
 ⟨rfl,iv1,X1,hid (hC.cellC jT_ok 7 _ rfl rfl rfl rfl rfl),hid ((Step.of_below h0).trans (hS.trans (cellC_step _ 7 _)))⟩
set_option maxRecDepth 100000 in
set_option maxHeartbeats 2000000 in
theorem i_pushZero (B cb:Nat) (K:KcE) (t:CiS) (iv:Value) (X:List ItW) (sc:ScL) (b:BdW) (jv:Value) (line:Nat) (w:World)
  (h:CiAt jT Tryz.prog B cb w K t iv X sc b jv line) (hc:sc.chain.length≤1048576) (hs:Sm8 t) :
  Calls Tryz.prog 226 #[.pointer (some ⟨b.bb,0,none⟩)] w (EmR B cb K (numJ K.E t 0 line sc.chain) iv sc b jv line w):=by
 have HE:=hid (i_emit B cb K t iv X sc b jv line 0 0 w h hc (by rw [h.len];have:=hs.n;omega));have hd1:=hs.d1;have hd2:=hs.d2;have hwd:IntKind.i64.wrap (t.depth+1)=t.depth+1:=IntWalk.i64_in _ (by omega);clear h hc hs
 go_enter Tryz.func226,Tryz.ntmps226
 go_wp2_with (go_at_call 185;(with_reducible refine HE.out.mono ?_);rintro e w1 ⟨rfl,iv1,X1,HC1,HS1⟩;have e0:=HC1.out.cells.1;have e7:w1.cell? ⟨cb,7,none⟩=some (.int .i64 t.depth):=HC1.out.cells.2.2.1;have g7:=HC1.out.cells.2.2.2)
 go_end0
 exact em_depth 1 (Below.refl _ _) HC1.out HS1.out
def accV (fr:Bool) (d c1 c2 z:Int):Int×Int:=if fr=true then (c2,if 0<z then z+1 else z) else (c1,d+z)
theorem acc_load (E:CmpE) (d:Int) (x:ScL) (i:Nat):accV E.framed d 3 1 (slotZ E x i)=placeZ E d x i:=(place_slot E d x i).symm
theorem acc_store (E:CmpE) (d:Int) (x:ScL) (i:Nat):accV E.framed d 4 2 (slotZ E x i)=((placeZ E d x i).1+1,(placeZ E d x i).2):=by
 rw [place_slot];unfold accV
 by_cases h:E.framed=true
 ·rw [if_pos h,if_pos h];rfl
 ·rw [if_neg h,if_neg h];rfl
theorem two_ints8 {a b a' b':Int} (h1:a=a') (h2:b=b'):Ending.returned (.tuple #[.int .i64 a,.int .i64 b])=.returned (.tuple #[.int .i64 a',.int .i64 b']):=by rw [h1,h2]
set_option maxRecDepth 100000 in
set_option maxHeartbeats 2000000 in
theorem i_access (B cb:Nat) (K:KcE) (t:CiS) (iv:Value) (X:List ItW) (sc:ScL) (b:BdW) (jv:Value) (line:Nat) (c1 c2 z:Int) (w:World)
  (h:CiAt jT Tryz.prog B cb w K t iv X sc b jv line) (hs:Sm8 t) (hz1:-1099511627776≤z) (hz2:z≤1099511627776) :
  Calls Tryz.prog 229 #[.pointer (some ⟨b.bb,0,none⟩),.int .i64 c1,.int .i64 c2,.int .i64 z] w fun e w' =>
   e=.returned (.tuple #[.int .i64 (accV K.E.framed t.depth c1 c2 z).1,.int .i64 (accV K.E.framed t.depth c1 c2 z).2])∧Below w.heap.size w w':=by
 have hd1:=hs.d1;have hd2:=hs.d2;obtain ⟨e0,e3,e7,_⟩:=h.cells;have hw1:IntKind.i64.wrap (t.depth+z)=t.depth+z:=IntWalk.i64_in _ (by omega);have hw2:IntKind.i64.wrap (z+1)=z+1:=IntWalk.i64_in _ (by omega);have B0:Hid (∀ q,Below w.heap.size w (w.drewN q)):=hid (fun q=>below_drewN (Below.refl _ _) q);obtain ⟨fr,hfr⟩:∃ fr,K.E.framed=fr:=⟨_,rfl⟩;rw [hfr] at e3 ⊢;obtain ⟨r,hr⟩:∃ r,accV fr t.depth c1 c2 z=r:=⟨_,rfl⟩;rw [hr];have HR:=hid hr;clear h hs hfr hr
 go_enter Tryz.func229,Tryz.ntmps229
 cases fr
 ·go_wp2_with fail
  go_quiet (fail);go_wp2;go_ret2;refine ⟨two_ints8 ?_ ?_,B0.out _⟩
  all_goals
   rw [← HR.out];unfold accV
   simp
 ·by_cases hp:0<z
  ·go_wp2_with fail
   go_ret2;refine ⟨two_ints8 ?_ ?_,Below.refl _ _⟩
   all_goals
    rw [← HR.out];unfold accV;simp [hp]
  ·go_wp2_with fail
   go_ret2;refine ⟨two_ints8 ?_ ?_,Below.refl _ _⟩
   all_goals
    rw [← HR.out];unfold accV
    first
     | (simp [hp];done)
     | (simp [hp];omega)
set_option maxRecDepth 100000 in
set_option maxHeartbeats 2000000 in
theorem i_store (B cb:Nat) (K:KcE) (t:CiS) (iv:Value) (X:List ItW) (sc:ScL) (b:BdW) (jv:Value) (line:Nat) (x:ScL) (i:Nat) (w:World)
  (h:CiAt jT Tryz.prog B cb w K t iv X sc b jv line) (hc:sc.chain.length≤1048576) (hs:Sm8 t) (hz1:-1099511627776≤slotZ K.E x i) (hz2:slotZ K.E x i≤1099511627776) :
  Calls Tryz.prog 223 #[.pointer (some ⟨b.bb,0,none⟩),.int .i64 (slotZ K.E x i)] w (EmR B cb K (storeJ K.E t x i line sc.chain) iv sc b jv line w):=by
 have HP:=hid (i_access B cb K t iv X sc b jv line 4 2 (slotZ K.E x i) w h hs hz1 hz2);have HE:Hid (∀ W,Below w.heap.size w W→Calls Tryz.prog 185 #[.pointer (some ⟨b.bb,0,none⟩),.int .i64 ((placeZ K.E t.depth x i).1+1),.int .i64 (placeZ K.E t.depth x i).2] W (EmR B cb K (emitJ K.E t ((placeZ K.E t.depth x i).1+1) (placeZ K.E t.depth x i).2 line sc.chain) iv sc b jv line W)):=hid (fun W hb=>i_emit B cb K t iv X sc b jv line _ _ W (h.below hb) hc (by rw [h.len];have:=hs.n;omega));have hd1:=hs.d1;have hd2:=hs.d2;have hwd:IntKind.i64.wrap (t.depth - 1)=t.depth - 1:=IntWalk.i64_in _ (by omega);unfold storeJ;rw [acc_store] at HP;obtain ⟨z,hz⟩:∃ z,slotZ K.E x i=z:=⟨_,rfl⟩;rw [hz] at HP ⊢;obtain ⟨q,hq⟩:∃ q,placeZ K.E t.depth x i=q:=⟨_,rfl⟩;rw [hq] at HP HE ⊢;obtain ⟨q0,q1⟩:=q;dsimp only at HP HE ⊢;clear h hc hs hz1 hz2 hz hq
 go_enter Tryz.func223,Tryz.ntmps223
 go_wp2_with (first
  | (go_at_call 229;(with_reducible refine HP.out.mono ?_);rintro e w1 ⟨rfl,b1⟩)
  | (go_at_call 185;(with_reducible refine (HE.out _ b1).mono ?_);rintro e w2 ⟨rfl,iv1,X1,HC1,HS1⟩;have e0:=HC1.out.cells.1;have e7:w2.cell? ⟨cb,7,none⟩=some (.int .i64 t.depth):=HC1.out.cells.2.2.1;have g7:=HC1.out.cells.2.2.2))
 go_end0
 exact em_depth (-1) b1 HC1.out HS1.out
end Go.Proofs.YtcflojdkaddemaaGreatDoor

namespace Go.Proofs.YtcflojdkaddemaaGreatDoor
open Go.RowKit Go.Lib Go.Maps
def LnR (B cb:Nat) (K:KcE) (t':CiS) (iv jv:Value) (sc:ScL) (b:BdW) (line:Nat) (w:World) (e:Ending) (w':World):Prop :=
 e=.returned (.tuple #[])∧∃ iv' jv' X',Hid (CiAt jT Tryz.prog B cb w' K t' iv' X' sc b jv' line)∧Hid (Step cb (ML iv jv b) (ML iv' jv' b) w w')
theorem infoJu:(Tryz.prog.info? 238).map (fun i=>(i.zero,i.size,i.bytes))=some (some (.agg #[.int .i64 0,.int .i64 0]),2,16):=by kernel_rfl
set_option maxRecDepth 100000 in
set_option maxHeartbeats 4000000 in
theorem i_jump (B cb:Nat) (K:KcE) (t:CiS) (iv:Value) (X:List ItW) (sc:ScL) (b:BdW) (jv:Value) (line:Nat) (code:Int) (l k:Nat) (w:World)
  (h:CiAt jT Tryz.prog B cb w K t iv X sc b jv line) (hc:sc.chain.length≤1048576) (hs:Sm8 t) (hj:t.jumps.length≤4000000) (hk:k=line) :
  Calls Tryz.prog 225 #[.pointer (some ⟨b.bb,0,none⟩),.int .i64 code,.int .i64 (l:Int)] w (LnR B cb K (jumpJ K.E t code l k sc.chain) iv jv sc b line w):=by
 subst hk;have HH:=hid h;have HXL:Hid (X.length=t.items.length):=hid h.len;obtain ⟨va,vc,rfl⟩:=own_sh h.cc.its;obtain ⟨ja,jc,rfl⟩:=own_sh h.bd.jr;obtain ⟨bb,hbb⟩:∃ bb,b.bb=bb:=⟨_,rfl⟩;have HBB:=hid hbb;rw [hbb];have EM:Hid (∀ W jv',CiAt jT Tryz.prog B cb W K { t with jumps:=t.jumps++[(X.length,l)] } (.slice va X.length vc) X sc b jv' k→Calls Tryz.prog 185 #[.pointer (some ⟨bb,0,none⟩),.int .i64 code,.int .i64 0] W (EmR B cb K (emitJ K.E { t with jumps:=t.jumps++[(X.length,l)] } code 0 k sc.chain) (.slice va X.length vc) sc b jv' k W)):=hid (fun W jv' hW=>by
  rw [← HBB.out];exact i_emit B cb K _ _ X sc b jv' k code 0 W hW hc (by rw [HXL.out];have:=hs.n;omega))
 have HSEP:=hid (h.sep jT_ok);have e0:w.cell? ⟨bb,0,none⟩=some (.pointer (some ⟨cb,0,none⟩)):=by rw [← hbb];exact h.cells.1
 have e9:w.cell? ⟨bb,9,none⟩=some (.slice ja t.jumps.length jc):=by rw [← hbb];exact (blk h.bd.row).1 9 _ rfl
 have e8:w.cell? ⟨cb,8,none⟩=some (.slice va X.length vc):=(blk h.cc.row).1 8 _ rfl;have SY:Hid (w.cell? ⟨bb,0,none⟩=some (.pointer (some ⟨cb,0,none⟩))∧w.cell? ⟨bb,9,none⟩=some (.slice ja t.jumps.length jc)∧w.cell? ⟨cb,8,none⟩=some (.slice va X.length vc)):=hid ⟨e0,e9,e8⟩;have HAL:Hid (Below w.heap.size w (w.alloc (.cells #[.int .i64 (X.length:Int),.int .i64 (l:Int)] 238))):=hid ((Below.refl _ _).alloc (Nat.le_refl _) _);have SX:Hid ((w.alloc (.cells #[.int .i64 (X.length:Int),.int .i64 (l:Int)] 238)).cell? ⟨bb,0,none⟩=some (.pointer (some ⟨cb,0,none⟩))∧(w.alloc (.cells #[.int .i64 (X.length:Int),.int .i64 (l:Int)] 238)).cell? ⟨bb,9,none⟩=some (.slice ja t.jumps.length jc)∧(w.alloc (.cells #[.int .i64 (X.length:Int),.int .i64 (l:Int)] 238)).cell? ⟨cb,8,none⟩=some (.slice va X.length vc)):=hid (by
  have h1:=HH.out.below HAL.out;refine ⟨?_,?_,(blk h1.cc.row).1 8 _ rfl⟩
  ·rw [← HBB.out];exact h1.cells.1
  ·rw [← HBB.out];exact (blk h1.bd.row).1 9 _ rfl)
 have HOW:Hid ((w.alloc (.cells #[.int .i64 (X.length:Int),.int .i64 (l:Int)] 238)).ownsRow B 238 2 (.slice ja t.jumps.length jc) t.jumps.length (juV t.jumps)):=hid (h.bd.jr.alloc _);have HNW:Hid (∀ j u,(#[.int .i64 (X.length:Int),.int .i64 (l:Int)].toList)[j]?=some u→(w.alloc (.cells #[.int .i64 (X.length:Int),.int .i64 (l:Int)] 238)).drew.cell? ((⟨w.heap.size,0,none⟩:Addr).add j)=some u):=hid (World.news_of_block (cs:=#[.int .i64 (X.length:Int),.int .i64 (l:Int)]) (t:=238) (fr:=(0,0)) (heap_alloc_new w _));obtain ⟨t0,ht,hy0,hy1,hy2⟩:=info_parts infoJu;have hm3:t.jumps.length+1≤maxLen:=by unfold maxLen;omega
 have hb3:(t.jumps.length+1)*16≤140737488355328:=by omega
 have HBW:Hid (B≤(w.alloc (.cells #[.int .i64 (X.length:Int),.int .i64 (l:Int)] 238)).heap.size):=hid (by have:=h.cc.lo;have:=h.cc.lt;simp;omega);have HROW:Hid (∀ w3,(w.alloc (.cells #[.int .i64 (X.length:Int),.int .i64 (l:Int)] 238)).drew.grownBy w3 (Value.slice ja t.jumps.length jc).ownBlock→w.grownBy w3 (Value.slice ja t.jumps.length jc).ownBlock∧w3.cell? ⟨bb,9,none⟩=some (.slice ja t.jumps.length jc)∧w3.frozen? ⟨bb,9,none⟩=false∧(w3.cell? ⟨bb,0,none⟩=some (.pointer (some ⟨cb,0,none⟩))∧w3.cell? ⟨bb,9,none⟩=some (.slice ja t.jumps.length jc)∧w3.cell? ⟨cb,8,none⟩=some (.slice va X.length vc))):=hid (fun w3 hg=>by
  have s:=HSEP.out;have hg2:w.grownBy w3 (Value.slice ja t.jumps.length jc).ownBlock:=⟨hg.os,hg.tape,hg.output,by have h2:(w.alloc _).heap.size≤w3.heap.size:=hg.size;simp at h2;omega,fun q hq hne=>(hg.block q (by show q<(w.alloc _).heap.size;simp;omega) hne).trans (Below.heap_alloc _ _ _ hq)⟩;have hr:=(hg2.block cb HH.out.cc.lt (fun e=>s.jc e.symm)).trans HH.out.cc.row;have hr2:=(hg2.block b.bb HH.out.bd.blt (fun e=>s.jb e.symm)).trans HH.out.bd.row;rw [HBB.out] at hr2;exact ⟨hg2,(blk hr2).1 9 _ rfl,(blk hr2).2.1 9,(blk hr2).1 0 _ rfl,(blk hr2).1 9 _ rfl,(blk hr).1 8 _ rfl⟩)
 have HJU:Hid (∀ w3 jv',w.grownBy w3 (Value.slice ja t.jumps.length jc).ownBlock→w3.ownsRow B 238 2 jv' (t.jumps.length+1) (juV t.jumps++#[.int .i64 (X.length:Int),.int .i64 (l:Int)].toList)→(∀ g,jv'.ownBlock=some g→(Value.slice ja t.jumps.length jc).ownBlock=some g∨w.heap.size≤g)→CiAt jT Tryz.prog B cb (w3.setCell ⟨bb,9,none⟩ jv') K { t with jumps:=t.jumps++[(X.length,l)] } (.slice va X.length vc) X sc b jv' k∧Step cb (ML (.slice va X.length vc) (.slice ja t.jumps.length jc) b) (ML (.slice va X.length vc) jv' b) w (w3.setCell ⟨bb,9,none⟩ jv')):=hid (fun w3 jv' hg ho hat=>by
  rw [← HBB.out];exact HH.out.jumped jT_ok X.length l hg (by rw [juV_append];exact ho) hat)
 clear h hc hs hj hbb
 go_enter Tryz.func225,Tryz.ntmps225
 go_upto_region 0 with fail;refine E_start (S:=(fun w'=>w'.cell? ⟨bb,0,none⟩=some (.pointer (some ⟨cb,0,none⟩))∧w'.cell? ⟨bb,9,none⟩=some (.slice ja t.jumps.length jc)∧w'.cell? ⟨cb,8,none⟩=some (.slice va X.length vc))) 19 (by kernel_rfl) (SY.out) (fun hHeld=>?_);refine E_tk 0 ?_
 try simp only [Act.put,eS1,eS2,eS3,eA1,eA2,eA3]
 refine E_tk 1 ?_
 try simp only [Act.put,eS1,eS2,eS3,eA1,eA2,eA3]
 refine E_tk 2 ?_
 try simp only [Act.put,eS1,eS2,eS3,eA1,eA2,eA3]
 refine E_tk 3 ?_
 try simp only [Act.put,eS1,eS2,eS3,eA1,eA2,eA3]
 refine E_tk 4 ?_
 try simp only [Act.put,eS1,eS2,eS3,eA1,eA2,eA3]
 refine E_tk 5 ?_
 try simp only [Act.put,eS1,eS2,eS3,eA1,eA2,eA3]
 refine E_tk 6 ?_
 try simp only [Act.put,eS1,eS2,eS3,eA1,eA2,eA3]
 refine E_tk 7 ?_
 try simp only [Act.put,eS1,eS2,eS3,eA1,eA2,eA3]
 refine E_tk 8 ?_
 try simp only [Act.put,eS1,eS2,eS3,eA1,eA2,eA3]
 refine E_tk 9 ?_
 try simp only [Act.put,eS1,eS2,eS3,eA1,eA2,eA3]
 refine E_tk 10 ?_
 try simp only [Act.put,eS1,eS2,eS3,eA1,eA2,eA3]
 refine E_tk 11 ?_
 try simp only [Act.put,eS1,eS2,eS3,eA1,eA2,eA3]
 refine E_tk 12 ?_
 try simp only [Act.put,eS1,eS2,eS3,eA1,eA2,eA3]
 refine E_tk 13 ?_
 try simp only [Act.put,eS1,eS2,eS3,eA1,eA2,eA3]
 refine E_tk 14 ?_
 try simp only [Act.put,eS1,eS2,eS3,eA1,eA2,eA3]
 refine E_ready (rs:=[15]) (by kernel_rfl) (by decide) ?_;refine AllE.cons (o:=_) rfl (fun K hK=>?_) AllE.nil
 try simp only [eA1,eA2,eA3]
 go_simp
 refine hK.out _ _ (SX.out) (fun hHeld=>?_);clear hK K
 try simp only [Act.put,eS1,eS2,eS3,eA1,eA2,eA3]
 refine E_ready (rs:=[16]) (by kernel_rfl) (by decide) ?_;refine AllE.cons (o:=_) rfl (fun K hK=>?_) AllE.nil;refine step_append_lies _ rfl (.tmp 10) (.tmp 21) 179 rfl B 238 t0 _ 2 16 Tryz.underlying179 ht hy0 hy1 hy2 rfl (by decide) (.slice ja t.jumps.length jc) t.jumps.length (juV t.jumps) rfl HOW.out.drew ⟨w.heap.size,0,none⟩ 1 1 #[.int .i64 (X.length:Int),.int .i64 (l:Int)].toList rfl rfl HNW.out (by intro u hu;simp at hu;rcases hu with rfl|rfl <;> rfl) (by decide) hm3 hb3 HBW.out _ rfl ?_;intro g3 c3 w3 O3 G3 A3 L3;have SR:=(HROW.out _ G3).2.2.2;have r9:=(HROW.out _ G3).2.1;have f9:=(HROW.out _ G3).2.2.1;refine hK.out _ _ (SR) (fun hHeld=>?_);clear hK K
 try simp only [Act.put,eS1,eS2,eS3,eA1,eA2,eA3]
 refine E_tk 17 ?_
 try simp only [Act.put,eS1,eS2,eS3,eA1,eA2,eA3]
 refine E_tk 18 ?_
 try simp only [Act.put,eS1,eS2,eS3,eA1,eA2,eA3]
 refine E_last (o:=_) (by kernel_rfl) rfl (by kernel_rfl) (fun K hK=>?_)
 try simp only [eA1,eA2,eA3]
 go_simp
 refine hK.out _ _ ?_;clear hK K;obtain ⟨HC,HS⟩:=HJU.out _ _ (HROW.out _ G3).1 O3 (fun g hg=>by
  have h1:g3=g:=Option.some.inj hg
  rcases A3 with e|e
  ·exact .inl (h1▸e)
  ·have e2:g3=(w.alloc _).heap.size:=e
   simp at e2;exact .inr (by omega))
 obtain ⟨w4,hw4⟩:∃ W,w3.setCell ⟨bb,9,none⟩ (.slice (some ⟨g3,0,none⟩) (t.jumps.length+1) c3)=W:=⟨_,rfl⟩;rw [hw4] at HC HS ⊢;have HE:=hid (EM.out w4 _ HC);have HS3:=hid HS;clear hw4 HC HS;go_wp2_with (go_at_call 185;(with_reducible refine HE.out.mono ?_);rintro e w5 ⟨rfl,iv1,X1,HC1,HS1⟩)
 go_end0
 unfold jumpJ;rw [← HXL.out];exact ⟨rfl,iv1,_,X1,HC1,hid (HS3.out.trans HS1.out.lines)⟩
end Go.Proofs.YtcflojdkaddemaaGreatDoor

namespace Go.Proofs.YtcflojdkaddemaaGreatDoor
open Go.RowKit Go.Lib
theorem lkZ_out (p:List PLine) (k:Int) (h:k<0∨(p.length:Int)≤k):lkZ p k=-1:=by
 unfold lkZ
 rcases h with h|h
 ·rw [if_pos h]
 ·rw [if_neg (by omega),List.getElem?_eq_none (by omega)]
set_option maxRecDepth 100000 in
set_option maxHeartbeats 1000000 in
theorem i_lineIs (a:Option Addr) (cap:Nat) (X:List LnL) (k:Int) (b:Option Addr) (d:Nat) (ks:List Int) (w:World) (hl:X.length≤2000000) (hr:ReadL 9 147 w a X) (hk:ReadI w b ks) (hkl:ks.length≤100) (hno:memI ks (-1)=false) :
  Calls Tryz.prog 124 #[.slice a X.length cap,.int .i64 k,.slice b ks.length d] w fun e w'=>e=.returned (.bool (memI ks (lkZ (plL X) k)))∧Below w.heap.size w w':=by
 have HR:=hid hr;have HK:=hid hk;have hpl:=plL_length X;clear hr hk
 by_cases hneg:k<0
 ·have HV:Hid (memI ks (lkZ (plL X) k)=false):=hid (by rw [lkZ_out _ _ (.inl hneg)];exact hno)
  have hd:decide (0≤k)=false:=decide_eq_false (by omega);clear hpl hno
  go_enter Tryz.func124,Tryz.ntmps124
  go_wp2;go_ret;exact ⟨ret_b HV.out.symm,Below.refl _ _⟩
 by_cases hbig:(X.length:Int)≤k
 ·have HV:Hid (memI ks (lkZ (plL X) k)=false):=hid (by rw [lkZ_out _ _ (.inr (by rw [hpl];exact hbig))];exact hno)
  have hd:decide (0≤k)=true:=decide_eq_true (by omega);have hd2:decide (k<(X.length:Int))=false:=decide_eq_false (by omega);clear hpl hno
  go_enter Tryz.func124,Tryz.ntmps124
  go_wp2;go_ret;exact ⟨ret_b HV.out.symm,Below.refl _ _⟩
 obtain ⟨j,rfl,hj⟩:=int_nat k X.length (by omega) (by omega);have hjp:j<(plL X).length:=by omega
 obtain ⟨g,rfl,hg,⟨c0,_,_,_⟩,_⟩:=HR.out j hj;have k0:(0:Int)≤(j:Int):=by omega
 have k1:(j:Int)<(X.length:Int):=by omega
 have hd:decide (0≤(j:Int))=true:=decide_eq_true k0;have hd2:decide ((j:Int)<(X.length:Int))=true:=decide_eq_true k1;have HV:Hid (lkZ (plL X) (j:Int)=X[j].kind):=hid (by rw [lkZ_at _ _ hjp,pl_kind X j hj]);have HC:=hid (x_containsI b d ks X[j].kind w HK.out (by omega));rw [← HV.out] at c0 HC;generalize lkZ (plL X) (j:Int)=kd at *;clear HV hneg hbig hno hpl
 go_enter Tryz.func124,Tryz.ntmps124
 go_wp2_with (first|(go_at_call 169;refine HC.out.mono ?_;rintro e w' ⟨rfl,b1⟩))
 go_ret;exact ⟨rfl,b1⟩
theorem ops_mem (k:Int):memI [0,3,5] k=isOp k:=by
 unfold isOp memI
 by_cases h0:k=0
 ·subst h0;rfl
 by_cases h3:k=3
 ·subst h3;rfl
 by_cases h5:k=5
 ·subst h5;rfl
 have a0:(k == 0)=false:=by simpa using h0
 have a3:(k == 3)=false:=by simpa using h3
 have a5:(k == 5)=false:=by simpa using h5
 rw [a0,a3,a5];simp [h0,h3,h5]
theorem beZ_lk (p:List PLine) (k:Int) (h:isOp (lkZ p k)=false):beZ p k=-1:=beZ_not p k (fun hc=>by rw [h] at hc;exact absurd hc.2.2 (by decide))
theorem lk_in (p:List PLine) (k:Int) (h:isOp (lkZ p k)=true):∃ j:Nat,k=(j:Int)∧j<p.length:=by
 by_cases h1:k<0∨(p.length:Int)≤k
 ·rw [lkZ_out p k h1] at h;exact absurd h (by decide)
 ·exact ⟨k.toNat,by omega,by omega⟩
set_option maxRecDepth 100000 in
set_option maxHeartbeats 2000000 in
theorem i_endOf (a:Option Addr) (cap:Nat) (X:List LnL) (k:Int) (w:World) (hl:X.length≤2000000) (hr:ReadL 9 147 w a X) :
  Calls Tryz.prog 163 #[.slice a X.length cap,.int .i64 k] w fun e w'=>e=.returned (.int .i64 (beZ (plL X) k))∧Below w.heap.size w w':=by
 have HR:=hid hr;have hpl:=plL_length X;clear hr;have HB0:Hid (Below w.heap.size w (w.alloc (.cells #[.int .i64 0,.int .i64 3,.int .i64 5] 3))):=hid ((Below.refl _ _).alloc (Nat.le_refl _) _);have HI:=hid (fun b d hk=>i_lineIs a cap X k b d [0,3,5] (w.alloc (.cells #[.int .i64 0,.int .i64 3,.int .i64 5] 3)) hl (HR.out.below HB0.out) hk (by decide) (by decide));have HK:Hid (ReadI (w.alloc (.cells #[.int .i64 0,.int .i64 3,.int .i64 5] 3)) (some ⟨w.heap.size,0,none⟩) [0,3,5]):=hid (readI_of (B:=0) (T:=3) (c:=3) (World.ownsRow_lit w #[.int .i64 0,.int .i64 3,.int .i64 5] 3 (Nat.zero_le _) (by decide) rfl));rw [ops_mem] at HI;have hz0:(w.alloc (.cells #[.int .i64 0,.int .i64 3,.int .i64 5] 3)).heap.size=w.heap.size+1:=by simp
 by_cases hop:isOp (lkZ (plL X) k)=true
 ·obtain ⟨j,rfl,hjp⟩:=lk_in (plL X) k hop
  have hj:j<X.length:=by omega
  rw [hop] at HI;have HV:Hid (beZ (plL X) (j:Int)=endF 0 j ((plL X).drop j)):=hid (beZ_from (plL X) j hjp (by rw [← lkZ_at _ _ hjp];exact hop));clear hop
  go_enter Tryz.func163,Tryz.ntmps163
  go_wp2_with fail;refine (HI.out _ _ HK.out).mono ?_;rintro e w1 ⟨rfl,b1⟩;have HB1:Hid (Below w.heap.size w w1):=hid (HB0.out.trans (b1.mono (by omega)));clear b1 HI HK;go_wp2_with fail
  go_loopw [5,6] (fun o i wr=>∃ (q:Nat) (z:Int),j≤q∧q≤X.length∧i=.int .i64 (q:Int)∧o=.int .i64 z∧-(q:Int)≤z∧z≤(q:Int)∧Hid (endF z q ((plL X).drop q)=endF 0 j ((plL X).drop j))∧Below w.heap.size w wr) (fun _ i _=>X.length - (RowKit.intOf i).toNat)
  case atStart=>exact ⟨j,0,Nat.le_refl _,by omega,rfl,rfl,by omega,by omega,hid rfl,HB1.out⟩
  case round =>
   obtain ⟨q,z,hjq,hq,rfl,rfl,hz1,hz2,HE,hbel⟩:=hrel;have HB:=hid hbel;have hB:=hbel.size
   by_cases hlt:q<X.length
   ·obtain ⟨g',rfl,hg',⟨c0,c1,c2,c3⟩,hm⟩:=(HR.out.below hbel) q hlt
    have hqp:q<(plL X).length:=by omega
    have HN:=hid (endF_at (plL X) z q hqp);rw [pl_kind X q hlt] at HN;obtain ⟨xa,xb,xc,xd,ea,ee,_,_,_,_⟩:=inMem_shape hm;rw [ea] at c2;rw [ee] at c3;have HOP:=hid (fun W=>i_opened X[q].kind X[q].name (.slice xa X[q].args.length xc) (.slice xb X[q].expr.length xd) W);have HC:=hid (opn_cases X[q].kind);generalize X[q].kind=kd at *;generalize X[q].name=nm at *;generalize X[q].args.length=na at *;generalize X[q].expr.length=ne at *;have hob:-1≤opn kd∧opn kd≤1:=by have:=HC.out;omega
    have k3:(0:Int)≤(q:Int):=by omega
    have k4:(q:Int)<(X.length:Int):=by omega
    generalize opn kd=od at *;have HCC:=hid (And.intro c0 (And.intro c1 (And.intro c2 c3)));clear hm ea ee HC hbel
    by_cases h0:z+od=0
    ·have HN':=hid (HN.out.symm.trans HE.out)
     rw [if_pos h0] at HN';have hd:(z+od == 0)=true:=by simpa using h0
     clear HN;go_wp2_with fail;refine (HOP.out _).mono ?_;rintro e w1 ⟨rfl,b1⟩;have HB2:Hid (Below w.heap.size w w1):=hid (HB.out.trans (b1.mono hB));clear b1 c0 c1 c2 c3 HCC;go_wp2;go_ret;exact ⟨by rw [HV.out,← HN'.out];rfl,HB2.out⟩
    ·have HN':=hid (HN.out.symm.trans HE.out)
     rw [if_neg h0] at HN';have hd:(z+od == 0)=false:=by simpa using h0
     clear HN h0;go_wp2_with fail;refine (HOP.out _).mono ?_;rintro e w1 ⟨rfl,b1⟩;have HB2:Hid (Below w.heap.size w w1):=hid (HB.out.trans (b1.mono hB));clear b1 c0 c1 c2 c3 HCC;go_wp2;go_roundw
     case rel=>exact ⟨q+1,z+od,by omega,by omega,by go_num,by go_num,by omega,by omega,HN',HB2.out⟩
     case measure=>simp [RowKit.intOf];omega
   ·have hqq:q=X.length:=by omega
    subst hqq;have HN':Hid (-1=endF 0 j ((plL X).drop j)):=hid (by rw [← HE.out,endF_out _ _ _ (by omega)]);clear hbel;go_wp2;go_ret;exact ⟨by rw [HV.out,← HN'.out];rfl,HB.out⟩
 ·have hop':isOp (lkZ (plL X) k)=false:=by simpa using hop
  have HV:Hid (beZ (plL X) k=-1):=hid (beZ_lk _ _ hop');rw [hop'] at HI;clear hop hop' hpl
  go_enter Tryz.func163,Tryz.ntmps163
  go_wp2_with fail;refine (HI.out _ _ HK.out).mono ?_;rintro e w1 ⟨rfl,b1⟩;have HB1:Hid (Below w.heap.size w w1):=hid (HB0.out.trans (b1.mono (by omega)));clear b1 HI HK;go_wp2;go_ret;exact ⟨by rw [HV.out];rfl,HB1.out⟩
end Go.Proofs.YtcflojdkaddemaaGreatDoor

namespace Go.Proofs.YtcflojdkaddemaaGreatDoor
open Go.RowKit Go.Lib
theorem infoI4:(Tryz.prog.info? 3).map (fun i=>(i.zero,i.size,i.bytes))=some (some (.int .i64 0),1,8):=by kernel_rfl
def funI (p:List PLine):List Int:=(funs p).map fun (k:Nat)=>(k:Int)
theorem funI_next (p:List PLine) (k:Nat) (h:k<p.length):funI (p.take (k+1))=if p[k].kind=0 then funI (p.take k)++[(k:Int)] else funI (p.take k):=by
 unfold funI;rw [funs_snoc p k h]
 split <;> simp
theorem funI_yes (X:List LnL) (k:Nat) (h:k<X.length) (h0:X[k].kind=0):funI ((plL X).take (k+1))=funI ((plL X).take k)++[(k:Int)]:=by
 have hq:k<(plL X).length:=by rw [plL_length];exact h
 rw [funI_next _ k hq,pl_at X k h,if_pos (show X[k].p.kind=0 from h0)]
theorem funI_no (X:List LnL) (k:Nat) (h:k<X.length) (h0:X[k].kind≠0):funI ((plL X).take (k+1))=funI ((plL X).take k):=by
 have hq:k<(plL X).length:=by rw [plL_length];exact h
 rw [funI_next _ k hq,pl_at X k h,if_neg (show ¬ X[k].p.kind=0 from h0)]
theorem funI_all (X:List LnL):funI ((plL X).take X.length)=funI (plL X):=by rw [List.take_of_length_le (by rw [plL_length];exact Nat.le_refl _)]
theorem fun_mem (k:Int):memI [0] k=decide (k=0):=by
 unfold memI
 by_cases h:k=0
 ·subst h;rfl
 ·rw [decide_eq_false h];simp [h]
theorem below_app4 {B e n s:Nat} {w0 wr w1:World} {X:Obj} {v:Value} {xs:List Value} (hown:wr.ownsRow B e s v n xs) (hbel:Below B w0 wr) (hB:B≤wr.heap.size)
  (hg:(wr.alloc X).grownBy w1 v.ownBlock):Below B w0 w1 :=
 (hbel.alloc hB X).grown hg (by simp;omega) (fun k hk=>(hown.lt k hk).1)
set_option maxRecDepth 100000 in
set_option maxHeartbeats 2000000 in
theorem s_funLines (a:Option Addr) (cap:Nat) (X:List LnL) (w:World) (hl:X.length≤1048576) (hr:ReadL 9 147 w a X) :
  Calls Tryz.prog 18 #[.slice a X.length cap] w (Ints 3 w.heap.size (funI (plL X)) w):=by
 obtain ⟨i0,hi,hz0,hz1,hz2⟩:=info_parts infoI4;have HR:=hid hr;clear hr
 go_enter Tryz.func18,Tryz.ntmps18
 go_wp2_with fail
 go_loopw [3,4] (fun v i wr=>∃ (q:Nat) (P:List Int),q≤X.length∧i=.int .i64 (q:Int)∧Hid (P=funI ((plL X).take q))∧P.length≤q∧wr.ownsRow w.heap.size 3 1 v P.length (intV P)∧Below w.heap.size w wr) (fun _ i _=>X.length - (RowKit.intOf i).toNat)
 case atStart=>exact ⟨0,[],Nat.zero_le _,rfl,hid (by rw [List.take_zero];rfl),Nat.le_refl _,World.ownsRow_lit w #[] 0 (Nat.le_refl _) (by decide) rfl,(Below.refl _ _).alloc (Nat.le_refl _) _⟩
 case round =>
  obtain ⟨q,P,hq,rfl,HP,hPq,hown,hbel⟩:=hrel;have HB:=hid hbel;have hB:=hbel.size
  by_cases hlt:q<X.length
  ·obtain ⟨g,rfl,hg,⟨c0,_,_,_⟩,_⟩:=(HR.out.below hbel) q hlt
   have HY:=hid (funI_yes X q hlt);have HNO:=hid (funI_no X q hlt);have k0:(0:Int)≤(q:Int):=by omega
   have k1:(q:Int)<(X.length:Int):=by omega
   generalize X[q].kind=kd at *;clear hbel
   by_cases hk:kd=0
   ·subst hk
    have HN:Hid (P++[(q:Int)]=funI ((plL X).take (q+1))):=hid (by rw [HY.out rfl,HP.out]);have h63:P.length+1≤maxLen:=by unfold maxLen;omega
    have hby:(P.length+1)*8≤140737488355328:=by omega
    clear HY HNO HP;go_wp2_with (at_builtin;refine wpList_append_own _ rfl _ _ 36 rfl w.heap.size 3 i0 (.int .i64 0) 1 8 Tryz.underlying36 hi hz0 hz1 hz2 rfl (by decide) _ _ _ rfl (hown.alloc _) ⟨wr.heap.size,0,none⟩ 1 1 [.int .i64 (q:Int)] rfl rfl ?c1 ?c2 h63 hby ?c5 ?_)
    case c1=>exact cell_one_new _ _ _
    case c2=>intro u hu;simp at hu;subst hu;rfl
    case c5=>simp;omega
    intro v' w3 hown1 hgrow _;have HO4:=hid (owns_ints (l:=P++[(q:Int)]) hown1 (by rw [intV_append];rfl));have HB3:=hid (below_app4 hown HB.out hB hgrow);clear hown1 hgrow hown c0;go_wp2;go_roundw
    case rel=>exact ⟨q+1,P++[(q:Int)],by omega,by go_num,HN,by simp;omega,HO4.out,HB3.out⟩
    case measure=>simp [RowKit.intOf];omega
   ·have HN:Hid (P=funI ((plL X).take (q+1))):=hid (by rw [HNO.out hk,HP.out])
    have hd:(kd == 0)=false:=by simpa using hk
    have HO:=hid hown;clear HY HNO HP hk hown;go_wp2;go_roundw
    case rel=>exact ⟨q+1,P,by omega,by go_num,HN,by omega,HO.out,HB.out⟩
    case measure=>simp [RowKit.intOf];omega
  ·have hqq:q=X.length:=by omega
   subst hqq;have HV:Hid (P=funI (plL X)):=hid (by rw [HP.out,funI_all]);have HO:=hid hown;clear hbel hown;go_wp2;go_ret;exact ⟨_,rfl,by rw [← HV.out];exact HO.out,HB.out⟩
set_option maxRecDepth 100000 in
set_option maxHeartbeats 2000000 in
theorem i_funLines (a:Option Addr) (cap:Nat) (X:List LnL) (w:World) (hl:X.length≤1048576) (hr:ReadL 9 147 w a X) :
  Calls Tryz.prog 59 #[.slice a X.length cap] w (Ints 3 w.heap.size (funI (plL X)) w):=by
 obtain ⟨i0,hi,hz0,hz1,hz2⟩:=info_parts infoI4;have HR:=hid hr;have hpl:=plL_length X;clear hr
 go_enter Tryz.func59,Tryz.ntmps59
 go_wp2_with fail
 go_loopw [3,4,7] (fun v _ i wr=>∃ (q:Nat) (P:List Int),q≤X.length∧i=.int .i64 (q:Int)∧Hid (P=funI ((plL X).take q))∧P.length≤q∧wr.ownsRow w.heap.size 3 1 v P.length (intV P)∧Below w.heap.size w wr) (fun _ _ i _=>X.length - (RowKit.intOf i).toNat)
 case atStart=>exact ⟨0,[],Nat.zero_le _,rfl,hid (by rw [List.take_zero];rfl),Nat.le_refl _,World.ownsRow_nil _ _ _ _,Below.refl _ _⟩
 case round =>
  obtain ⟨q,P,hq,rfl,HP,hPq,hown,hbel⟩:=hrel;have HB:=hid hbel;have hB:=hbel.size
  by_cases hlt:q<X.length
  ·have HY:=hid (funI_yes X q hlt)
   have HNO:=hid (funI_no X q hlt);have hqp:q<(plL X).length:=by omega
   have hlk:lkZ (plL X) (q:Int)=X[q].kind:=by rw [lkZ_at _ _ hqp,pl_kind X q hlt]
   have HB0:Hid (Below wr.heap.size wr (wr.alloc (.cells #[.int .i64 0] 3))):=hid ((Below.refl _ _).alloc (Nat.le_refl _) _);have HI:=hid (fun b d hk=>i_lineIs a cap X q b d [0] (wr.alloc (.cells #[.int .i64 0] 3)) (by omega) ((HR.out.below hbel).below HB0.out) hk (by decide) (by decide));have HK:Hid (ReadI (wr.alloc (.cells #[.int .i64 0] 3)) (some ⟨wr.heap.size,0,none⟩) [0]):=hid (readI_of (B:=0) (T:=3) (c:=1) (World.ownsRow_lit wr #[.int .i64 0] 1 (Nat.zero_le _) (by decide) rfl));rw [fun_mem,hlk] at HI;have HI':=hid (HI.out _ 1 HK.out);have hz0':(wr.alloc (.cells #[.int .i64 0] 3)).heap.size=wr.heap.size+1:=by simp
   have k0:(0:Int)≤(q:Int):=by omega
   have k1:(q:Int)<(X.length:Int):=by omega
   have HO:=hid hown;clear HI HK hlk;generalize X[q].kind=kd at *;clear hbel hown
   by_cases hk:kd=0
   ·have HN:Hid (P++[(q:Int)]=funI ((plL X).take (q+1))):=hid (by rw [HY.out hk,HP.out])
    rw [decide_eq_true hk] at HI';have h63:P.length+1≤maxLen:=by unfold maxLen;omega
    have hby:(P.length+1)*8≤140737488355328:=by omega
    clear HY HNO HP hk;go_wp2_with fail;refine HI'.out.mono ?_;rintro e w1 ⟨rfl,b1⟩;have hown:=owns3_below HO.out (HB0.out.trans (b1.mono (by omega)));have HB1:Hid (Below w.heap.size w w1):=hid (HB.out.trans ((HB0.out.trans (b1.mono (by omega))).mono hB));have z1:=HB1.out.size;clear b1;go_wp2_with (at_builtin;refine wpList_append_own _ rfl _ _ 36 rfl w.heap.size 3 i0 (.int .i64 0) 1 8 Tryz.underlying36 hi hz0 hz1 hz2 rfl (by decide) _ _ _ rfl (hown.alloc _) ⟨w1.heap.size,0,none⟩ 1 1 [.int .i64 (q:Int)] rfl rfl ?c1 ?c2 h63 hby ?c5 ?_)
    case c1=>exact cell_one_new _ _ _
    case c2=>intro u hu;simp at hu;subst hu;rfl
    case c5=>simp;omega
    intro v' w3 hown1 hgrow _;have HO4:=hid (owns_ints (l:=P++[(q:Int)]) hown1 (by rw [intV_append];rfl));have HB3:=hid (below_app4 hown HB1.out z1 hgrow);clear hown1 hgrow hown;go_wp2;go_roundw
    case rel=>exact ⟨q+1,P++[(q:Int)],by omega,by go_num,HN,by simp;omega,HO4.out,HB3.out⟩
    case measure=>simp [RowKit.intOf];omega
   ·have HN:Hid (P=funI ((plL X).take (q+1))):=hid (by rw [HNO.out hk,HP.out])
    rw [decide_eq_false hk] at HI';clear HY HNO HP hk;go_wp2_with fail;refine HI'.out.mono ?_;rintro e w1 ⟨rfl,b1⟩;have HO1:=hid (owns3_below HO.out (HB0.out.trans (b1.mono (by omega))));have HB1:Hid (Below w.heap.size w w1):=hid (HB.out.trans ((HB0.out.trans (b1.mono (by omega))).mono hB));clear b1;go_wp2;go_roundw
    case rel=>exact ⟨q+1,P,by omega,by go_num,HN,by omega,HO1.out,HB1.out⟩
    case measure=>simp [RowKit.intOf];omega
  ·have hqq:q=X.length:=by omega
   subst hqq;have HV:Hid (P=funI (plL X)):=hid (by rw [HP.out,funI_all]);have HO:=hid hown;clear hbel hown;go_wp2;go_ret;exact ⟨_,rfl,by rw [← HV.out];exact HO.out,HB.out⟩
end Go.Proofs.YtcflojdkaddemaaGreatDoor

namespace Go.Proofs.YtcflojdkaddemaaGreatDoor
open Go.RowKit Go.Lib
theorem elseF_at (p:List PLine) (e:Int) (f q:Nat) (hq:(q:Int)<e) (hf:e≤(f:Int)+(q:Int)):∃ f',f=f'+1∧elseF p e f q=if lkZ p q=4 then (q:Int) else if lkZ p q=3∨lkZ p q=5 then elseF p e f' ((beZ p q).toNat+1) else elseF p e f' (q+1):=by
 cases f with
 | zero=>omega
 | succ f=>exact ⟨f,rfl,by rw [elseF,if_neg (by omega)]⟩
theorem elseZ_none (p:List PLine) (k:Int) (h:beZ p k<0):elseZ p k=-1:=by
 unfold elseZ;rw [if_neg (by omega)]
theorem elseZ_other (p:List PLine) (k:Int) (h:lkZ p k≠3):elseZ p k=-1:=by
 unfold elseZ;rw [if_neg (fun hc=>h hc.2)]
theorem elseZ_from (p:List PLine) (j:Nat) (h:0≤beZ p j) (h3:lkZ p j=3):elseZ p j=elseF p (beZ p j) p.length (j+1):=by
 unfold elseZ;rw [if_pos ⟨h,h3⟩];rfl
theorem beZ_in35 (p:List PLine) (k:Int) (q:Nat) (h:0≤beZ p k) (hk:k<(q:Int)) (hq:(q:Int)<beZ p k) (h35:lkZ p q=3∨lkZ p q=5):∃ E:Nat,beZ p (q:Int)=(E:Int)∧q<E∧(E:Int)<beZ p k:=by
 have hl:q<p.length:=by have:=(beZ_lt p k).2;omega
 rw [lkZ_at p q hl] at h35;have hop:isOp p[q].kind=true:=by unfold isOp;rcases h35 with h|h <;> rw [h] <;> rfl
 have:=beZ_in p k q h hk hq hl hop
 exact ⟨(beZ p (q:Int)).toNat,by omega,by omega,by omega⟩
set_option maxRecDepth 100000 in
set_option maxHeartbeats 2000000 in
theorem s_elseOf (a:Option Addr) (cap:Nat) (X:List LnL) (k:Int) (w:World) (hl:X.length≤2000000) (hr:ReadL 9 147 w a X) :
  Calls Tryz.prog 113 #[.slice a X.length cap,.int .i64 k] w fun e w'=>e=.returned (.int .i64 (elseZ (plL X) k))∧Below w.heap.size w w':=by
 have HR:=hid hr;have hpl:=plL_length X;have SE:=hid (fun (W:World) (hb:Below w.heap.size w W) (q:Int)=>s_endOf a cap X q W hl (HR.out.below hb));clear hr
 by_cases hneg:beZ (plL X) k<0
 ·have HV:=hid (elseZ_none (plL X) k hneg)
  have S1:=hid (SE.out w (Below.refl _ _) k);have hd:decide (beZ (plL X) k<0)=true:=decide_eq_true hneg;generalize beZ (plL X) k=e at *;clear hpl SE hneg
  go_enter Tryz.func113,Tryz.ntmps113
  go_wp2_with fail;refine S1.out.mono ?_;rintro _ w1 ⟨rfl,b1⟩;have HB:=hid b1;clear b1;go_wp2;go_ret;exact ⟨by rw [HV.out];rfl,HB.out⟩
 have hd:decide (beZ (plL X) k<0)=false:=decide_eq_false hneg;obtain ⟨j,rfl,hjp,hop,hje,hel⟩:=beZ_is (plL X) k (by omega);have hj:j<X.length:=by omega
 have k0:(0:Int)≤(j:Int):=by omega
 have k1:(j:Int)<(X.length:Int):=by omega
 have HLK:Hid (lkZ (plL X) (j:Int)=X[j].kind):=hid (by rw [lkZ_at _ _ hjp,pl_kind X j hj]);have S1:=hid (SE.out w (Below.refl _ _) j)
 by_cases h3:X[j].kind=3
 ·have HV:=hid (elseZ_from (plL X) j (by omega) (by rw [HLK.out];exact h3))
  have HIN:=hid (fun (q:Nat) hk hq=>beZ_in35 (plL X) j q (by omega) hk hq);obtain ⟨g,rfl,hg,⟨c0,_,_,_⟩,_⟩:=HR.out j hj;rw [h3] at c0;obtain ⟨e,he⟩:∃ e,beZ (plL X) (j:Int)=e:=⟨_,rfl⟩;rw [he] at HV HIN S1 hd hje hel;clear he hop h3 hneg HLK
  go_enter Tryz.func113,Tryz.ntmps113
  go_wp2_with fail;refine S1.out.mono ?_;rintro _ w1 ⟨rfl,b1⟩;have HB1:=hid b1;have c0':=(b1.cell (p:=⟨g,j*4,none⟩) hg).trans c0;clear b1 c0;go_wp2_with fail;clear c0'
  go_loopw [6] (fun i wr=>∃ (f q:Nat),j<q∧(q:Int)≤e∧i=.int .i64 (q:Int)∧Hid (elseF (plL X) e f q=elseF (plL X) e (plL X).length (j+1))∧e≤(f:Int)+(q:Int)∧Below w.heap.size w wr) (fun i _=>(e - RowKit.intOf i).toNat)
  case atStart=>exact ⟨(plL X).length,j+1,by omega,by omega,by go_num,hid rfl,by omega,HB1.out⟩
  case round =>
   obtain ⟨f,q,hjq,hqe,rfl,HE,hf,hbel⟩:=hrel;have HB:=hid hbel;have hB:=hbel.size
   by_cases hlt:(q:Int)<e
   ·have hq:q<X.length:=by omega
    have hqp:q<(plL X).length:=by omega
    obtain ⟨g',hga,hg',⟨c0,_,_,_⟩,_⟩:=(HR.out.below hbel) q hq;injection hga with hga
    injection hga with hga
    subst hga;obtain ⟨f',rfl,HN0⟩:=elseF_at (plL X) e f q hlt hf;have HN:=hid HN0;clear HN0;have hlk:lkZ (plL X) (q:Int)=X[q].kind:=by rw [lkZ_at _ _ hqp,pl_kind X q hq]
    have HI:=hid (HIN.out q (by omega) hlt);rw [hlk] at HN HI;have SQ:=hid (SE.out wr hbel q);obtain ⟨kd,hkd⟩:∃ kd,X[q].kind=kd:=⟨_,rfl⟩;rw [hkd] at c0 HN HI;have k3:(0:Int)≤(q:Int):=by omega
    have k4:(q:Int)<(X.length:Int):=by omega
    clear hkd hlk hbel
    by_cases h35:kd=3∨kd=5
    ·have hn4:¬ kd=4:=by omega
     rw [if_neg hn4,if_pos h35] at HN;obtain ⟨E,hE,hqE,hEe⟩:=HI.out h35;rw [hE] at SQ HN;have HN':=hid (HN.out.symm.trans HE.out);rw [Int.toNat_natCast] at HN';clear hE hn4 HN HI
     rcases h35 with rfl|rfl
     all_goals
      go_wp2_with fail;refine SQ.out.mono ?_;rintro _ w2 ⟨rfl,b2⟩;have HB2:Hid (Below w.heap.size w w2):=hid (HB.out.trans (b2.mono hB));clear b2 c0;go_wp2;go_roundw
      case rel=>exact ⟨f',E+1,by omega,by omega,by go_num,HN',by omega,HB2.out⟩
      case measure=>simp [RowKit.intOf];omega
    ·rw [if_neg h35] at HN
     have a3:(kd == 3)=false:=by simp;omega
     have a5:(kd == 5)=false:=by simp;omega
     by_cases h4:kd=4
     ·subst h4
      have HN':=hid (HN.out.symm.trans HE.out);rw [if_pos rfl] at HN';clear HN HI h35;go_wp2;go_ret;exact ⟨by rw [HV.out,← HN'.out];rfl,HB.out⟩
     ·have HN':=hid (HN.out.symm.trans HE.out)
      rw [if_neg h4] at HN';have a4:(kd == 4)=false:=by simpa using h4
      clear HN HI h35 h4;go_wp2;go_roundw
      case rel=>exact ⟨f',q+1,by omega,by omega,by go_num,HN',by omega,HB.out⟩
      case measure=>simp [RowKit.intOf];omega
   ·have HN':Hid (-1=elseF (plL X) e (plL X).length (j+1)):=hid (by rw [← HE.out,elseF_out _ _ _ _ (by omega)])
    clear hbel;go_wp2;go_ret;exact ⟨by rw [HV.out,← HN'.out];rfl,HB.out⟩
 ·have HV:=hid (elseZ_other (plL X) j (by rw [HLK.out];exact h3))
  obtain ⟨g,rfl,hg,⟨c0,_,_,_⟩,_⟩:=HR.out j hj;have a3:(X[j].kind != 3)=true:=by simpa using h3
  obtain ⟨kd,hkd⟩:∃ kd,X[j].kind=kd:=⟨_,rfl⟩;rw [hkd] at c0 a3;generalize beZ (plL X) (j:Int)=e at *;clear hkd h3 HLK hpl hop
  go_enter Tryz.func113,Tryz.ntmps113
  go_wp2_with fail;refine S1.out.mono ?_;rintro _ w1 ⟨rfl,b1⟩;have HB1:=hid b1;have c0':=(b1.cell (p:=⟨g,j*4,none⟩) hg).trans c0;clear b1 c0;go_wp2;go_ret;exact ⟨by rw [HV.out];rfl,HB1.out⟩
end Go.Proofs.YtcflojdkaddemaaGreatDoor
