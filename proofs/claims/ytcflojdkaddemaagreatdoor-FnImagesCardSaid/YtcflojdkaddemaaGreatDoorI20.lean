/- Parts of the proof. -/
import Derived.Test.YtcflojdkaddemaaGreatDoorI19
namespace Go.Proofs.YtcflojdkaddemaaGreatDoor
open Go.RowKit Go.Lib Go.Maps
set_option maxRecDepth 100000 in
set_option maxHeartbeats 4000000 in
theorem i_function (B cb:Nat) (K:KcE) (pa:Option Addr) (pc:Nat) (PX:List LnL) (fa:Option Addr) (fc:Nat) (wb:World) (hP:PgI K pa pc PX fa fc wb) (hBw:wb.heap.size≤B) (n:Nat) (hL:IBodyOk B cb K wb n) (g:Nat) (hg:g ∈ funs K.E.p) (z:Nat×CiS) (hz:cmiF K.E n (.lines [topSc K.E.p g] (g+1) K.E.words) (topJ K.E g)=some z) (hzl:z.2.items.length≤1000000)
  (w:World) (iv:Value) (X:List ItW) (b:BdW) (jv:Value) (line:Nat) (hci:CiAt jT Tryz.prog B cb w K ⟨[],0,(locZ K.E.p (g:Int)).length - K.E.args,false,[],[]⟩ iv X (topSc K.E.p g) b jv line) (hb:BodyOk K w (topSc K.E.p g) [] [topSc K.E.p g] b) (hW:Below wb.heap.size wb w) (hu:(locZ K.E.p (g:Int)).length≤1000) :
  Calls Tryz.prog 144 #[.pointer (some ⟨b.bb,0,none⟩)] w (BdR B cb K z.2 iv jv (topSc K.E.p g) b w):=by
 have HCI:=hid hci;have HBO:=hid hb;have HW:=hid hW;have HP:=hid hP;have HLL:=hid hL;have HZ:=hid hz;have HZL:=hid hzl;obtain ⟨sc,hsc⟩:∃ sc,topSc K.E.p g=sc:=⟨_,rfl⟩;have HSC:=hid hsc;obtain ⟨t0,ht0⟩:∃ t0:CiS,(⟨[],0,(locZ K.E.p (g:Int)).length - K.E.args,false,[],[]⟩:CiS)=t0:=⟨_,rfl⟩;have HT0:=hid ht0;rw [hsc,ht0] at HCI;rw [hsc] at HBO HZ ⊢;have hx0:X.length=0:=by have:=HCI.out.len;rw [← ht0] at this;exact this
 have hw1:=hP.w1;have hw2:=hP.w2;have hcf:sc.f=g:=by rw [← hsc];rfl
 have q0:=HCI.out.cells.1;have q6:w.cell? ⟨b.bb,6,none⟩=some (.int .i64 (line:Int)):=(blk HCI.out.bd.row).1 6 _ rfl;have g6:w.frozen? ⟨b.bb,6,none⟩=false:=(blk HCI.out.bd.row).2.1 6;have q2:w.cell? ⟨b.bb,2,none⟩=some (.int .i64 (g:Int)):=by rw [← hcf];exact (blk HCI.out.bd.row).1 2 _ rfl
 have HC0:Hid (CiAt jT Tryz.prog B cb (w.setCell ⟨b.bb,6,none⟩ (.int .i64 (g:Int))) K t0 iv X sc b jv g):=hid (HCI.out.cellB jT_ok 6 _ rfl rfl rfl rfl rfl rfl);have HS0:Hid (Step cb (ML iv jv b) (ML iv jv b) w (w.setCell ⟨b.bb,6,none⟩ (.int .i64 (g:Int)))):=hid (cellB_step w mem_ML 6 _);obtain ⟨w0,hw0⟩:∃ W,w.setCell ⟨b.bb,6,none⟩ (.int .i64 (g:Int))=W:=⟨_,rfl⟩;rw [hw0] at HC0 HS0;have z0:=HC0.out.cells.1;have z3:w0.cell? ⟨cb,3,none⟩=some (.bool K.E.framed):=HC0.out.cells.2.1;have z5:w0.cell? ⟨cb,5,none⟩=some (.int .i64 K.E.words):=(blk HC0.out.cc.row).1 5 _ rfl;have hch:sc.chain=[]:=by rw [← hsc];rfl
 have EM:Hid (∀ c,Calls Tryz.prog 185 #[.pointer (some ⟨b.bb,0,none⟩),.int .i64 c,.int .i64 K.E.words] w0 (EmR B cb K (emitJ K.E t0 c K.E.words g []) iv sc b jv g w0)):=hid (fun c=>by
  have h:=i_emit B cb K t0 iv X sc b jv g c K.E.words w0 HC0.out (by rw [hch];exact Nat.zero_le _) (by rw [hx0];omega);rw [hch] at h;exact h)
 have KW:Hid (∀ W t' iv' X',CiAt jT Tryz.prog B cb W K t' iv' X' sc b jv g→W.cell? ⟨b.bb,0,none⟩=some (.pointer (some ⟨cb,0,none⟩))∧W.cell? ⟨cb,5,none⟩=some (.int .i64 K.E.words)):=hid (fun W t' iv' X' hC=>⟨hC.cells.1,(blk hC.cc.row).1 5 _ rfl⟩);have KD:Hid (∀ W t' iv' X',CiAt jT Tryz.prog B cb W K t' iv' X' sc b jv g→W.cell? ⟨cb,7,none⟩=some (.int .i64 t'.depth)∧W.frozen? ⟨cb,7,none⟩=false):=hid (fun W t' iv' X' hC=>⟨hC.cells.2.2.1,hC.cells.2.2.2⟩);have LS:Hid (∀ W iv' X',CiAt jT Tryz.prog B cb W K (topJ K.E g) iv' X' sc b jv g→Step cb (ML iv jv b) (ML iv' jv b) w W→Calls Tryz.prog 186 #[.pointer (some ⟨b.bb,0,none⟩)] W (BdR B cb K z.2 iv' jv sc b W)):=hid (fun W iv' X' hC hS=>by
  refine HLL.out [sc] sc [] (topJ K.E g) z W iv' X' b jv g ?_ (HBO.out.stepL HCI.out hS) rfl rfl hw1 ?_ HZL.out ?_ hC (HW.out.trans ((HCI.out.baseL hS).mono hBw))
  ·rw [hcf];exact HZ.out
  ·show K.E.words≤2000000+100*(([sc].length:Nat):Int);simp;omega
  ·show (locZ K.E.p (g:Int)).length - K.E.args≤1000;omega)
 have TJ:Hid (∀ c,c=(if K.E.framed=true then (13:Int) else 15)→{ emitJ K.E t0 c K.E.words g [] with depth:=K.E.words }=topJ K.E g):=hid (fun c hc=>by rw [hc,← ht0];rfl);obtain ⟨fr,hfr⟩:∃ fr,K.E.framed=fr:=⟨_,rfl⟩;rw [hfr] at z3 TJ;obtain ⟨wd,hwd⟩:∃ wd,K.E.words=wd:=⟨_,rfl⟩;rw [hwd] at z5 EM KW TJ;clear hP hL hg hz hzl hci hb hW hu hw1 hw2 hfr hwd hch hx0 hsc ht0
 go_enter Tryz.func144,Tryz.ntmps144
 cases fr
 ·have TJ2:=TJ.out 15 (by rfl)
  go_wp2_with (go_at_call 185;(with_reducible refine (EM.out 15).mono ?_);intro e w2 HJ;have HJ2:=hid HJ;clear HJ;obtain ⟨rfl,iv2,X2,HC2,HS2⟩:=HJ2.out)
  have HC3:=hid (HC2.out.below (Below.refl _ _).drew);have e7:=KD.out _ _ _ _ HC3.out;obtain ⟨e71,e72⟩:=e7;have HC4:Hid (CiAt jT Tryz.prog B cb (w2.drew.setCell ⟨cb,7,none⟩ (.int .i64 wd)) K (topJ K.E g) iv2 X2 sc b jv g):=hid (by rw [← TJ2];exact HC3.out.cellC jT_ok 7 _ rfl rfl rfl rfl rfl);have HS4:Hid (Step cb (ML iv jv b) (ML iv2 jv b) w (w2.drew.setCell ⟨cb,7,none⟩ (.int .i64 wd))):=hid (((HS0.out.trans HS2.out.lines).trans (Step.of_below (Below.refl _ _).drew)).trans (cellC_step _ 7 _));have LS2:=hid (LS.out _ _ _ HC4.out HS4.out);have KX:=hid (KW.out _ _ _ _ HC3.out);clear TJ2 hw0;refine E_start (S:=(fun w'=>w'.cell? ⟨b.bb,0,none⟩=some (.pointer (some ⟨cb,0,none⟩))∧w'.cell? ⟨cb,5,none⟩=some (.int .i64 wd))) 13 (by kernel_rfl) (KX.out) (fun hHeld=>?_);refine E_tk 0 ?_
  try simp only [Act.put,eS1,eS2,eS3,eA1,eA2,eA3]
  refine E_tk 1 ?_
  try simp only [Act.put,eS1,eS2,eS3,eA1,eA2,eA3]
  refine E_tk 2 ?_
  try simp only [Act.put,eS1,eS2,eS3,eA1,eA2,eA3]
  refine E_tk 3 ?_
  try simp only [Act.put,eS1,eS2,eS3,eA1,eA2,eA3]
  refine E_tk 4 ?_
  try simp only [Act.put,eS1,eS2,eS3,eA1,eA2,eA3]
  refine E_tk 5 ?_
  try simp only [Act.put,eS1,eS2,eS3,eA1,eA2,eA3]
  refine E_tk 6 ?_
  try simp only [Act.put,eS1,eS2,eS3,eA1,eA2,eA3]
  refine E_tk 7 ?_
  try simp only [Act.put,eS1,eS2,eS3,eA1,eA2,eA3]
  refine E_tk 8 ?_
  try simp only [Act.put,eS1,eS2,eS3,eA1,eA2,eA3]
  refine E_tk 9 ?_
  try simp only [Act.put,eS1,eS2,eS3,eA1,eA2,eA3]
  refine E_tk 10 ?_
  try simp only [Act.put,eS1,eS2,eS3,eA1,eA2,eA3]
  refine E_tk 11 ?_
  try simp only [Act.put,eS1,eS2,eS3,eA1,eA2,eA3]
  refine E_tk 12 ?_
  try simp only [Act.put,eS1,eS2,eS3,eA1,eA2,eA3]
  refine E_last (o:=_) (by kernel_rfl) rfl (by kernel_rfl) (fun K0 hK=>?_)
  try simp only [eA1,eA2,eA3]
  go_simp
  refine hK.out _ _ ?_;clear hK K0;go_wp2_with fail;refine LS2.out.mono ?_;rintro e w5 ⟨rfl,iv5,jv5,X5,ln5,HC5,HS5⟩;go_wp2_with fail
  go_end0
  exact ⟨rfl,iv5,jv5,X5,ln5,HC5,hid (HS4.out.trans HS5.out)⟩
 ·have TJ2:=TJ.out 13 (by rfl)
  go_wp2_with (go_at_call 185;(with_reducible refine (EM.out 13).mono ?_);intro e w2 HJ;have HJ2:=hid HJ;clear HJ;obtain ⟨rfl,iv2,X2,HC2,HS2⟩:=HJ2.out)
  have HC3:=hid (HC2.out.below (Below.refl _ _).drew);have e7:=KD.out _ _ _ _ HC3.out;obtain ⟨e71,e72⟩:=e7;have HC4:Hid (CiAt jT Tryz.prog B cb (w2.drew.setCell ⟨cb,7,none⟩ (.int .i64 wd)) K (topJ K.E g) iv2 X2 sc b jv g):=hid (by rw [← TJ2];exact HC3.out.cellC jT_ok 7 _ rfl rfl rfl rfl rfl);have HS4:Hid (Step cb (ML iv jv b) (ML iv2 jv b) w (w2.drew.setCell ⟨cb,7,none⟩ (.int .i64 wd))):=hid (((HS0.out.trans HS2.out.lines).trans (Step.of_below (Below.refl _ _).drew)).trans (cellC_step _ 7 _));have LS2:=hid (LS.out _ _ _ HC4.out HS4.out);have KX:=hid (KW.out _ _ _ _ HC3.out);clear TJ2 hw0;refine E_start (S:=(fun w'=>w'.cell? ⟨b.bb,0,none⟩=some (.pointer (some ⟨cb,0,none⟩))∧w'.cell? ⟨cb,5,none⟩=some (.int .i64 wd))) 13 (by kernel_rfl) (KX.out) (fun hHeld=>?_);refine E_tk 0 ?_
  try simp only [Act.put,eS1,eS2,eS3,eA1,eA2,eA3]
  refine E_tk 1 ?_
  try simp only [Act.put,eS1,eS2,eS3,eA1,eA2,eA3]
  refine E_tk 2 ?_
  try simp only [Act.put,eS1,eS2,eS3,eA1,eA2,eA3]
  refine E_tk 3 ?_
  try simp only [Act.put,eS1,eS2,eS3,eA1,eA2,eA3]
  refine E_tk 4 ?_
  try simp only [Act.put,eS1,eS2,eS3,eA1,eA2,eA3]
  refine E_tk 5 ?_
  try simp only [Act.put,eS1,eS2,eS3,eA1,eA2,eA3]
  refine E_tk 6 ?_
  try simp only [Act.put,eS1,eS2,eS3,eA1,eA2,eA3]
  refine E_tk 7 ?_
  try simp only [Act.put,eS1,eS2,eS3,eA1,eA2,eA3]
  refine E_tk 8 ?_
  try simp only [Act.put,eS1,eS2,eS3,eA1,eA2,eA3]
  refine E_tk 9 ?_
  try simp only [Act.put,eS1,eS2,eS3,eA1,eA2,eA3]
  refine E_tk 10 ?_
  try simp only [Act.put,eS1,eS2,eS3,eA1,eA2,eA3]
  refine E_tk 11 ?_
  try simp only [Act.put,eS1,eS2,eS3,eA1,eA2,eA3]
  refine E_tk 12 ?_
  try simp only [Act.put,eS1,eS2,eS3,eA1,eA2,eA3]
  refine E_last (o:=_) (by kernel_rfl) rfl (by kernel_rfl) (fun K0 hK=>?_)
  try simp only [eA1,eA2,eA3]
  go_simp
  refine hK.out _ _ ?_;clear hK K0;go_wp2_with fail;refine LS2.out.mono ?_;rintro e w5 ⟨rfl,iv5,jv5,X5,ln5,HC5,HS5⟩;go_wp2_with fail
  go_end0
  exact ⟨rfl,iv5,jv5,X5,ln5,HC5,hid (HS4.out.trans HS5.out)⟩
end Go.Proofs.YtcflojdkaddemaaGreatDoor

namespace Go.Proofs.YtcflojdkaddemaaGreatDoor
open Go.RowKit Go.Lib Go.Maps
theorem new_slots {E:CmpE} {sc:ScL} {D0 D:DataW Unit} (ho:sc.outer=false) (h:Given D0 D sc.locs sc.first):SlotOk E sc D:=by
 intro n hn;obtain ⟨hl,he⟩:=var_at sc.locs n hn;have h1:=h.1 (varIx sc.locs n) hl;rw [he] at h1;rw [h1];unfold slotZ;rw [if_neg (fun hc=>by rw [ho] at hc;exact absurd hc.1 (by decide)),ho];rfl
def ArgG (D:DataW Unit) (l:List ByteArray) (k:Nat):Prop:=∀ i,∀ h:i<l.length,i<k→D.atKey (kN l[i]) zI=.lit (.int .i64 ((l.length - i:Nat):Int))
theorem ArgG.zero (D:DataW Unit) (l:List ByteArray):ArgG D l 0:=fun i _ h=>by omega
theorem ArgG.put {D:DataW Unit} {l:List ByteArray} {k:Nat} (h:ArgG D l k) (hD:IsMap D) (hk:k<l.length) (hn:l.Nodup):ArgG (D.put (kN l[k]) (.lit (.int .i64 ((l.length - k:Nat):Int)))) l (k+1):=by
 intro i hi hlt
 by_cases hik:i=k
 ·subst hik
  exact atKey_put_same hD (kN_lit _) _ _
 ·have hne:l[i]≠l[k]:=fun e=>by
   rcases Nat.lt_or_gt_of_ne hik with h'|h'
   ·exact List.pairwise_iff_getElem.1 hn i k hi hk h' e
   ·exact List.pairwise_iff_getElem.1 hn k i hk hi h' e.symm
  rw [atKey_put_other (kN_ne hne)];exact h i hi (by omega)
theorem top_slots {E:CmpE} {sc:ScL} {D0 D:DataW Unit} {A L:List ByteArray} (ho:sc.outer=true) (ha:E.args=A.length) (hl:sc.locs=A++L) (hn:sc.locs.Nodup) (h0:ArgG D0 A A.length) (h:Given D0 D L 0):SlotOk E sc D:=by
 intro n hm;obtain ⟨hix,he⟩:=var_at sc.locs n hm;have hnd:=hn;rw [hl] at hnd;obtain ⟨hA,hL,hd⟩:=List.nodup_append.1 hnd;unfold slotZ;obtain ⟨i,hi⟩:∃ i,varIx sc.locs n=i:=⟨_,rfl⟩;rw [hi] at hix;simp only [hi] at he ⊢;have hlen:sc.locs.length=A.length+L.length:=by rw [hl,List.length_append]
 by_cases hlt:i<A.length
 ·rw [if_pos ⟨ho,by rw [ha];exact hlt⟩]
  have e1:A[i]=n:=by
   rw [← he];simp only [hl];rw [List.getElem_append_left hlt]
  have hnL:n ∉ L:=fun hc=>hd n (by rw [← e1];exact List.getElem_mem hlt) n hc rfl
  rw [h.2 n hnL,← e1,h0 i hlt hlt,ha]
 ·rw [if_neg (fun hc=>hlt (by rw [← ha];exact hc.2)),if_pos ho]
  have hj:i - A.length<L.length:=by omega
  have e1:L[i - A.length]=n:=by
   rw [← he];simp only [hl];rw [List.getElem_append_right (by omega)]
  have h1:=h.1 (i - A.length) hj;rw [e1] at h1;rw [h1,ha,Nat.zero_add]
end Go.Proofs.YtcflojdkaddemaaGreatDoor

namespace Go.Proofs.YtcflojdkaddemaaGreatDoor
open Go.RowKit Go.Lib
set_option maxRecDepth 100000 in
set_option maxHeartbeats 4000000 in
theorem i_localsOf (a:Option Addr) (cap:Nat) (X:List LnL) (k:Int) (w:World) (hl:X.length≤1048576) (hcap:X.length≤cap) (hr:ReadL 9 147 w a X) (hz:∀ x ∈ X,x.args.length≤1048576) :
  Calls Tryz.prog 143 #[.slice a X.length cap,.int .i64 k] w (StrR 9 w.heap.size (locZ (plL X) k) w):=by
 obtain ⟨i0,hi,hz0,hz1,hz2⟩:=info_parts infoS4;have HR:=hid hr;have HZ:=hid hz;have hpl:=plL_length X;have S1:=hid (i_endOf a cap X k w (by omega) hr);clear hr hz
 by_cases hneg:beZ (plL X) k<0
 ·have HV:=hid (locZ_none (plL X) k hneg)
  have hd:decide (beZ (plL X) k<0)=true:=decide_eq_true hneg;generalize beZ (plL X) k=e at *;clear hpl hneg
  go_enter Tryz.func143,Tryz.ntmps143
  go_wp2_with fail;refine S1.out.mono ?_;rintro _ w1 ⟨rfl,b1⟩;have HB:=hid b1;clear b1;go_wp2;go_ret;exact ⟨_,rfl,by rw [HV.out];exact World.ownsRow_nil _ _ _ _,HB.out⟩
 have hd:decide (beZ (plL X) k<0)=false:=decide_eq_false hneg;obtain ⟨j,rfl,hjp,hop,hje,hel⟩:=beZ_is (plL X) k (by omega);have hj:j<X.length:=by omega
 have k0:(0:Int)≤(j:Int):=by omega
 have k1:(j:Int)<(X.length:Int):=by omega
 obtain ⟨E,hE⟩:=Int.eq_ofNat_of_zero_le (show 0≤beZ (plL X) (j:Int) by omega);obtain ⟨g,rfl,hg,⟨c0,_,c2,_⟩,hm⟩:=HR.out j hj;rw [hE] at S1 hd hje hel
 by_cases h0:X[j].kind=0
 ·have HV:=hid (locZ_from X j E hj hE h0)
  have hzz:=HZ.out _ (List.getElem_mem hj);have HOA:=hid hm.1;rw [h0] at c0;have hjE:j<E:=by omega
  have hEl:E<X.length:=by omega
  generalize X[j].args=gs at *;generalize X[j].va=va at *;clear hE hop h0 hneg hm
  go_enter Tryz.func143,Tryz.ntmps143
  go_wp2_with fail;refine S1.out.mono ?_;rintro _ w1 ⟨rfl,b1⟩;have HB1:=hid b1;have z1:=b1.size;have c0':=(b1.cell (p:=⟨g,j*4,none⟩) hg).trans c0;have c2':w1.cell? ⟨g,j*4+2,none⟩=some va:=(b1.cell (p:=⟨g,j*4+2,none⟩) hg).trans c2;have HCL:=hid (x_cloneS va gs w1 (owns_below HOA.out b1) hzz);clear b1 c0 c2 S1 HOA;go_wp2_with fail;refine HCL.out.mono ?_;rintro _ w2 ⟨v,rfl,hown,b2⟩;have HBx:Hid (Below w.heap.size w w2):=hid (HB1.out.trans (b2.mono z1));have HOx:=hid (owns_lo hown z1);clear b2 hown c0' c2' HCL;have k5:(E:Int)≤(cap:Int):=by omega
  have k6:(j:Int)≤(E:Int):=by omega
  have eE:(E:Int) - (j:Int)=((E - j:Nat):Int):=by omega
  go_wp2_with fail
  go_loopw [6,8,33] (fun v _ i wr=>∃ (d:Nat) (P:List ByteArray),d≤E - j∧i=.int .i64 (d:Int)∧Hid (locF P (segZ (plL X) (j+d) E)=locZ (plL X) (j:Int))∧P.length≤1048576+d∧wr.ownsRow w.heap.size 9 1 v P.length (strV P)∧Below w.heap.size w wr) (fun _ _ i _=>(E - j) - (RowKit.intOf i).toNat)
  case atStart=>exact ⟨0,gs,Nat.zero_le _,rfl,hid (by rw [Nat.add_zero];exact HV.out.symm),by omega,HOx.out,HBx.out⟩
  case round =>
   obtain ⟨d,P,hdE,rfl,HE,hP,hownr,hbel⟩:=hrel;have HB:=hid hbel;have hB:=hbel.size
   by_cases hlt:d<E - j
   ·have hqx:j+d<X.length:=by omega
    obtain ⟨g',hga,hg',⟨c0,c1,c2,c3⟩,hm⟩:=(HR.out.below hbel) (j+d) hqx;injection hga with hga
    injection hga with hga
    subst hga;have HY:=hid (fun h1 h2=>(locF_yes X P (j+d) E hqx (by omega) h1 h2).symm.trans HE.out);have HNO:=hid (fun h=>(locF_no X P (j+d) E hqx (by omega) h).symm.trans HE.out);obtain ⟨xa,xb,xc,xd,ea,ee,_,_,_,_⟩:=inMem_shape hm;rw [ea] at c2;rw [ee] at c3;rw [show (j+d)*4=j*4+d*4 from by omega] at c0 c1 c2 c3;have k3:(0:Int)≤(d:Int):=by omega
    have k4:(d:Int)<((E - j:Nat):Int):=by omega
    obtain ⟨av,cv,rfl⟩:=owns_shape hownr;have HIL:=hid (rfl:memB P X[j+d].name=memB P X[j+d].name);have HOr:=hid hownr;have HIX:=hid (fun W (hb:Below wr.heap.size wr W)=>x_containsS av cv P X[j+d].name W (reads_of (owns_below hownr hb)) (by omega));generalize X[j+d].kind=kd at *;generalize X[j+d].name=nm at *;generalize X[j+d].args.length=na at *;generalize X[j+d].expr.length=ne at *;have HB1r:Hid (Below wr.heap.size wr (wr.alloc (.cells #[.int .i64 kd,.string nm,.slice xa na xc,.slice xb ne xd] 87))):=hid ((Below.refl _ _).alloc (Nat.le_refl _) _);have zr:(wr.alloc (.cells #[.int .i64 kd,.string nm,.slice xa na xc,.slice xb ne xd] 87)).heap.size=wr.heap.size+1:=by simp
    have X0:=hid (heap_alloc_new wr (.cells #[.int .i64 kd,.string nm,.slice xa na xc,.slice xb ne xd] 87));clear hbel hownr hm ea ee HIL
    by_cases hk:kd=1
    ·subst hk
     obtain ⟨b,hb⟩:∃ b,memB P nm=b:=⟨_,rfl⟩;rw [hb] at HIX HY HNO;clear hb;have HIX1:=hid (HIX.out _ HB1r.out)
     cases b
     ·have HN:=hid (HY.out rfl rfl)
      have h63:P.length+1≤maxLen:=by unfold maxLen;omega
      have hby:(P.length+1)*16≤140737488355328:=by omega
      clear HY HNO HIX;go_wp2_with fail;refine HIX1.out.mono ?_;rintro _ w2 ⟨rfl,b2⟩;have HBr2:Hid (Below wr.heap.size wr w2):=hid (HB1r.out.trans (b2.mono (by omega)));have hown2:=owns_below HOr.out HBr2.out;have HB2r:Hid (Below w.heap.size w w2):=hid (HB.out.trans (HBr2.out.mono hB));have z2:=HB2r.out.size;have d1:w2.cell? ⟨wr.heap.size,1,none⟩=some (.string nm):=(blk ((b2.block _ (by omega)).trans X0.out)).1 1 _ rfl;clear b2 c0 c1 c2 c3;go_wp2_with (at_builtin;refine wpList_append_own _ rfl _ _ 84 rfl w.heap.size 9 i0 (.string ⟨#[]⟩) 1 16 Tryz.underlying84 hi hz0 hz1 hz2 rfl (by decide) _ _ _ rfl (hown2.alloc _) ⟨w2.heap.size,0,none⟩ 1 1 [.string nm] rfl rfl ?c1 ?c2 h63 hby ?c5 ?_)
      case c1=>exact cell_one_new _ _ _
      case c2=>intro u hu;simp at hu;subst hu;rfl
      case c5=>simp;omega
      intro v' w3 hown1 hgrow _;have HO4:=hid (owns_strs (l:=P++[nm]) hown1 (by rw [strV_append];rfl));have HB3:=hid (below_app5 hown2 HB2r.out z2 hgrow);clear hown1 hgrow hown2 d1;go_wp2;go_roundw
      case rel=>exact ⟨d+1,P++[nm],by omega,by go_num,HN,by simp;omega,HO4.out,HB3.out⟩
      case measure=>simp [RowKit.intOf];omega
     ·have HN:=hid (HNO.out (not_and_mem (.inr rfl)))
      clear HY HNO HIX;go_wp2_with fail;refine HIX1.out.mono ?_;rintro _ w2 ⟨rfl,b2⟩;have HBr2:Hid (Below wr.heap.size wr w2):=hid (HB1r.out.trans (b2.mono (by omega)));have HOr2:=hid (owns_below HOr.out HBr2.out);have HB2r:Hid (Below w.heap.size w w2):=hid (HB.out.trans (HBr2.out.mono hB));clear b2 c0 c1 c2 c3;go_wp2;go_roundw
      case rel=>exact ⟨d+1,P,by omega,by go_num,HN,by omega,HOr2.out,HB2r.out⟩
      case measure=>simp [RowKit.intOf];omega
    ·have HN:=hid (HNO.out (not_and_mem (.inl hk)))
     have hdk:(kd == 1)=false:=by simpa using hk
     have HOr2:=hid (owns_below HOr.out HB1r.out);have HB2r:=hid (HB.out.trans (HB1r.out.mono hB));clear HY HNO HIX hk;go_wp2;go_roundw
     case rel=>exact ⟨d+1,P,by omega,by go_num,HN,by omega,HOr2.out,HB2r.out⟩
     case measure=>simp [RowKit.intOf];omega
   ·have hqq:d=E - j:=by omega
    subst hqq;have HE':Hid (P=locZ (plL X) (j:Int)):=hid (by rw [← HE.out,show j+(E - j)=E from by omega,seg_end];rfl);have HOr:=hid hownr;clear hbel hownr;go_wp2;go_ret;exact ⟨_,rfl,by rw [← HE'.out];exact HOr.out,HB.out⟩
 ·have HV:=hid (locZ_other (plL X) j (by rw [lkZ_at _ _ hjp,pl_kind X j hj];exact h0))
  have a0:(X[j].kind != 0)=true:=by simpa using h0
  generalize X[j].kind=kd at *;clear hE h0 hneg hop c2 hm
  go_enter Tryz.func143,Tryz.ntmps143
  go_wp2_with fail;refine S1.out.mono ?_;rintro _ w1 ⟨rfl,b1⟩;have HB1:=hid b1;have z1:=b1.size;have c0':=(b1.cell (p:=⟨g,j*4,none⟩) hg).trans c0;clear b1 c0;go_wp2;go_ret;exact ⟨_,rfl,by rw [HV.out];exact World.ownsRow_nil _ _ _ _,HB1.out⟩
end Go.Proofs.YtcflojdkaddemaaGreatDoor

namespace Go.Proofs.YtcflojdkaddemaaGreatDoor
open Go.RowKit Go.Lib
def bldB (a b:Int):Bool:=(decide (0≤a)&&decide (a≤63))&&(decide (0≤b)&&decide (b≤3))
theorem ret_b8 {p q:Bool} (h:p=q):Ending.returned (.bool p)=.returned (.bool q):=by rw [h]
theorem s_in8 (x a b:Int) (w:World):Calls Tryz.prog 92 #[.int .i64 x,.int .i64 a,.int .i64 b] w fun e w'=>e=.returned (.bool (decide (a≤x)&&decide (x≤b)))∧w=w':=by
  by_cases h1:a≤x <;> by_cases h2:x≤b
  all_goals
    go_enter Tryz.func92,Tryz.ntmps92
    go_wp2;go_ret;exact ⟨ret_b8 (by simp [h1,h2]),rfl⟩
theorem i_buildOk (a b:Int) (c d:Bool) (w:World):Calls Tryz.prog 58 #[.agg #[.int .i64 a,.int .i64 b,.bool c,.bool d]] w fun e w'=>e=.returned (.bool (bldB a b))∧Below w.heap.size w w':=by
  unfold bldB
  by_cases h1:0≤a <;> by_cases h2:a≤63 <;> by_cases h3:0≤b <;> by_cases h4:b≤3
  all_goals first
    | (exfalso;omega)
    | (go_enter Tryz.func58, Tryz.ntmps58
       go_wp2;go_ret;exact ⟨ret_b8 (by simp [h1,h2,h3,h4]),(Below.refl _ _).alloc (Nat.le_refl _) _⟩)
end Go.Proofs.YtcflojdkaddemaaGreatDoor
