/- Parts of the proof. -/
import Derived.Test.YtcflojdkaddemaaGreatDoorI21
import Derived.Laws.EntriesVeiled
namespace Go.Proofs.YtcflojdkaddemaaGreatDoor
open Go.RowKit Go.Lib
structure FromAt (w:World) (a:Option Addr) (n cap cl cf:Nat):Prop where
 list:w.cell? ⟨cl,0,none⟩=some (.slice a n cap)
 self:w.cell? ⟨cf,0,none⟩=some (.func (.func 181) #[] #[.pointer (some ⟨cl,0,none⟩),.pointer (some ⟨cf,0,none⟩)])
 listLt:cl<w.heap.size
 selfLt:cf<w.heap.size
theorem FromAt.below {w w':World} {a:Option Addr} {n cap cl cf:Nat} (h:FromAt w a n cap cl cf) (hb:Below w.heap.size w w'):FromAt w' a n cap cl cf :=
 ⟨(hb.cell (p:=⟨cl,0,none⟩) h.listLt).trans h.list,(hb.cell (p:=⟨cf,0,none⟩) h.selfLt).trans h.self,Nat.lt_of_lt_of_le h.listLt hb.size,Nat.lt_of_lt_of_le h.selfLt hb.size⟩
set_option maxRecDepth 100000 in
set_option maxHeartbeats 4000000 in
theorem i_from (a:Option Addr) (cap:Nat) (l:List TokL) (cl cf:Nat) (hl:l.length≤20) (hn:NamesI l):∀ (n i:Nat),l.length≤i+n→(∃ q,scanN (l.drop i) 1=some q)→∀ w:World,ReadT w a l→FromAt w a l.length cap cl cf →
  Calls Tryz.prog 181 #[.int .i64 (i:Int),.pointer (some ⟨cl,0,none⟩),.pointer (some ⟨cf,0,none⟩)] w (Toks 147 w.heap.size (foldE (l.drop i)) w):=by
 intro n
 induction n with
 | zero =>
  intro i hi hq;obtain ⟨q,hq⟩:=hq;rw [List.drop_eq_nil_of_le (by omega)] at hq
  cases hq
 | succ n ih =>
  intro i hin hq w hr hat;obtain ⟨q,hq⟩:=hq;obtain ⟨hil,htb,q',_,hargs⟩:=scan_one _ _ _ hq;have hend:¬ endZ l (i:Int)<0:=by rw [endZ_nat,hq];show ¬ (i:Int)+(q:Int)<0;omega
  have hops:=ops_at l (arN l[i]) (i+1) q' hargs;have har:arZ l[i]=((arN l[i]:Nat):Int):=by have:=arZ_pos l[i] htb;unfold arN;omega
  have hoz:=opsZ_some l i hend hil (arN l[i]) har;have hfold:=fold_at l i hil;have hr4:arN l[i]≤4:=by have:=(arZ_bd l[i]).2;omega
  have S:=hid (fun W h=>i_ops a cap l (i:Int) W (by omega) h hn (by omega));have hrl:(opsZ l (i:Int)).length=arN l[i]:=by rw [hoz,opsFrom_length]
  rw [show ((i+1:Nat):Int)=(i:Int)+1 from by omega,← hoz] at hops;obtain ⟨R,hR⟩:∃ R,opsZ l (i:Int)=R:=⟨_,rfl⟩;rw [hR] at hops hrl S;obtain ⟨SG,hSG⟩:∃ SG,segs (l.drop (i+1))=SG:=⟨_,rfl⟩;rw [hSG] at hops hfold;have hlen:∀ t j,(outF t SG j).length≤21:=fun t j=>by
   have:=outF_len t (l.drop (i+1)) j
   rw [hSG,List.length_drop] at this;omega
  have HLEN:=hid hlen;have HOPS:=hid hops;have HFOLD:=hid hfold;have HIH:=hid ih;have HR:=hid hr;have HAT:=hid hat;have q0:=hat.list;have q1:=hat.listLt;obtain ⟨g,rfl,hg,c0,c1,c2⟩:=hr i hil;obtain ⟨t,ht⟩:∃ t,l[i]=t:=⟨_,rfl⟩;rw [ht] at c0 c1 c2 HOPS HFOLD hrl hr4;have HRL:=hid hrl;have k0:(0:Int)≤(i:Int):=by omega
  have k1:(i:Int)<(l.length:Int):=by omega
  obtain ⟨I0,hi,hz0,hz1,hz2⟩:=info_parts infoT;clear hat ih hq hargs hend hoz hR hSG hops hfold hlen hr ht htb har hil hn hrl
  go_enter Tryz.func181,Tryz.ntmps181
  go_wp2_with fail;have HB1:Hid (Below w.heap.size w (w.alloc (.cells #[.int .i64 t.kind,.int .i64 t.num,.string t.name] 147))):=hid ((Below.refl _ _).alloc (Nat.le_refl _) _);have HO1:=hid (tok_row (T:=147) w t (Nat.le_refl w.heap.size));have hs1:(w.alloc (.cells #[.int .i64 t.kind,.int .i64 t.num,.string t.name] 147)).heap.size=w.heap.size+1:=by simp
  refine (S.out _ (HR.out.below HB1.out)).mono ?_;rintro e w2 ⟨v0,rfl,O2,b2⟩;obtain ⟨p0,d0,rfl⟩:=owns3_shape O2;have HI2:=hid (owns_lower O2 (show w.heap.size≤_ by omega));have HO2:=hid (owns3_below HO1.out b2);have HB2:Hid (Below w.heap.size w w2):=hid (HB1.out.trans (b2.mono (by omega)));clear b2 O2 HO1 HB1 hs1;go_wp2_with fail
  go_loopw [5,7,17] (fun o _ k wr=>∃ j:Nat,j≤arN t∧k=.int .i64 (j:Int)∧wr.ownsRow w.heap.size 147 3 o (outF t SG j).length (toksV (outF t SG j))∧wr.ownsRow w.heap.size 3 1 (.slice p0 R.length d0) R.length (intV R)∧Below w.heap.size w wr) (fun _ _ k _=>arN t - (RowKit.intOf k).toNat)
  case atStart=>exact ⟨0,Nat.zero_le _,rfl,by rw [outF_zero];exact HO2.out,HI2.out,HB2.out⟩
  case round =>
   obtain ⟨j,hj,rfl,hown,hint,hbel⟩:=hrel;have HO:=hid hown;have HI:=hid hint;have HB:=hid hbel;have hB:=hbel.size;clear hown hint hbel
   by_cases hlt:j<arN t
   ·obtain ⟨x,hx,hxq,hix,hxl,hnext⟩:=HOPS.out j hlt
    have hjR:j<R.length:=by have:=HRL.out;omega
    have hxe:R[j]=(x:Int):=by rw [List.getElem?_eq_getElem hjR] at hx;exact Option.some.inj hx
    obtain ⟨gi,rfl,hgi,ci⟩:=readI_of HI.out j hjR;rw [hxe] at ci;have CALL:=hid (HIH.out x (by omega) hxq wr (HR.out.below HB.out) (HAT.out.below HB.out));have q2:=(HAT.out.below HB.out).self;have hpos:0<(foldE (l.drop x)).length:=by
     obtain ⟨q,hq⟩:=hxq;have h1:=segs_scan _ 1 _ hq;obtain ⟨rest,hrest⟩:=segs_head (l.drop x) (by omega);exact segs_pos (l.drop x) _ (by rw [hrest];exact List.mem_cons_self ..)
    have hfl:(foldE (l.drop x)).length≤20:=by have:=foldE_len (l.drop x);rw [List.length_drop] at this;omega
    have HNX:=hid (outF_next t SG j _ hnext);obtain ⟨X,hX⟩:∃ X,foldE (l.drop x)=X:=⟨_,rfl⟩;rw [hX] at CALL hpos hfl HNX;have hlen:=HLEN.out t j;have k2:(0:Int)≤(j:Int):=by omega
    have k3:(j:Int)<(R.length:Int):=by omega
    clear hx hxe hnext hX hxq hjR;go_wp2_with fail;refine CALL.out.mono ?_;rintro e w3 ⟨v3,rfl,O3,b3⟩;obtain ⟨g3,cap3,rfl,hg3,hg3',n3⟩:=toks_src O3 hpos;have HN3:=hid n3;have HOa:=hid (owns3_below HO.out b3);have HIa:=hid (owns3_below HI.out b3);have HBa:=hid (HB.out.trans (b3.mono hB));have za:=HBa.out.size;obtain ⟨Q,hQ⟩:∃ Q,outF t SG j=Q:=⟨_,rfl⟩;rw [hQ] at HOa HNX hlen;have h63:Q.length+X.length≤maxLen:=by unfold maxLen;omega
    have hby:(Q.length+X.length)*32≤140737488355328:=by omega
    clear b3 O3 n3 ci hQ;go_wp2_with (at_builtin;refine wpList_append_own _ rfl _ _ 85 rfl w.heap.size 147 I0 _ 3 32 Tryz.underlying85 hi hz0 hz1 hz2 rfl (by decide) _ _ _ rfl HOa.out ⟨g3,0,none⟩ X.length cap3 (toksV X) rfl ?c0 HN3.out ?c2 h63 hby za ?_)
    case c0=>exact toksV_length X
    case c2=>exact toks_cells1 X
    intro v' w4 hown4 hgrow4 _;have HO4:=hid (owns_toks (l:=Q++X) hown4 (by rw [toksV_append]));have HI4:=hid (HIa.out.kept hgrow4 (rows_apart HIa.out HOa.out (by decide)));have HB4:Hid (Below w.heap.size w w4):=hid (HBa.out.grown hgrow4 za (fun k hk=>(HOa.out.lt k hk).1));clear hown4 hgrow4;go_wp2;go_roundw
    case rel=>exact ⟨j+1,by omega,by go_num,by rw [HNX.out];exact HO4.out,HI4.out,HB4.out⟩
    case measure=>simp [RowKit.intOf];omega
   ·have hjj:j=arN t:=by omega
    subst hjj;have hRl:=HRL.out;have c0':=(HB.out.cell (p:=⟨g,i*3,none⟩) hg).trans c0;have c1':=(HB.out.cell (p:=⟨g,i*3+1,none⟩) hg).trans c1;have c2':=(HB.out.cell (p:=⟨g,i*3+2,none⟩) hg).trans c2;have hlen:=HLEN.out t (arN t);have HFW:=hid (i_whole w.heap.size _ (outF t SG (arN t)) wr hB HO.out (by omega));clear c0' c1' c2' c0 c1 c2 hlt hj;go_wp2_with fail;refine HFW.out.mono ?_;rintro e w5 ⟨v5,rfl,O5,b5⟩;have HO5:=hid O5;have HB5:Hid (Below w.heap.size w w5):=hid (HB.out.trans (b5.mono hB));clear O5 b5;go_wp2;go_ret;rw [HFOLD.out];exact ⟨_,rfl,HO5.out,HB5.out⟩
def foldV (l:List TokL):List TokL:=if exprB l=true then foldE l else []
set_option maxRecDepth 100000 in
set_option maxHeartbeats 1000000 in
theorem i_foldExpr (a:Option Addr) (cap:Nat) (l:List TokL) (w:World) (hl:l.length≤1048576) (hr:ReadT w a l) (hn:NamesI l) :
  Calls Tryz.prog 140 #[.slice a l.length cap] w fun e w'=>∃ v,e=.returned v∧w'.ownsRow w.heap.size 147 3 v (foldV l).length (toksV (foldV l))∧Below w.heap.size w w'∧(exprB l=false→v=.slice none 0 0):=by
 have HR:=hid hr;have HB0:Hid (Below w.heap.size w (w.alloc (.cells #[.slice a l.length cap] 85))):=hid ((Below.refl _ _).alloc (Nat.le_refl _) _);have X0:=heap_alloc_new w (.cells #[.slice a l.length cap] 85);have hs0:(w.alloc (.cells #[.slice a l.length cap] 85)).heap.size=w.heap.size+1:=by simp
 have S:=hid (i_exprok a cap l (w.alloc (.cells #[.slice a l.length cap] 85)) hl (hr.below HB0.out) hn);have e0:=(blk X0).1 0 _ rfl;have HV:Hid (foldV l=if exprB l=true then foldE l else []):=hid rfl
 cases hb:exprB l with
 | false =>
  rw [hb] at S HV;have HV':Hid (foldV l=[]):=hid HV.out;clear hb hr hn X0 HV
  go_enter Tryz.func140,Tryz.ntmps140
  go_wp2_with fail;refine S.out.mono ?_;rintro e w1 ⟨rfl,b1⟩;have HB:Hid (Below w.heap.size w w1):=hid (HB0.out.trans (b1.mono (by omega)));clear b1;go_wp2;go_ret;rw [HV'.out];exact ⟨_,rfl,World.ownsRow_nil _ _ _ _,HB.out,fun _=>rfl⟩
 | true =>
  rw [hb] at S HV;have HV':Hid (foldV l=foldE l):=hid HV.out;obtain ⟨h20,hsc⟩:=(exprB_scan l).1 hb;have F:=hid (fun W cl cf h h2=>i_from a cap l cl cf h20 hn l.length 0 (by omega) ⟨_,by rw [List.drop_zero];exact hsc⟩ W h h2);rw [List.drop_zero] at F;have X1:=hid X0;clear hb hr hn hsc X0 HV
  go_enter Tryz.func140,Tryz.ntmps140
  go_wp2_with fail;refine S.out.mono ?_;rintro e w1 ⟨rfl,b1⟩;have HB1:Hid (Below w.heap.size w w1):=hid (HB0.out.trans (b1.mono (by omega)));have E0:=hid ((b1.block w.heap.size (by omega)).trans X1.out);have z1:=b1.size;rw [hs0] at z1;clear b1;have hlt:w.heap.size<w1.heap.size:=by omega
  have HBF:Hid (Below w1.heap.size w1 (w1.alloc (.cells #[.func (.func 181) #[] #[.pointer (some ⟨w.heap.size,0,none⟩),.pointer (some ⟨w1.heap.size,0,none⟩)]] 191))):=hid ((Below.refl _ _).alloc (Nat.le_refl _) _);have HF:=hid (F.out (w1.alloc (.cells #[.func (.func 181) #[] #[.pointer (some ⟨w.heap.size,0,none⟩),.pointer (some ⟨w1.heap.size,0,none⟩)]] 191)) w.heap.size w1.heap.size (HR.out.below (HB1.out.alloc (by omega) _)) ⟨(blk ((HBF.out.block _ hlt).trans E0.out)).1 0 _ rfl,(blk (heap_alloc_new w1 _)).1 0 _ rfl,by have:=HBF.out.size;omega,by simp⟩);have hsz:(w1.alloc (.cells #[.func (.func 181) #[] #[.pointer (some ⟨w.heap.size,0,none⟩),.pointer (some ⟨w1.heap.size,0,none⟩)]] 191)).heap.size=w1.heap.size+1:=by simp
  go_wp2_with fail;refine HF.out.mono ?_;rintro e w2 ⟨v2,rfl,O2,b2⟩;have HO2:=hid (owns_lower O2 (show w.heap.size≤_ by omega));have HB2:Hid (Below w.heap.size w w2):=hid ((HB1.out.trans (HBF.out.mono (by omega))).trans (b2.mono (by omega)));clear O2 b2;go_wp2;go_ret;rw [HV'.out];exact ⟨_,rfl,HO2.out,HB2.out,fun h=>by cases h⟩
end Go.Proofs.YtcflojdkaddemaaGreatDoor

namespace Go.Proofs.YtcflojdkaddemaaGreatDoor
open Go.RowKit Go.Lib
theorem s_in (x lo hi:Int) (w:World):Calls Tryz.prog 92 #[.int .i64 x,.int .i64 lo,.int .i64 hi] w fun e w'=>e=.returned (.bool (decide (lo≤x)&&decide (x≤hi)))∧w=w':=by
 by_cases h1:lo≤x <;> by_cases h2:x≤hi
 all_goals
  go_enter Tryz.func92,Tryz.ntmps92
  go_wp2;go_ret;exact ⟨ret_b (by simp [h1,h2]),rfl⟩
theorem s_name (s:ByteArray) (w:World) (hm:s.size≤maxLen):Calls Tryz.prog 108 #[.string s] w fun e w'=>e=.returned (.bool (nameB s))∧w=w':=by
 unfold maxLen at hm
 go_enter Tryz.func108,Tryz.ntmps108
 go_wp2_with fail
 go_loop [3] (fun i=>∃ k:Nat,k≤s.size∧i=.int .i64 (k:Int)∧(s.data.toList.take k).all lowB=true) (fun i=>s.size - (intOf i).toNat)
 case atStart=>exact ⟨0,Nat.zero_le _,rfl,rfl⟩
 case round =>
  obtain ⟨k,hk,rfl,ha⟩:=hrel;have HA:=hid ha;clear ha
  by_cases hlt:k<s.size
  ·have hp:s[k].toNat<256:=s[k].toNat_lt
   by_cases hbad:s[k].toNat<97∨122<s[k].toNat
   ·have hr:=hid (nameB_bad s k hlt hbad)
    go_wp2_with fail
    all_goals go_ret
    all_goals exact ⟨ret_b hr.out.symm,rfl⟩
   ·have h1:97≤s[k].toNat:=by omega
    have h2:s[k].toNat≤122:=by omega
    have HN:=hid (low_next s k hlt HA.out h1 h2);clear hbad;go_wp2
    go_round
    case rel=>exact ⟨k+1,by omega,by go_num,HN.out⟩
    case measure=>simp [intOf];omega
  ·have hkk:k=s.size:=by omega
   have hr:=hid (nameB_all s (by have:=HA.out;rw [hkk] at this;exact this));clear hkk;go_wp2_with (first|(go_at_call 92;refine (s_in _ _ _ _).mono ?_;rintro e w' ⟨rfl,rfl⟩))
   go_ret;exact ⟨ret_b (by rw [hr.out];congr 1 <;> (rw [decide_eq_decide];omega)),rfl⟩
end Go.Proofs.YtcflojdkaddemaaGreatDoor
namespace Go.Proofs.YtcflojdkaddemaaGreatDoor
open Go.RowKit Go.Lib
set_option maxHeartbeats 1000000 in
theorem s_tok (k n:Int) (s:ByteArray) (w:World) (hm:s.size≤maxLen) :
  Calls Tryz.prog 190 #[.agg #[.int .i64 k,.int .i64 n,.string s]] w fun e w'=>e=.returned (.bool (tokB ⟨k,n,s⟩))∧Below w.heap.size w w':=by
 by_cases hk:k<0∨7<k
 ·have hr:=hid (tokB_out k n s hk)
  have hd:(decide (0≤k)&&decide (k≤7))=false:=by simp;omega
  go_enter Tryz.func190,Tryz.ntmps190
  go_wp2_with (first|(go_at_call 92;refine (s_in _ _ _ _).mono ?_;rintro e w' ⟨rfl,rfl⟩))
  go_ret;exact ⟨ret_b hr.out.symm,(Below.refl _ _).alloc (Nat.le_refl _) _⟩
 have k0:0≤k:=by omega
 have k7:k≤7:=by omega
 clear hk;have hn1:=hid (noName_of s);have hn0:=hid (noName_not s)
 by_cases h0:k=0
 ·subst h0
  have hr:=hid (tokB_0 n s)
  by_cases hn:0≤n∧n≤999
  ·obtain ⟨n0,n1⟩:=hn
   by_cases hs:s.size=0
   ·have hN:=hid (hn1.out hs)
    obtain rfl:=empty_yes s hs;clear hs hm
    go_enter Tryz.func190,Tryz.ntmps190
    go_wp2_with (first|(go_at_call 92;refine (s_in _ _ _ _).mono ?_;rintro e w' ⟨rfl,rfl⟩))
    go_ret;exact ⟨ret_b (by rw [hr.out,hN.out,decide_eq_true n0,decide_eq_true n1];rfl),(Below.refl _ _).alloc (Nat.le_refl _) _⟩
   ·have hN:=hid (hn0.out hs)
    have hE:=empty_no s hs;clear hs
    go_enter Tryz.func190,Tryz.ntmps190
    go_wp2_with (first|(go_at_call 92;refine (s_in _ _ _ _).mono ?_;rintro e w' ⟨rfl,rfl⟩))
    go_ret;exact ⟨ret_b (by rw [hr.out,hN.out];simp),(Below.refl _ _).alloc (Nat.le_refl _) _⟩
  ·have hd:(decide (0≤n)&&decide (n≤999))=false:=by simp;omega
   have HD:=hid hd
   go_enter Tryz.func190,Tryz.ntmps190
   go_wp2_with (first|(go_at_call 92;refine (s_in _ _ _ _).mono ?_;rintro e w' ⟨rfl,rfl⟩))
   go_ret;exact ⟨ret_b (by rw [hr.out,← Bool.and_assoc,HD.out];rfl),(Below.refl _ _).alloc (Nat.le_refl _) _⟩
 have e0:(k == 0)=false:=by simpa using h0
 by_cases h1:k=1
 ·subst h1
  have hr:=hid (tokB_1 n s)
  by_cases hn:n=0
  ·subst hn
   go_enter Tryz.func190,Tryz.ntmps190
   go_wp2_with (first|(go_at_call 92;refine (s_in _ _ _ _).mono ?_;rintro e w' ⟨rfl,rfl⟩)|(go_at_call 108;refine (s_name _ _ hm).mono ?_;rintro e w' ⟨rfl,rfl⟩))
   go_ret;exact ⟨ret_b (by rw [hr.out];rfl),(Below.refl _ _).alloc (Nat.le_refl _) _⟩
  ·have en:(n == 0)=false:=by simpa using hn
   have HN:=hid hn;clear hn
   go_enter Tryz.func190,Tryz.ntmps190
   go_wp2_with (first|(go_at_call 92;refine (s_in _ _ _ _).mono ?_;rintro e w' ⟨rfl,rfl⟩)|(go_at_call 108;refine (s_name _ _ hm).mono ?_;rintro e w' ⟨rfl,rfl⟩))
   go_ret;exact ⟨ret_b (by rw [hr.out,decide_eq_false HN.out];rfl),(Below.refl _ _).alloc (Nat.le_refl _) _⟩
 have e1:(k == 1)=false:=by simpa using h1
 by_cases h7:k=7
 ·subst h7
  have hr:=hid (tokB_7 n s)
  by_cases hn:0≤n∧n≤4
  ·obtain ⟨n0,n1⟩:=hn
   go_enter Tryz.func190,Tryz.ntmps190
   go_wp2_with (first|(go_at_call 92;refine (s_in _ _ _ _).mono ?_;rintro e w' ⟨rfl,rfl⟩)|(go_at_call 108;refine (s_name _ _ hm).mono ?_;rintro e w' ⟨rfl,rfl⟩))
   go_ret;exact ⟨ret_b (by rw [hr.out,decide_eq_true n0,decide_eq_true n1];rfl),(Below.refl _ _).alloc (Nat.le_refl _) _⟩
  ·have hd:(decide (0≤n)&&decide (n≤4))=false:=by simp;omega
   have HD:=hid hd
   go_enter Tryz.func190,Tryz.ntmps190
   go_wp2_with (first|(go_at_call 92;refine (s_in _ _ _ _).mono ?_;rintro e w' ⟨rfl,rfl⟩))
   go_ret;exact ⟨ret_b (by rw [hr.out,← Bool.and_assoc,HD.out];rfl),(Below.refl _ _).alloc (Nat.le_refl _) _⟩
 have e7:(k == 7)=false:=by simpa using h7
 have hr:Hid (tokB ⟨k,n,s⟩=(decide (n=0)&&noName s)):=hid (by rw [tokB_op k n s h0 h1 h7,decide_eq_true (by omega:2≤k),decide_eq_true (by omega:k≤6)];rfl);clear h0 h1 h7
 by_cases hn:n=0
 ·subst hn
  by_cases hs:s.size=0
  ·have hN:=hid (hn1.out hs)
   obtain rfl:=empty_yes s hs;clear hs hm
   go_enter Tryz.func190,Tryz.ntmps190
   go_wp2_with (first|(go_at_call 92;refine (s_in _ _ _ _).mono ?_;rintro e w' ⟨rfl,rfl⟩))
   go_ret;exact ⟨ret_b (by rw [hr.out,hN.out];rfl),(Below.refl _ _).alloc (Nat.le_refl _) _⟩
  ·have hN:=hid (hn0.out hs)
   have hE:=empty_no s hs;clear hs
   go_enter Tryz.func190,Tryz.ntmps190
   go_wp2_with (first|(go_at_call 92;refine (s_in _ _ _ _).mono ?_;rintro e w' ⟨rfl,rfl⟩))
   go_ret;exact ⟨ret_b (by rw [hr.out,hN.out];rfl),(Below.refl _ _).alloc (Nat.le_refl _) _⟩
 ·have en:(n == 0)=false:=by simpa using hn
  have HN:=hid hn;clear hn
  go_enter Tryz.func190,Tryz.ntmps190
  go_wp2_with (first|(go_at_call 92;refine (s_in _ _ _ _).mono ?_;rintro e w' ⟨rfl,rfl⟩))
  go_ret;exact ⟨ret_b (by rw [hr.out,decide_eq_false HN.out];rfl),(Below.refl _ _).alloc (Nat.le_refl _) _⟩
theorem s_tok' (t:TokL) (w:World) (hm:t.name.size≤maxLen) :
  Calls Tryz.prog 190 #[.agg #[.int .i64 t.kind,.int .i64 t.num,.string t.name]] w fun e w'=>e=.returned (.bool (tokB t))∧Below w.heap.size w w':=s_tok t.kind t.num t.name w hm
set_option maxHeartbeats 1000000 in
theorem s_arity (k n:Int) (s:ByteArray) (w:World) (hm:s.size≤maxLen) :
  Calls Tryz.prog 191 #[.agg #[.int .i64 k,.int .i64 n,.string s]] w fun e w'=>e=.returned (.int .i64 (arZ ⟨k,n,s⟩))∧Below w.heap.size w w':=by
 obtain ⟨b,hb⟩:∃ b,tokB ⟨k,n,s⟩=b:=⟨_,rfl⟩;have HT:Hid (∀ W:World,Calls Tryz.prog 190 #[.agg #[.int .i64 k,.int .i64 n,.string s]] W fun e w'=>e=.returned (.bool b)∧Below W.heap.size W w'):=hid (fun W=>hb▸s_tok k n s W hm)
 cases b
 ·have hr:=hid (arZ_bad _ hb)
  clear hb
  go_enter Tryz.func191,Tryz.ntmps191
  go_wp2_with (first|(go_at_call 190;refine (HT.out _).mono ?_;rintro e w1 ⟨rfl,b1⟩))
  go_ret;exact ⟨ret_int hr.out.symm,((Below.refl _ _).alloc (Nat.le_refl _) _).trans (b1.mono (by simp))⟩
 ·by_cases h0:k=0
  ·subst h0
   have hr:=hid (arZ_0 _ _ hb);clear hb
   go_enter Tryz.func191,Tryz.ntmps191
   go_wp2_with fail;refine (HT.out _).mono ?_;rintro e w1 ⟨rfl,b1⟩;have hc:=fun o=>b1.cell (p:=⟨w.heap.size,o,none⟩) (by simp)
   go_wp2;go_ret;exact ⟨ret_int hr.out.symm,((Below.refl _ _).alloc (Nat.le_refl _) _).trans (b1.mono (by simp))⟩
  by_cases h1:k=1
  ·subst h1
   have hr:=hid (arZ_1 _ _ hb);clear hb
   go_enter Tryz.func191,Tryz.ntmps191
   go_wp2_with fail;refine (HT.out _).mono ?_;rintro e w1 ⟨rfl,b1⟩;have hc:=fun o=>b1.cell (p:=⟨w.heap.size,o,none⟩) (by simp)
   go_wp2;go_ret;exact ⟨ret_int hr.out.symm,((Below.refl _ _).alloc (Nat.le_refl _) _).trans (b1.mono (by simp))⟩
  have e0:(k == 0)=false:=by simpa using h0
  have e1:(k == 1)=false:=by simpa using h1
  by_cases h7:k=7
  ·subst h7
   have hr:=hid (arZ_7 _ _ hb);clear hb h0 h1
   go_enter Tryz.func191,Tryz.ntmps191
   go_wp2_with fail;refine (HT.out _).mono ?_;rintro e w1 ⟨rfl,b1⟩;have hc:=fun o=>b1.cell (p:=⟨w.heap.size,o,none⟩) (by simp)
   go_wp2;go_ret;exact ⟨ret_int hr.out.symm,((Below.refl _ _).alloc (Nat.le_refl _) _).trans (b1.mono (by simp))⟩
  ·have hr:=hid (arZ_op _ _ _ hb h0 h1 h7)
   have e7:(k == 7)=false:=by simpa using h7
   clear hb h0 h1 h7
   go_enter Tryz.func191,Tryz.ntmps191
   go_wp2_with fail;refine (HT.out _).mono ?_;rintro e w1 ⟨rfl,b1⟩;have hc:=fun o=>b1.cell (p:=⟨w.heap.size,o,none⟩) (by simp)
   go_wp2;go_ret;exact ⟨ret_int hr.out.symm,((Below.refl _ _).alloc (Nat.le_refl _) _).trans (b1.mono (by simp))⟩
end Go.Proofs.YtcflojdkaddemaaGreatDoor

namespace Go.Proofs.YtcflojdkaddemaaGreatDoor
open Go.RowKit Go.Lib
def NamesT (l:List TokL):Prop:=∀ j (h:j<l.length),l[j].name.size≤maxLen
set_option maxHeartbeats 1000000 in
theorem s_end (a:Option Addr) (cap:Nat) (l:List TokL) (b:Int) (w:World) (hl:l.length≤1048576) (hr:ReadT w a l) (hn:NamesT l) (hb:b≤9223372036854775807) :
  Calls Tryz.prog 156 #[.slice a l.length cap,.int .i64 b] w fun e w'=>e=.returned (.int .i64 (endZ l b))∧Below w.heap.size w w':=by
 by_cases hb0:b<0
 ·have hr:=hid (endZ_neg l b hb0)
  go_enter Tryz.func156,Tryz.ntmps156
  go_wp2;go_ret;exact ⟨ret_int hr.out.symm,Below.refl _ _⟩
 obtain ⟨i0,rfl⟩:=Int.eq_ofNat_of_zero_le (by omega:0≤b);have HR:=hid hr;have HN:=hid hn;obtain ⟨R,hR⟩:∃ R,resZ (scanN (l.drop i0) 1) i0=R:=⟨_,rfl⟩;have HE:Hid (endZ l (i0:Int)=R):=hid (by rw [endZ_nat,hR]);have HR0:=hid hR;clear hr hn hR
 go_enter Tryz.func156,Tryz.ntmps156
 go_wp2_with fail
 go_loopw [1,5] (fun x y wr=>∃ i n:Nat,x=.int .i64 (i:Int)∧y=.int .i64 (n:Int)∧n≤1+4*i∧i≤9223372036854775807∧resZ (scanN (l.drop i) n) i=R∧Below w.heap.size w wr) (fun x _ _=>l.length - (intOf x).toNat)
 case atStart=>exact ⟨i0,1,rfl,rfl,by omega,by omega,HR0.out,Below.refl _ _⟩
 case round =>
  obtain ⟨i,n,rfl,rfl,hn,hi,hres,hbel⟩:=hrel;have HB:=hid hbel;have hB:=hbel.size;have HS:=hid hres;clear hres
  by_cases hn0:n=0
  ·subst hn0
   have HV:=hid (scan_zero (l.drop i) i);go_wp2_with fail;go_ret;exact ⟨ret_int (by rw [HE.out,← HS.out,HV.out]),HB.out⟩
  have hnp:0<n:=by omega
  by_cases hlt:i<l.length
  ·obtain ⟨g,rfl,hg,c0,c1,c2⟩:=HR.out i hlt
   have hsz:=HN.out i hlt;have HV0:=hid (scan_bad l i n hlt hnp);have HV1:=hid (scan_ok l i n hlt hnp);obtain ⟨t,ht⟩:∃ t,l[i]=t:=⟨_,rfl⟩;rw [ht] at c0 c1 c2 hsz HV0 HV1;have d0:wr.cell? ⟨g,i*3,none⟩=some (.int .i64 t.kind):=(hbel.cell (p:=⟨g,_,none⟩) hg).trans c0;have d1:wr.cell? ⟨g,i*3+1,none⟩=some (.int .i64 t.num):=(hbel.cell (p:=⟨g,_,none⟩) hg).trans c1;have d2:wr.cell? ⟨g,i*3+2,none⟩=some (.string t.name):=(hbel.cell (p:=⟨g,_,none⟩) hg).trans c2;have gw:g<wr.heap.size:=by omega
   have k0:(0:Int)≤(i:Int):=by omega
   have k1:(i:Int)<(l.length:Int):=by omega
   clear c0 c1 c2 hbel ht hn0;obtain ⟨ok,hok⟩:∃ ok,tokB t=ok:=⟨_,rfl⟩;have HT:Hid (∀ W:World,Calls Tryz.prog 190 #[.agg #[.int .i64 t.kind,.int .i64 t.num,.string t.name]] W fun e w'=>e=.returned (.bool ok)∧Below W.heap.size W w'):=hid (fun W=>hok▸s_tok' t W hsz)
   cases ok
   ·have HV:=hid (HV0.out hok)
    clear hok;go_wp2_with fail;refine (HT.out _).mono ?_;rintro e w1 ⟨rfl,b1⟩;have HB1:=hid (HB.out.trans (b1.mono hB));clear b1;go_wp2;go_ret;exact ⟨ret_int (by rw [HE.out,← HS.out,HV.out]),HB1.out⟩
   ·have HV:=hid (HV1.out hok)
    have ar0:=arZ_pos t hok;have ar1:=(arZ_bd t).2;obtain ⟨r,hr⟩:=Int.eq_ofNat_of_zero_le ar0;have HA:Hid (∀ W:World,Calls Tryz.prog 191 #[.agg #[.int .i64 t.kind,.int .i64 t.num,.string t.name]] W fun e w'=>e=.returned (.int .i64 (r:Int))∧Below W.heap.size W w'):=hid (fun W=>by have:=s_arity t.kind t.num t.name W hsz;rw [show arZ ⟨t.kind,t.num,t.name⟩=arZ t from rfl,hr] at this;exact this);have hr4:r≤4:=by omega
    have HV':Hid (resZ (scanN (l.drop i) n) i=resZ (scanN (l.drop (i+1)) (n - 1+r)) (i+1)):=hid (by rw [HV.out,hr];rfl);clear hok ar0 ar1 hr HV HV0 HV1;go_wp2_with fail;refine (HT.out _).mono ?_;rintro e w1 ⟨rfl,b1⟩;have HB1:=hid (HB.out.trans (b1.mono hB));have hB1:w.heap.size≤w1.heap.size:=HB1.out.size;have e0:=(b1.cell (p:=⟨g,i*3,none⟩) gw).trans d0;have e1:=(b1.cell (p:=⟨g,i*3+1,none⟩) gw).trans d1;have e2:=(b1.cell (p:=⟨g,i*3+2,none⟩) gw).trans d2;clear b1 d0 d1 d2;go_wp2_with fail;refine (HA.out _).mono ?_;rintro e w2 ⟨rfl,b2⟩;have HB2:=hid (HB1.out.trans (b2.mono hB1));clear b2;go_wp2;go_roundw
    case rel=>exact ⟨i+1,n - 1+r,by go_num,by go_num,by omega,by omega,by rw [← HV'.out];exact HS.out,HB2.out⟩
    case measure=>simp [intOf];omega
  ·have HV:=hid (scan_out l i n (by omega) hnp)
   go_wp2_with fail;go_ret;exact ⟨ret_int (by rw [HE.out,← HS.out,HV.out]),HB.out⟩
end Go.Proofs.YtcflojdkaddemaaGreatDoor
namespace Go.Proofs.YtcflojdkaddemaaGreatDoor
open Go.RowKit Go.Lib
theorem exprB_nil:exprB []=false:=rfl
theorem exprB_long (l:List TokL) (h:20<l.length):exprB l=false:=by unfold exprB;rw [decide_eq_false (by omega:¬ l.length≤20)];rfl
theorem exprB_mid (l:List TokL) (h:l.length≤20):exprB l=(endZ l 0 == (l.length:Int)):=by
 unfold exprB;rw [decide_eq_true h,Bool.true_and];rw [Bool.eq_iff_iff];simp
set_option maxHeartbeats 400000 in
theorem s_exprok (a:Option Addr) (cap:Nat) (l:List TokL) (w:World) (hl:l.length≤1048576) (hr:ReadT w a l) (hn:NamesT l) :
  Calls Tryz.prog 110 #[.slice a l.length cap] w fun e w'=>e=.returned (.bool (exprB l))∧Below w.heap.size w w':=by
 by_cases h0:l.length=0
 ·obtain rfl:=List.length_eq_zero_iff.1 h0
  clear hl hr hn h0
  go_enter Tryz.func110,Tryz.ntmps110
  go_wp2;go_ret;exact ⟨ret_b exprB_nil.symm,Below.refl _ _⟩
 have hpos:0<l.length:=by omega
 clear h0
 by_cases hb:20<l.length
 ·have HV:=hid (exprB_long l hb)
  have hd:decide (l.length≤20)=false:=by simp;omega
  clear hr hn
  go_enter Tryz.func110,Tryz.ntmps110
  go_wp2;go_ret;exact ⟨ret_b HV.out.symm,Below.refl _ _⟩
 have hb':l.length≤20:=by omega
 have HV:=hid (exprB_mid l hb');have S:=hid (fun W h=>s_end a cap l 0 W hl h hn (by omega));have HR:=hid hr;clear hr hn hb;obtain ⟨r,hre⟩:∃ r,endZ l 0=r:=⟨_,rfl⟩;rw [hre] at S HV;clear hre
 go_enter Tryz.func110,Tryz.ntmps110
 go_wp2_with fail;refine (S.out _ HR.out).mono ?_;rintro e w1 ⟨rfl,b1⟩;have HB:=hid b1;clear b1;go_wp2
 all_goals go_ret
 all_goals exact ⟨ret_b (by rw [HV.out]),HB.out⟩
end Go.Proofs.YtcflojdkaddemaaGreatDoor

namespace Go.Proofs.YtcflojdkaddemaaGreatDoor
open Go.RowKit Go.Lib
end Go.Proofs.YtcflojdkaddemaaGreatDoor

namespace Go.Proofs.YtcflojdkaddemaaGreatDoor
open Go.RowKit Go.Lib
end Go.Proofs.YtcflojdkaddemaaGreatDoor

namespace Go.Proofs.YtcflojdkaddemaaGreatDoor
open Go.RowKit Go.Lib
end Go.Proofs.YtcflojdkaddemaaGreatDoor

namespace Go.Proofs.YtcflojdkaddemaaGreatDoor
open Go.RowKit Go.Lib
theorem gSh : Tryz.prog.globalNamed "loop.example/g03314/impl.lineShapes" = some 0 := by kernel_rfl
theorem tSh:(Tryz.prog.globals[0]?).map (·.type)=some 225:=by kernel_rfl
theorem cSh:Tryz.prog.cellsOf 225=8*4:=by kernel_rfl
theorem cSh1:Tryz.prog.cellsOf 224=4:=by kernel_rfl
theorem cStr:Tryz.prog.cellsOf 9=1:=by kernel_rfl
theorem cBool:Tryz.prog.cellsOf 4=1:=by kernel_rfl
def Shapes (w : World) : Prop := ∃ cs : List Value, w.var? Tryz.prog "loop.example/g03314/impl.lineShapes" = some cs.toArray ∧
 ∀ k:Nat,k<8→cs[k*4]?=some (.string (wordZ (k:Int)))∧cs[k*4+1]?=some (.bool (namedB (k:Int)))∧cs[k*4+2]?=some (.bool (decide ((k:Int)=0)))∧cs[k*4+3]?=some (.bool (exprK (k:Int)))
theorem laid_is:(Rows.laid_loop_example_g03314_impl_lineShapes:DataW Unit)=.agg (shapesT.map row4D):=by rfl
theorem shapes_head {rest : List (String × DataW Unit)} {W : World} (h : laidMet Tryz.prog (("loop.example/g03314/impl.lineShapes", Rows.laid_loop_example_g03314_impl_lineShapes) :: rest) W) : Shapes W := by
 obtain ⟨ps,⟨g',t',cs,fuel,p,q,hg',ht',hvar,hd,_,_⟩,_⟩:=h;obtain rfl:=Option.some.inj (tSh.symm.trans ((Option.some.inj (gSh.symm.trans hg'))▸ht'));rw [laid_is] at hd;have hc:=cells_of_rows4 (P:=Tryz.prog) Tryz.underlying225 Tryz.underlying224 cSh1 cSh Tryz.underlying9 Tryz.underlying4 Tryz.underlying4 Tryz.underlying4 ⟨rfl,cStr⟩ ⟨rfl,cBool⟩ ⟨rfl,cBool⟩ ⟨rfl,cBool⟩ hd;refine ⟨_,hvar,fun k hk=>?_⟩;obtain ⟨⟨s,c0,e0⟩,c1,c2,c3⟩:=hc k _ (shapes_at k hk);exact ⟨by rw [c0,bl_eq e0],c1,c2,c3⟩
theorem Shapes.on {w w':World} (h:Shapes w) (hb:Below w.heap.size w w'):Shapes w':=by
 obtain ⟨cs,hv,hc⟩:=h;refine ⟨cs,var?_below hb gSh ?_ hv,hc⟩
 have:=World.var?_cell gSh hv 0
 have h0:=(hc 0 (by omega)).1;simp only [Nat.zero_mul] at h0;exact World.block_lt_of_cell? w _ (this.trans (by simpa using h0))
theorem Shapes.at {w:World} (h:Shapes w) (k:Nat) (hk:k<8) :
  w.cell? ⟨0,k*4,none⟩=some (.string (wordZ (k:Int)))∧w.cell? ⟨0,k*4+1,none⟩=some (.bool (namedB (k:Int))) ∧
  w.cell? ⟨0,k*4+2,none⟩=some (.bool (decide ((k:Int)=0)))∧w.cell? ⟨0,k*4+3,none⟩=some (.bool (exprK (k:Int))):=by
 obtain ⟨cs,hv,hc⟩:=h;have hv':=World.var?_cell gSh hv;obtain ⟨c0,c1,c2,c3⟩:=hc k hk;exact ⟨(hv' _).trans (by simpa using c0),(hv' _).trans (by simpa using c1),(hv' _).trans (by simpa using c2),(hv' _).trans (by simpa using c3)⟩
end Go.Proofs.YtcflojdkaddemaaGreatDoor

namespace Go.Proofs.YtcflojdkaddemaaGreatDoor
open Go.RowKit Go.Lib
def IdxRes (l:List ByteArray) (x:ByteArray) (w:World) (e:Ending) (w':World):Prop :=
 ∃ r:Int,e=.returned (.int .i64 r)∧memB l x=decide (0≤r)∧-1≤r∧r≤2000000∧w=w'
set_option maxHeartbeats 1000000 in
theorem i_sidx (a:Option Addr) (c:Nat) (l:List ByteArray) (n:Nat) (hn:l.length=n) (x:ByteArray) (w:World) (hr:ReadS w a l) (hl:n≤2000000) :
  Calls Tryz.prog 212 #[.slice a n c,.string x] w (IdxRes l x w):=by
 have HR:=hid hr;have HL:=hid hn;clear hr hn
 go_enter Tryz.func212,Tryz.ntmps212
 go_wp2_with fail
 go_loop [5,8] (fun _ i=>∃ k:Nat,k≤n∧i=.int .i64 (k:Int)∧Hid (x ∉ l.take k)) (fun _ i=>n - (RowKit.intOf i).toNat)
 case atStart=>exact ⟨0,Nat.zero_le _,rfl,hid (by simp)⟩
 case round =>
  obtain ⟨k,hk,rfl,HX⟩:=hrel
  by_cases hlt:k<n
  ·have hkl:k<l.length:=by rw [HL.out];exact hlt
   obtain ⟨g,rfl,c0⟩:=HR.out k hkl;have NX:=hid (not_next l x k hkl HX.out);have YM:=hid (List.getElem_mem hkl);obtain ⟨y,hy⟩:∃ y,l[k]=y:=⟨_,rfl⟩;rw [hy] at c0 NX YM;have k0:(0:Int)≤(k:Int):=by omega
   have k1:(k:Int)<(n:Int):=by omega
   clear hy hkl
   by_cases hxy:x=y
   ·subst hxy
    clear NX;go_wp2;go_ret;exact ⟨(k:Int),rfl,by rw [(memB_iff l x).2 YM.out,decide_eq_true k0],by omega,by omega,rfl⟩
   ·have hsf:=str_ne x y hxy
    have NY:=hid (NX.out hxy);clear hxy NX;go_wp2
    go_round
    case rel=>exact ⟨k+1,by omega,by go_num,NY⟩
    case measure=>simp [RowKit.intOf];omega
  ·have HN:Hid (memB l x=false):=hid (by
    have h:=HX.out;rw [List.take_of_length_le (by rw [HL.out];omega)] at h;exact memB_no l x h)
   go_wp2;go_ret;exact ⟨-1,rfl,by rw [HN.out];rfl,by omega,by omega,rfl⟩
set_option maxHeartbeats 1000000 in
theorem i_cont (a:Option Addr) (c:Nat) (l:List ByteArray) (n:Nat) (hn:l.length=n) (x:ByteArray) (w:World) (hr:ReadS w a l) (hl:n≤2000000) :
  Calls Tryz.prog 184 #[.slice a n c,.string x] w fun e w'=>e=.returned (.bool (memB l x))∧w=w':=by
 have S:=hid (i_sidx a c l n hn x w hr hl);clear hr hn
 go_enter Tryz.func184,Tryz.ntmps184
 go_wp2_with fail;refine S.out.mono ?_;rintro e w' ⟨r,rfl,hm,h1,h2,rfl⟩;have HM:=hid hm;clear hm
 by_cases h0:0≤r
 ·have hd:decide (0≤r)=true:=decide_eq_true h0
  go_wp2;go_ret;exact ⟨ret_b (by rw [HM.out,decide_eq_true h0]),rfl⟩
 ·have hd:decide (0≤r)=false:=decide_eq_false h0
  go_wp2;go_ret;exact ⟨ret_b (by rw [HM.out,decide_eq_false (by omega)]),rfl⟩
set_option maxRecDepth 100000 in
set_option maxHeartbeats 1000000 in
theorem i_diff (a:Option Addr) (c:Nat) (l:List ByteArray) (w:World) (hr:ReadS w a l) (hl:l.length≤2000000) (hc:l.length≤c) (hc2:c≤maxLen) (hz:∀ s ∈ l,s.size≤maxLen) :
  Calls Tryz.prog 215 #[.slice a l.length c] w fun e w'=>e=.returned (.bool (diffB l))∧w=w':=by
 have HR:=hid hr;have HZ:=hid hz;unfold maxLen at hc2;clear hr hz
 go_enter Tryz.func215,Tryz.ntmps215
 go_wp2_with fail
 go_loop [3,4,7] (fun _ _ i=>∃ k:Nat,k≤l.length∧i=.int .i64 (k:Int)∧Hid (diffB (l.take k)=true)) (fun _ _ i=>l.length - (RowKit.intOf i).toNat)
 case atStart=>exact ⟨0,Nat.zero_le _,rfl,hid rfl⟩
 case round =>
  obtain ⟨k,hk,rfl,HD⟩:=hrel
  by_cases hlt:k<l.length
  ·obtain ⟨g,rfl,c0⟩:=HR.out k hlt
   have NX:=hid (diffB_next l k hlt HD.out);have BD:=hid (diffB_bad l k hlt);have hsz:=HZ.out _ (List.getElem_mem hlt);have hln:(l.take k).length=k:=by rw [List.length_take];omega
   have HC:=hid (fun x=>i_cont (some ⟨g,0,none⟩) c (l.take k) k hln x w (HR.out.take k) (by omega));obtain ⟨y,hy⟩:∃ y,l[k]=y:=⟨_,rfl⟩;rw [hy] at c0 NX BD hsz;have HN:=hid (i_name y w hsz);have k0:(0:Int)≤(k:Int):=by omega
   have k1:(k:Int)<(l.length:Int):=by omega
   have k2:(k:Int)≤(c:Int):=by omega
   have k3:k≤c:=by omega
   clear hy hln hsz
   cases hb:nameB y with
   | false =>
    have HV:=hid (BD.out (.inl hb));rw [hb] at HN;clear hb NX BD;go_wp2_with fail;refine HN.out.mono ?_;rintro e w' ⟨rfl,rfl⟩;go_wp2;go_ret;exact ⟨ret_b HV.out.symm,rfl⟩
   | true =>
    rw [hb] at HN
    cases hm:memB (l.take k) y with
    | true =>
     have HV:=hid (BD.out (.inr ((memB_iff _ _).1 hm)));have HCy:=hid (hm▸HC.out y);clear hb hm NX BD;go_wp2_with fail;refine HN.out.mono ?_;rintro e w' ⟨rfl,rfl⟩;go_wp2_with fail;refine HCy.out.mono ?_;rintro e w' ⟨rfl,rfl⟩;go_wp2;go_ret;exact ⟨ret_b HV.out.symm,rfl⟩
    | false =>
     have HY:=hid (NX.out hb (fun h=>by rw [(memB_iff _ _).2 h] at hm;cases hm));have HCy:=hid (hm▸HC.out y);clear hb hm NX BD;go_wp2_with fail;refine HN.out.mono ?_;rintro e w' ⟨rfl,rfl⟩;go_wp2_with fail;refine HCy.out.mono ?_;rintro e w' ⟨rfl,rfl⟩;go_wp2
     go_round
     case rel=>exact ⟨k+1,by omega,by go_num,HY⟩
     case measure=>simp [RowKit.intOf];omega
  ·have HV:Hid (diffB l=true):=hid (by
    have h:=HD.out
    rwa [List.take_of_length_le (by omega)] at h)
   go_wp2;go_ret;exact ⟨ret_b HV.out.symm,rfl⟩
end Go.Proofs.YtcflojdkaddemaaGreatDoor

namespace Go.Proofs.YtcflojdkaddemaaGreatDoor
open Go.RowKit Go.Lib
set_option maxHeartbeats 400000 in
theorem i_nf (s:ByteArray) (b:Bool) (w:World) (hm:s.size≤maxLen):Calls Tryz.prog 193 #[.string s,.bool b] w fun e w'=>e=.returned (.bool (nfB b s))∧w=w':=by
 cases b
 ·by_cases h0:s.size=0
  ·obtain rfl:=empty_of s h0
   go_enter Tryz.func193,Tryz.ntmps193
   go_wp2;go_ret;exact ⟨ret_b rfl,rfl⟩
  ·have h:=empty_no s h0
   have HV:Hid (nfB false s=false):=hid (by unfold nfB;rw [if_neg (by decide),decide_eq_false h0]);clear h0
   go_enter Tryz.func193,Tryz.ntmps193
   go_wp2;go_ret;exact ⟨ret_b HV.out.symm,rfl⟩
 ·go_enter Tryz.func193,Tryz.ntmps193
  go_wp2_with fail;refine (i_name s _ hm).mono ?_;rintro e w' ⟨rfl,rfl⟩;go_wp2;go_ret;exact ⟨ret_b rfl,rfl⟩
set_option maxHeartbeats 400000 in
theorem i_af (a:Option Addr) (c:Nat) (l:List ByteArray) (b:Bool) (w:World) (hr:ReadS w a l) (hl:l.length≤2000000) (hc:l.length≤c) (hc2:c≤maxLen) (hz:∀ s ∈ l,s.size≤maxLen) :
  Calls Tryz.prog 194 #[.slice a l.length c,.bool b] w fun e w'=>e=.returned (.bool (afB b l))∧w=w':=by
 have S:=hid (i_diff a c l w hr hl hc hc2 hz);clear hr hz
 cases b
 ·have HV:Hid (afB false l=decide (l.length=0)):=hid rfl
  by_cases h0:l.length=0
  ·have HW:Hid (afB false l=true):=hid (by rw [HV.out,decide_eq_true h0])
   rw [h0];clear h0 S
   go_enter Tryz.func194,Tryz.ntmps194
   go_wp2;go_ret;exact ⟨ret_b HW.out.symm,rfl⟩
  ·have HW:Hid (afB false l=false):=hid (by rw [HV.out,decide_eq_false h0])
   have h1:((l.length:Int) == 0)=false:=beq_eq_false_iff_ne.2 (by omega);clear h0 S
   go_enter Tryz.func194,Tryz.ntmps194
   go_wp2;go_ret;exact ⟨ret_b HW.out.symm,rfl⟩
 ·have HV:Hid (afB true l=(decide (l.length≤4)&&diffB l)):=hid rfl
  by_cases h4:l.length≤4
  ·have HW:Hid (afB true l=diffB l):=hid (by rw [HV.out,decide_eq_true h4];rfl)
   have h1:decide ((l.length:Int)≤4)=true:=decide_eq_true (by omega);obtain ⟨r,hr⟩:∃ r,diffB l=r:=⟨_,rfl⟩;rw [hr] at S HW;clear hr
   go_enter Tryz.func194,Tryz.ntmps194
   go_wp2_with fail;refine S.out.mono ?_;rintro e w' ⟨rfl,rfl⟩;go_wp2;go_ret;exact ⟨ret_b HW.out.symm,rfl⟩
  ·have HW:Hid (afB true l=false):=hid (by rw [HV.out,decide_eq_false h4];rfl)
   have h1:decide ((l.length:Int)≤4)=false:=decide_eq_false (by omega);clear S
   go_enter Tryz.func194,Tryz.ntmps194
   go_wp2;go_ret;exact ⟨ret_b HW.out.symm,rfl⟩
set_option maxHeartbeats 400000 in
theorem i_ef (a:Option Addr) (c:Nat) (l:List TokL) (b:Bool) (w:World) (hr:ReadT w a l) (hl:l.length≤1048576) (hn:NamesI l) :
  Calls Tryz.prog 195 #[.slice a l.length c,.bool b] w fun e w'=>e=.returned (.bool (efB b l))∧Below w.heap.size w w':=by
 have S:=hid (i_exprok a c l w hl hr hn);clear hr hn
 cases b
 ·have HV:Hid (efB false l=decide (l.length=0)):=hid rfl
  by_cases h0:l.length=0
  ·have HW:Hid (efB false l=true):=hid (by rw [HV.out,decide_eq_true h0])
   rw [h0];clear h0 S
   go_enter Tryz.func195,Tryz.ntmps195
   go_wp2;go_ret;exact ⟨ret_b HW.out.symm,Below.refl _ _⟩
  ·have HW:Hid (efB false l=false):=hid (by rw [HV.out,decide_eq_false h0])
   have h1:((l.length:Int) == 0)=false:=beq_eq_false_iff_ne.2 (by omega);clear h0 S
   go_enter Tryz.func195,Tryz.ntmps195
   go_wp2;go_ret;exact ⟨ret_b HW.out.symm,Below.refl _ _⟩
 ·have HV:Hid (efB true l=exprB l):=hid rfl
  go_enter Tryz.func195,Tryz.ntmps195
  go_wp2_with fail;refine S.out.mono ?_;rintro e w' ⟨rfl,hb⟩;go_wp2;go_ret;exact ⟨ret_b HV.out.symm,hb⟩
def SzOk (p:PLine) (c:Nat):Prop:=p.args.length≤2000000∧p.args.length≤c∧c≤maxLen∧(∀ s ∈ p.args,s.size≤maxLen)∧p.name.size≤maxLen∧p.expr.length≤1048576∧NamesI p.expr
set_option maxRecDepth 100000 in
set_option maxHeartbeats 2000000 in
theorem i_lineok (p:PLine) (a b:Option Addr) (c d:Nat) (w:World) (hA:ReadS w a p.args) (hT:ReadT w b p.expr) (hs:SzOk p c) (hsh:Shapes w) :
  Calls Tryz.prog 161 #[.agg #[.int .i64 p.kind,.string p.name,.slice a p.args.length c,.slice b p.expr.length d]] w fun e w'=>e=.returned (.bool (lineB p))∧Below w.heap.size w w':=by
 by_cases hk0:p.kind<0
 ·have HV:=hid (lineB_out p (.inl hk0))
  obtain ⟨k,nm,gs,ex⟩:=p;dsimp only at hk0 HV ⊢;clear hA hT hs hsh
  go_enter Tryz.func161,Tryz.ntmps161
  go_wp2;go_ret;exact ⟨ret_b HV.out.symm,(Below.refl _ _).alloc (Nat.le_refl _) _⟩
 by_cases hk7:7<p.kind
 ·have HV:=hid (lineB_out p (.inr hk7))
  obtain ⟨k,nm,gs,ex⟩:=p;dsimp only at hk0 hk7 HV ⊢;clear hA hT hs hsh
  go_enter Tryz.func161,Tryz.ntmps161
  go_wp2;go_ret;exact ⟨ret_b HV.out.symm,(Below.refl _ _).alloc (Nat.le_refl _) _⟩
 obtain ⟨k,nm,gs,ex⟩:=p;obtain ⟨s1,s2,s3,s4,s5,s6,s7⟩:=hs;dsimp only at hA hT hk0 hk7 s1 s2 s4 s5 s6 s7 ⊢;obtain ⟨n,rfl⟩:=Int.eq_ofNat_of_zero_le (by omega:0≤k);have hn8:n<8:=by omega
 have HV:Hid (lineB ⟨(n:Int),nm,gs,ex⟩=(nfB (namedB (n:Int)) nm&&(afB (decide ((n:Int)=0)) gs&&efB (exprK (n:Int)) ex))):=hid (by
  unfold lineB;dsimp only;rw [decide_eq_true (by omega:(0:Int)≤(n:Int)),decide_eq_true (by omega:(n:Int)≤7)];rfl)
 obtain ⟨e0,e1,e2,e3⟩:=hsh.at n hn8;obtain ⟨wd,hwd⟩:∃ x,wordZ (n:Int)=x:=⟨_,rfl⟩;obtain ⟨nb,hnb⟩:∃ x,namedB (n:Int)=x:=⟨_,rfl⟩;obtain ⟨ab,hab⟩:∃ x,decide ((n:Int)=0)=x:=⟨_,rfl⟩;obtain ⟨eb,heb⟩:∃ x,exprK (n:Int)=x:=⟨_,rfl⟩;rw [hwd] at e0;rw [hnb] at e1 HV;rw [hab] at e2 HV;rw [heb] at e3 HV;have S1:=hid (fun W=>i_nf nm nb W s5);have S2:=hid (fun W h=>i_af a c gs ab W h s1 s2 s3 s4);have S3:=hid (fun W h=>i_ef b d ex eb W h s6 s7);obtain ⟨r1,hr1⟩:∃ x,nfB nb nm=x:=⟨_,rfl⟩;obtain ⟨r2,hr2⟩:∃ x,afB ab gs=x:=⟨_,rfl⟩;obtain ⟨r3,hr3⟩:∃ x,efB eb ex=x:=⟨_,rfl⟩;rw [hr1] at S1 HV;rw [hr2] at S2 HV;rw [hr3] at S3 HV;have HA:=hid hA;have HT:=hid hT;have k0:(0:Int)≤(n:Int):=by omega
 have k1:(n:Int)<8:=by omega
 have hd1:decide ((n:Int)<0)=false:=decide_eq_false (by omega);have hd2:decide (7<(n:Int))=false:=decide_eq_false (by omega);have gl:0<w.heap.size:=World.block_lt_of_cell? w _ e0;have T:=hid (two_new w (.cells #[.int .i64 (n:Int),.string nm,.slice a gs.length c,.slice b ex.length d] 87) (.cells #[.string wd,.bool nb,.bool ab,.bool eb] 224));clear hA hT hsh hwd hnb hab heb hr1 hr2 hr3 s1 s2 s3 s4 s5 s6 s7 hk0 hk7
 go_enter Tryz.func161,Tryz.ntmps161
 go_wp2_with fail;refine (S1.out _).mono ?_;rintro e w' ⟨rfl,rfl⟩
 cases r1
 ·go_wp2
  go_ret;exact ⟨ret_b HV.out.symm,T.out.2.2.2⟩
 go_wp2_with fail;refine (S2.out _ (HA.out.below T.out.2.2.2)).mono ?_;rintro e w' ⟨rfl,rfl⟩
 cases r2
 ·go_wp2
  go_ret;exact ⟨ret_b HV.out.symm,T.out.2.2.2⟩
 go_wp2_with fail;refine (S3.out _ (HT.out.below T.out.2.2.2)).mono ?_;rintro e w1 ⟨rfl,b1⟩;have HB:Hid (Below w.heap.size w w1):=hid (T.out.2.2.2.trans (b1.mono (by rw [T.out.2.2.1];omega)));clear b1;go_wp2;go_ret;exact ⟨ret_b (by rw [HV.out];rfl),HB.out⟩
end Go.Proofs.YtcflojdkaddemaaGreatDoor
