/- Parts of the proof. -/
import Derived.Test.YtcflojdkaddemaaGreatDoorI26
namespace Go.Proofs.YtcflojdkaddemaaGreatDoor
open Go.RowKit Go.Lib Go.Maps
theorem passes {p:List PLine} (ho:OkI p) {g:Nat} (hg:g ∈ funs p) (fr:Bool) {inl:Nat} (hi:inl≤3):∃ n0 z0 n1 z1,cmiF (compE p fr inl 0 g) n0 (.lines [topSc p g] (g+1) 0) (topJ (compE p fr inl 0 g) g)=some z0 ∧
  cmiF (compE p fr inl (z0.2.used:Int) g) n1 (.lines [topSc p g] (g+1) (z0.2.used:Int)) (topJ (compE p fr inl (z0.2.used:Int) g) g)=some z1∧z0.2.items.length≤3000∧z1.2.items.length≤3000∧z0.2.used≤1000∧CompTo p fr inl g z1.2.items:=by
 obtain ⟨s0,h0⟩:=top_total (compE p fr inl 0 g) g;obtain ⟨n0,t0,a0,b0,c0⟩:=top_same (E:=compE p fr inl 0 g) ho hg h0;obtain ⟨s1,h1⟩:=top_total (compE p fr inl (s0.most:Int) g) g;obtain ⟨n1,t1,a1,b1,c1⟩:=top_same (E:=compE p fr inl (s0.most:Int) g) ho hg h1;have hu:=((cmi_bound (E:=compE p fr inl 0 g) ho.1.1 ho.1.2) n0).2.2 _ _ _ _ _ ⟨Nat.le_refl _,by simp,by
  show (locZ p (g:Int)).length - _≤64*1
  have:=loc_len64 ho.1.1 ho.1.2 (g:Int)
  omega⟩ a0
 have hu2:t0.used≤max ((locZ p (g:Int)).length - (argsZ p (g:Int)).length) (64*(inl+1)):=hu.2;have h64:=loc_len64 ho.1.1 ho.1.2 (g:Int);refine ⟨n0,(0,t0),n1,(0,t1),a0,by rw [c0];exact a1,top_len (E:=compE p fr inl 0 g) ho hi hg a0,top_len (E:=compE p fr inl (s0.most:Int) g) ho hi hg a1,by show t0.used≤1000;omega,s0,s1,h0,h1,b1⟩
def CompR (L:List ItL) (w:World) (e:Ending) (w':World):Prop :=
 ∃ v X,e=.returned v∧Hid (w'.ownsRow w.heap.size 40 7 v X.length (itV X))∧X.map (·.it)=L∧Hid (MadeI 3 w.heap.size w' (chL X))∧Hid (Below w.heap.size w w')
theorem own_cap8 {B T s n c:Nat} {w:World} {a:Option Addr} {xs:List Value} (h:w.ownsRow B T s (.slice a n c) n xs):n≤c:=by
 rcases h.2 with ⟨e,h0⟩|⟨g,cap,cur,e,_,_,hnc,_⟩
 ·omega
 ·injection e with e1 e2 e3
  omega
theorem args4 {PX:List LnL} (ho:OkI (plL PX)):∀ x ∈ PX,x.args.length≤1048576:=fun x hx=>by
 have hm:x.p ∈ plL PX:=List.mem_map.2 ⟨x,hx,rfl⟩;have h:=((lineB_iff _).1 (ho.1.2 _ hm)).2.2.1;have h2:x.args.length≤4:=(af_small _ _ h).1;omega
theorem two_pass {inl:Nat} (hR:IReplAll inl) (pa:Option Addr) (pc:Nat) (PX:List LnL) (ho:OkI (plL PX)) (hcap:PX.length≤pc) (wB:World) (hr:ReadL 9 147 wB pa PX) (fi:Nat) (hfi:fi<(funs (plL PX)).length) (g:Nat) (hg:(funs (plL PX))[fi]=g) (fm:Int) (hfm:0≤fm∧fm≤63) (hinl:inl≤3) (fo sp:Bool) (L:List ItL) (hL:CompTo (plL PX) (frB fm fi) inl g L) :
  ∃ (E0 E1:CmpE) (t0 t1:CiS),t0.used≤1000∧t1.items=L∧t1.items.length≤3000 ∧
   (∀ W,Below wB.heap.size wB W→Calls Tryz.prog 84 #[.slice pa PX.length pc,.int .i64 (fi:Int),.agg #[.int .i64 fm,.int .i64 (inl:Int),.bool fo,.bool sp],.int .i64 0] W (PassR E0 t0 W)) ∧
   (∀ W,Below wB.heap.size wB W→Calls Tryz.prog 84 #[.slice pa PX.length pc,.int .i64 (fi:Int),.agg #[.int .i64 fm,.int .i64 (inl:Int),.bool fo,.bool sp],.int .i64 (t0.used:Int)] W (PassR E1 t1 W)):=by
 have hgm:g ∈ funs (plL PX):=by rw [← hg];exact List.getElem_mem hfi
 obtain ⟨n0,z0,n1,z1,a0,a1,l0,l1,hu,hc⟩:=passes ho hgm (frB fm fi) hinl;refine ⟨compE (plL PX) (frB fm fi) inl 0 g,compE (plL PX) (frB fm fi) inl (z0.2.used:Int) g,z0.2,z1.2,hu,hc.one hL,l1,fun W hW=>?_,fun W hW=>?_⟩
 ·exact i_pass pa pc PX ho hcap fi hfi fm 0 inl fo sp hfm hinl ⟨by omega,by omega⟩ W (hr.below hW) (args4 ho) g hg n0 (i_bodies hR n0) _ rfl z0 a0 (by omega)
 ·exact i_pass pa pc PX ho hcap fi hfi fm (z0.2.used:Int) inl fo sp hfm hinl ⟨by omega,by omega⟩ W (hr.below hW) (args4 ho) g hg n1 (i_bodies hR n1) _ rfl z1 a1 (by omega)
set_option maxRecDepth 100000 in
set_option maxHeartbeats 4000000 in
theorem i_compile {inl:Nat} (hR:IReplAll inl) (pa:Option Addr) (pc:Nat) (PX:List LnL) (hl:PX.length≤1048576) (hcap:PX.length≤pc) (w:World) (hr:ReadL 9 147 w pa PX) (hz:SzAl PX) (hsh:Shapes w) (ho:OkI (plL PX)) (fi:Nat) (hfi:fi<(funs (plL PX)).length) (g:Nat) (hg:(funs (plL PX))[fi]=g) (fm:Int) (hfm:0≤fm∧fm≤63) (hinl:inl≤3) (fo sp:Bool) (L:List ItL) (hL:CompTo (if fo=true then foldP (plL PX) else plL PX) (frB fm fi) inl g L) :
  Calls Tryz.prog 30 #[.slice pa PX.length pc,.int .i64 (fi:Int),.agg #[.int .i64 fm,.int .i64 (inl:Int),.bool fo,.bool sp]] w (CompR L w):=by
 have hbb:bldB fm (inl:Int)=true:=by unfold bldB;simp;omega
 have HBX:Hid (Below w.heap.size w (w.alloc (.cells #[.int .i64 fm,.int .i64 (inl:Int),.bool fo,.bool sp] 26))):=hid ((Below.refl _ _).alloc (Nat.le_refl _) _);have HR:=hid hr;have HSH:=hid hsh;have POK:=hid (fun W (hb:Below w.heap.size w W)=>i_progOkB pa pc PX W hl hcap (HR.out.below hb) hz (HSH.out.on hb));rw [(pokB_iff _).2 ho] at POK;have BOK:=hid (fun W=>i_buildOk fm (inl:Int) fo sp W);rw [hbb] at BOK;have FLN:=hid (fun W (hb:Below w.heap.size w W)=>i_funLines pa pc PX W hl (HR.out.below hb));have FOL:=hid (fun W (hb:Below w.heap.size w W)=>i_foldProgram pa pc PX W hl hcap (HR.out.below hb) hz (HSH.out.on hb));rw [(pokB_iff _).2 ho,if_pos rfl] at FOL;have hfl:(funI (plL PX)).length=(funs (plL PX)).length:=funI_length (plL PX);have fi0:(0:Int)≤(fi:Int):=by omega
 have fi1:(fi:Int)<((funI (plL PX)).length:Int):=by omega
 have fi2:¬ ((funI (plL PX)).length:Int)≤(fi:Int):=by omega
 have fi3:¬ (fi:Int)<0:=by omega
 have XC:Hid (∀ W,Below (w.heap.size+1) (w.alloc (.cells #[.int .i64 fm,.int .i64 (inl:Int),.bool fo,.bool sp] 26)) W→W.cell? ⟨w.heap.size,0,none⟩=some (.int .i64 fm)∧W.cell? ⟨w.heap.size,1,none⟩=some (.int .i64 (inl:Int))∧W.cell? ⟨w.heap.size,2,none⟩=some (.bool fo)∧W.cell? ⟨w.heap.size,3,none⟩=some (.bool sp)):=hid (fun W hb=>by
  have h:=blk ((hb.block w.heap.size (by omega)).trans (heap_alloc_new w _));exact ⟨h.1 0 _ rfl,h.1 1 _ rfl,h.1 2 _ rfl,h.1 3 _ rfl⟩)
 have hxs:(w.alloc (.cells #[.int .i64 fm,.int .i64 (inl:Int),.bool fo,.bool sp] 26)).heap.size=w.heap.size+1:=by simp
 cases fo
 ·have HLL:=hid hL
  rw [if_neg (by decide)] at HLL;clear hr hsh hz hL hbb
  go_enter Tryz.func30,Tryz.ntmps30
  go_wp2_with fail;refine (POK.out _ HBX.out).mono ?_;rintro e w1 ⟨rfl,b1⟩;rw [hxs] at b1;have B1:=hid b1;obtain ⟨x0,x1,x2,x3⟩:=XC.out w1 B1.out;clear b1;go_wp2_with fail;refine (BOK.out w1).mono ?_;rintro e w2 ⟨rfl,b2⟩;have B2:=hid (B1.out.trans (b2.mono (by have:=B1.out.size;simp at this;omega)));clear b2 x0 x1 x2 x3;go_wp2_with fail;refine (FLN.out w2 (HBX.out.trans (B2.out.mono (by omega)))).mono ?_;rintro e w3 ⟨v3,rfl,hown3,b3⟩;have B3:=hid (B2.out.trans (b3.mono (by have:=B2.out.size;simp at this;omega)));obtain ⟨a3,c3,rfl⟩:=own_sh hown3;obtain ⟨x0,x1,x2,x3⟩:=XC.out w3 B3.out;clear b3 hown3;go_wp2_with fail;obtain ⟨E0,E1,t0,t1,hu,hit,hln,P0,P1⟩:=two_pass hR pa pc PX ho hcap w3 (HR.out.below (HBX.out.trans (B3.out.mono (by omega)))) fi hfi g hg fm hfm hinl false sp L HLL.out;refine (P0 w3 (Below.refl _ _)).mono ?_;rintro e w5 ⟨B5,cb5,pv5,fv5,iv5,X5,rfl,HC5,hB5,HB5⟩;have c56:w5.cell? ⟨cb5,6,none⟩=some (.int .i64 (t0.used:Int)):=(blk HC5.out.row).1 6 _ rfl;have D5:=hid (B3.out.trans (HB5.out.mono (by have:=B3.out.size;simp at this;omega)));clear x0 x1 x2 x3;obtain ⟨x0,x1,x2,x3⟩:=XC.out w5 D5.out;go_wp2_with fail;refine (P1 w5 HB5.out).mono ?_;rintro e w6 ⟨B6,cb6,pv6,fv6,iv6,X6,rfl,HC6,hB6,HB6⟩;have c68:w6.cell? ⟨cb6,8,none⟩=some iv6:=(blk HC6.out.row).1 8 _ rfl;have D6:=hid (D5.out.trans (HB6.out.mono (by have:=D5.out.size;simp at this;omega)));obtain ⟨va6,vc6,rfl⟩:=own_sh HC6.out.its;go_wp2_with fail;go_ret;have hBw:w.heap.size≤B6:=by have:=D5.out.size;simp at this;omega
  exact ⟨_,X6,rfl,hid (owns_lo HC6.out.its hBw),HC6.out.items.trans hit,hid ⟨fun z hz=>owns_lo (HC6.out.chn.1 z hz) hBw,HC6.out.chn.2⟩,hid (HBX.out.trans (D6.out.mono (by omega)))⟩
 ·have HLL:=hid hL
  rw [if_pos rfl] at HLL;clear hr hsh hz hL hbb
  go_enter Tryz.func30,Tryz.ntmps30
  go_wp2_with fail;refine (POK.out _ HBX.out).mono ?_;rintro e w1 ⟨rfl,b1⟩;rw [hxs] at b1;have B1:=hid b1;obtain ⟨x0,x1,x2,x3⟩:=XC.out w1 B1.out;clear b1;go_wp2_with fail;refine (BOK.out w1).mono ?_;rintro e w2 ⟨rfl,b2⟩;have B2:=hid (B1.out.trans (b2.mono (by have:=B1.out.size;simp at this;omega)));clear b2 x0 x1 x2 x3;go_wp2_with fail;refine (FLN.out w2 (HBX.out.trans (B2.out.mono (by omega)))).mono ?_;rintro e w3 ⟨v3,rfl,hown3,b3⟩;have B3:=hid (B2.out.trans (b3.mono (by have:=B2.out.size;simp at this;omega)));obtain ⟨a3,c3,rfl⟩:=own_sh hown3;obtain ⟨x0,x1,x2,x3⟩:=XC.out w3 B3.out;clear b3 hown3;go_wp2_with fail;refine (FOL.out w3 (HBX.out.trans (B3.out.mono (by omega)))).mono ?_;rintro e w4 ⟨v4,X1,rfl,hown4,hmade4,hpl4,b4⟩;have B4:=hid (B3.out.trans (b4.mono (by have:=B3.out.size;simp at this;omega)));obtain ⟨a4,c4,rfl⟩:=own_sh hown4;have hrd4:=readL_of hown4 hmade4.all;have hcp4:X1.length≤c4:=own_cap8 hown4;clear b4;have hfu:funs (plL X1)=funs (plL PX):=by rw [hpl4,funs_fold]
  obtain ⟨E0,E1,t0,t1,hu,hit,hln,P0,P1⟩:=two_pass hR a4 c4 X1 (by rw [hpl4];exact ok_fold ho) hcp4 w4 hrd4 fi (by rw [hfu];exact hfi) g (by simp only [hfu];exact hg) fm hfm hinl true sp L (by rw [hpl4];exact HLL.out);clear x0 x1 x2 x3 hfu hpl4 hmade4 hown4;obtain ⟨x0,x1,x2,x3⟩:=XC.out w4 B4.out;go_wp2_with fail;refine (P0 w4 (Below.refl _ _)).mono ?_;rintro e w5 ⟨B5,cb5,pv5,fv5,iv5,X5,rfl,HC5,hB5,HB5⟩;have c56:w5.cell? ⟨cb5,6,none⟩=some (.int .i64 (t0.used:Int)):=(blk HC5.out.row).1 6 _ rfl;have D5:=hid (B4.out.trans (HB5.out.mono (by have:=B4.out.size;simp at this;omega)));clear x0 x1 x2 x3;obtain ⟨x0,x1,x2,x3⟩:=XC.out w5 D5.out;go_wp2_with fail;refine (P1 w5 HB5.out).mono ?_;rintro e w6 ⟨B6,cb6,pv6,fv6,iv6,X6,rfl,HC6,hB6,HB6⟩;have c68:w6.cell? ⟨cb6,8,none⟩=some iv6:=(blk HC6.out.row).1 8 _ rfl;have D6:=hid (D5.out.trans (HB6.out.mono (by have:=D5.out.size;simp at this;omega)));obtain ⟨va6,vc6,rfl⟩:=own_sh HC6.out.its;go_wp2_with fail;go_ret;have hBw:w.heap.size≤B6:=by have:=D5.out.size;simp at this;omega
  exact ⟨_,X6,rfl,hid (owns_lo HC6.out.its hBw),HC6.out.items.trans hit,hid ⟨fun z hz=>owns_lo (HC6.out.chn.1 z hz) hBw,HC6.out.chn.2⟩,hid (HBX.out.trans (D6.out.mono (by omega)))⟩
end Go.Proofs.YtcflojdkaddemaaGreatDoor

namespace Go.Proofs.YtcflojdkaddemaaGreatDoor
open Go.RowKit Go.Lib
theorem comp_len {p:List PLine} (ho:OkI p) {g:Nat} (hg:g ∈ funs p) {fr:Bool} {inl:Nat} (hi:inl≤3) {L:List ItL} (h:CompTo p fr inl g L):L.length≤3000:=by
 obtain ⟨n0,z0,n1,z1,_,_,_,l1,_,hc⟩:=passes ho hg fr hi;rw [h.one hc];exact l1
end Go.Proofs.YtcflojdkaddemaaGreatDoor

namespace Go.Proofs.YtcflojdkaddemaaGreatDoor
open Go.RowKit Go.Lib
def sizX (x:ItL):Nat:=1+widN x.code
def offN (o:Nat) (L:List ItL) (k:Nat):Nat:=o+((L.take k).map sizX).sum
theorem sizX_le (x:ItL):1≤sizX x∧sizX x≤5:=by have:=widN_le x.code;unfold sizX;omega
theorem offN_zero (o:Nat) (L:List ItL):offN o L 0=o:=by simp [offN]
theorem offN_succ (o:Nat) (L:List ItL) (k:Nat) (h:k<L.length):offN o L (k+1)=offN o L k+sizX L[k]:=by
  unfold offN;rw [List.take_succ_eq_append_getElem h,List.map_append,List.sum_append]
  simp
  omega
theorem offN_le (o:Nat) (L:List ItL):∀ k,k≤L.length→o+k≤offN o L k∧offN o L k≤o+5*k:=by
  intro k
  induction k with
  | zero=>intro _;rw [offN_zero];omega
  | succ k ih =>
    intro h;rw [offN_succ o L k (by omega)]
    have:=sizX_le L[k]
    have:=ih (by omega)
    omega
theorem offN_mono (o:Nat) (L:List ItL) (i:Nat):∀ k,i≤k→k≤L.length→offN o L i+(k - i)≤offN o L k:=by
  intro k
  induction k with
  | zero => intro h _; obtain rfl : i = 0 := by omega
            simp
  | succ k ih =>
    intro h1 h2
    by_cases e:i=k+1
    · subst e;simp
    · rw [offN_succ o L k (by omega)]
      have:=sizX_le L[k]
      have:=ih (by omega) (by omega)
      omega
def plA (o:Nat) (L:List ItL) (k:Nat) (x:ItL):Int:=if x.code=10∨x.code=11 then (offN o L x.arg.toNat:Int) - (offN o L (k+1):Int) else x.arg
def plO (o:Nat) (L:List ItL) (k:Nat) (x:ItL):OpL:=⟨x.code,plA o L k x⟩
def bytF (o:Nat) (L:List ItL) (k:Nat):List ItL→List UInt8
  | []=>[]
  | x :: r=>opBytes (plO o L k x)++bytF o L (k+1) r
structure FnIt (p:List PLine) (g:Nat) (L:List ItL):Prop where
  op:∀ x ∈ L,OpA x
  ju:∀ x ∈ L,x.code=10∨x.code=11→0≤x.arg∧x.arg<(L.length:Int)
  n3:3≤L.length
  nn:L.length≤3000
  ln:∀ x ∈ L,x.line<p.length
  no:∀ x ∈ L.drop 1,lkZ p (x.line:Int)≠0
  hd:∃ x,L[0]?=some x∧x.line=g
  h0:∀ x,L[0]?=some x→x.code=13∨x.code=15
theorem fn_it {p:List PLine} (ho:OkI p) {g:Nat} (hg:g ∈ funs p) {fr:Bool} {inl:Nat} (hi:inl≤3) {L:List ItL} (h:CompTo p fr inl g L):FnIt p g L:=by
  obtain ⟨hfl,hfk0,hfe,hel,_⟩:=fun_parts ho hg;obtain ⟨h1,_,⟨y,yr,hy,hy2,_⟩,h4⟩:=comp_items h (by omega);obtain ⟨o1,o2,o3⟩:=comp_ops ho hg hi h;exact ⟨o1,fun x hx=>(h1 x hx).1,h4,comp_len ho hg hi h,fun x hx=>(h1 x hx).2.2,o2,o3,fun x hx=>by rw [hy] at hx;rw [← Option.some.inj hx];exact hy2⟩
theorem pl_ins {p:List PLine} {g:Nat} {L:List ItL} (h:FnIt p g L) (o k:Nat) (hk:k<L.length):insB (plO o L k L[k])=true:=by
  have hx:=List.getElem_mem hk;unfold plO plA
  by_cases hj:L[k].code=10∨L[k].code=11
  · rw [if_pos hj]
    have ha:=h.ju _ hx hj;have hn:=h.nn;have b1:=offN_le o L L[k].arg.toNat (by omega);have b2:=offN_le o L (k+1) (by omega);have lo:loZ L[k].code=-32768:=by rcases hj with e|e <;> rw [e] <;> decide
    have hi:hiZ L[k].code=32767:=by rcases hj with e|e <;> rw [e] <;> decide
    have cb:codeB L[k].code=true:=by rcases hj with e|e <;> rw [e] <;> decide
    exact insB_of cb lo hi (by omega) (by omega)
  · rw [if_neg hj]
    rcases h.op _ hx with e|e
    · exact absurd e hj
    · exact e
theorem bytF_len (o:Nat) (L:List ItL):∀ (r:List ItL) (k:Nat),(bytF o L k r).length=(r.map sizX).sum:=by
  intro r
  induction r with
  | nil=>intro k;rfl
  | cons x r ih =>
    intro k;rw [bytF,List.length_append,opBytes_length,ih,List.map_cons,List.sum_cons];rfl
def codF (o:Nat) (L:List ItL):List UInt8:=bytF o L 0 L
theorem codF_len (o:Nat) (L:List ItL):o+(codF o L).length=offN o L L.length:=by
  unfold codF offN;rw [bytF_len,List.take_length]
theorem codF_at (o:Nat) (L:List ItL) (k:Nat) (hk:k<L.length):∃ a b,codF o L=a++(opBytes (plO o L k L[k])++b)∧o+a.length=offN o L k:=by
  have key:∀ (r:List ItL) (q:Nat),L.drop q=r→q≤k→∃ a b,bytF o L q r=a++(opBytes (plO o L k L[k])++b)∧offN o L q+a.length=offN o L k:=by
    intro r
    induction r with
    | nil =>
      intro q hq hqk
      have:=congrArg List.length hq
      rw [List.length_drop,List.length_nil] at this;omega
    | cons x r ih =>
      intro q hq hqk;have hql:q<L.length:=by
        have:=congrArg List.length hq
        rw [List.length_drop,List.length_cons] at this;omega
      rw [List.drop_eq_getElem_cons hql] at hq;injection hq with hx hr
      by_cases e:q=k
      · subst e
        refine ⟨[],bytF o L (q+1) r,?_,by simp⟩;rw [bytF,← hx,List.nil_append]
      · obtain ⟨a,b,h1,h2⟩:=ih (q+1) hr (by omega)
        refine ⟨opBytes (plO o L q x)++a,b,by rw [bytF,h1,List.append_assoc],?_⟩;rw [offN_succ o L q hql] at h2;rw [List.length_append,opBytes_length];have e2:sizX L[q]=1+widN (plO o L q x).code:=by rw [← hx];rfl
        omega
  obtain ⟨a,b,h1,h2⟩:=key L 0 rfl (Nat.zero_le _);rw [offN_zero] at h2;exact ⟨a,b,h1,h2⟩
theorem codF_dis {p:List PLine} {g:Nat} {L:List ItL} (h:FnIt p g L) (o:Nat):(disZ (codF o L)).isSome=true:=by
  have key:∀ (r:List ItL) (q:Nat),L.drop q=r→∃ M:List OpL,bytF o L q r=M.flatMap opBytes∧∀ x ∈ M,insB x=true:=by
    intro r
    induction r with
    | nil=>intro q _;exact ⟨[],rfl,fun x hx=>by cases hx⟩
    | cons x r ih =>
      intro q hq;have hql:q<L.length:=by
        have:=congrArg List.length hq
        rw [List.length_drop,List.length_cons] at this;omega
      rw [List.drop_eq_getElem_cons hql] at hq;injection hq with hx hr
      obtain ⟨M,h1,h2⟩:=ih (q+1) hr;refine ⟨plO o L q x :: M,by rw [bytF,h1,List.flatMap_cons],fun y hy=>?_⟩
      rcases List.mem_cons.1 hy with rfl|hy
      · rw [← hx];exact pl_ins h o q hql
      · exact h2 y hy
  obtain ⟨M,h1,h2⟩:=key L 0 rfl;unfold codF
  have:=disZ_enc M h2 []
  rw [List.append_nil] at this;rw [h1,this,disZ_nil];rfl
def plcF (o:Nat) (L:List ItL) (k:Nat):List ItL→List (Nat×ItL)
  | []=>[]
  | x :: r=>(offN o L k,{ x with arg:=plA o L k x }) :: plcF o L (k+1) r
theorem plcF_mem {o:Nat} {L:List ItL} {y:Nat×ItL}:∀ (r:List ItL) (q:Nat),L.drop q=r→y ∈ plcF o L q r→∃ k,∃ h:k<L.length,y=(offN o L k,{ L[k] with arg:=plA o L k L[k] }):=by
  intro r
  induction r with
  | nil=>intro q _ h;cases h
  | cons x r ih =>
    intro q hq h;have hql:q<L.length:=by
      have:=congrArg List.length hq
      rw [List.length_drop,List.length_cons] at this;omega
    rw [List.drop_eq_getElem_cons hql] at hq;injection hq with hx hr
    rw [plcF] at h
    rcases List.mem_cons.1 h with h|h
    · exact ⟨q,hql,by rw [h,hx]⟩
    · exact ih (q+1) hr h
theorem plcF_has {o:Nat} {L:List ItL} {k:Nat} (hk:k<L.length):∀ (r:List ItL) (q:Nat),L.drop q=r→q≤k→(offN o L k,{ L[k] with arg:=plA o L k L[k] }) ∈ plcF o L q r:=by
  intro r
  induction r with
  | nil =>
    intro q hq _
    have:=congrArg List.length hq
    rw [List.length_drop,List.length_nil] at this;omega
  | cons x r ih =>
    intro q hq hqk;have hql:q<L.length:=by omega
    rw [List.drop_eq_getElem_cons hql] at hq;injection hq with hx hr
    rw [plcF]
    by_cases e:q=k
    · subst e
      rw [← hx];exact List.mem_cons_self ..
    · exact List.mem_cons_of_mem _ (ih (q+1) hr (by omega))
def layC (o:Nat):List (Nat×List ItL)→List UInt8
  | []=>[]
  | f :: r=>codF o f.2++layC (o+(codF o f.2).length) r
def laySy (p:List PLine) (o:Nat):List (Nat×List ItL)→List SyL
  | []=>[]
  | f :: r=>⟨nameAt p f.1,(o:Int),((codF o f.2).length:Int)⟩ :: laySy p (o+(codF o f.2).length) r
def layP (o:Nat):List (Nat×List ItL)→List (Nat×ItL)
  | []=>[]
  | f :: r=>plcF o f.2 0 f.2++layP (o+(codF o f.2).length) r
def sameF (o:Nat):List (Nat×List ItL)→Nat→Nat→Prop
  | [],_,_=>False
  | f :: r,a,b=>((o≤a∧a<o+(codF o f.2).length)∧(o≤b∧b<o+(codF o f.2).length))∨(o+(codF o f.2).length≤a∧o+(codF o f.2).length≤b∧sameF (o+(codF o f.2).length) r a b)
theorem same_sym (p:List PLine):∀ (Fs:List (Nat×List ItL)) (o k a b:Nat),o+(layC o Fs).length≤1000000→sameF o Fs a b→symF (a:Int) k (laySy p o Fs)=symF (b:Int) k (laySy p o Fs):=by
  intro Fs
  induction Fs with
  | nil=>intro o k a b _ h;exact h.elim
  | cons f r ih =>
    intro o k a b hl h;rw [layC,List.length_append] at hl;rw [laySy,symF,symF];have sy:∀ c:Nat,syIn ⟨nameAt p f.1,(o:Int),((codF o f.2).length:Int)⟩ (c:Int)=(decide ((o:Int)≤(c:Int))&&decide ((c:Int)<(o:Int)+((codF o f.2).length:Int))):=fun c=>by
      unfold syIn;dsimp only;rw [decide_eq_true (show (0:Int)≤(o:Int) by omega),decide_eq_true (show (o:Int)≤1000000 by omega),decide_eq_true (show (0:Int)≤((codF o f.2).length:Int) by omega),decide_eq_true (show ((codF o f.2).length:Int)≤1000000 by omega)];rfl
    rw [sy,sy]
    rcases h with ⟨⟨a0,a1⟩,b0,b1⟩|⟨a0,b0,h⟩
    · rw [decide_eq_true (show (o:Int)≤(a:Int) by omega),decide_eq_true (show (a:Int)<(o:Int)+((codF o f.2).length:Int) by omega),decide_eq_true (show (o:Int)≤(b:Int) by omega),decide_eq_true (show (b:Int)<(o:Int)+((codF o f.2).length:Int) by omega)]
      rfl
    · rw [decide_eq_false (show ¬ (a:Int)<(o:Int)+((codF o f.2).length:Int) by omega),decide_eq_false (show ¬ (b:Int)<(o:Int)+((codF o f.2).length:Int) by omega),Bool.and_false,Bool.and_false,if_neg (by decide),if_neg (by decide)]
      exact ih _ _ _ _ (by omega) h
structure PlcOk (c:List UInt8) (Fs:List (Nat×List ItL)) (P:List (Nat×ItL)) (y:Nat×ItL):Prop where
  dec:decZ c (y.1:Int)=some (⟨y.2.code,y.2.arg⟩,1+widN y.2.code)
  ju:y.2.code=10∨y.2.code=11→∃ tt:Nat,(y.1:Int)+((1+widN y.2.code:Nat):Int)+y.2.arg=(tt:Int)∧(∃ it,(tt,it) ∈ P)∧sameF 0 Fs y.1 tt
theorem lay_ok {p:List PLine}:∀ (Fs:List (Nat×List ItL)) (o:Nat) (pre:List UInt8),pre.length=o→(∀ f ∈ Fs,FnIt p f.1 f.2)→∀ y ∈ layP o Fs,
    decZ (pre++layC o Fs) (y.1:Int)=some (⟨y.2.code,y.2.arg⟩,1+widN y.2.code) ∧
    (y.2.code=10∨y.2.code=11→∃ tt:Nat,(y.1:Int)+((1+widN y.2.code:Nat):Int)+y.2.arg=(tt:Int)∧(∃ it,(tt,it) ∈ layP o Fs)∧sameF o Fs y.1 tt)∧o≤y.1:=by
  intro Fs
  induction Fs with
  | nil=>intro o pre _ _ y h;cases h
  | cons f r ih =>
    intro o pre hp hf y hy;have hF:=hf f (List.mem_cons_self ..);rw [layP] at hy;rw [layC]
    rcases List.mem_append.1 hy with h|h
    · obtain ⟨k,hk,rfl⟩:=plcF_mem f.2 0 rfl h
      obtain ⟨a,b,hc,hab⟩:=codF_at o f.2 k hk;have hlen:=codF_len o f.2;have hok:=offN_le o f.2 k (by omega);have hmk:=offN_mono o f.2 k f.2.length (by omega) (Nat.le_refl _);refine ⟨?_,fun hj=>?_,by show o≤offN o f.2 k;omega⟩
      · have hd:=decZ_at (pre++a) (plO o f.2 k f.2[k]) (pl_ins hF o k hk) (b++layC (o+(codF o f.2).length) r)
        have e1:pre++(codF o f.2++layC (o+(codF o f.2).length) r)=pre++a++(opBytes (plO o f.2 k f.2[k])++(b++layC (o+(codF o f.2).length) r)):=by
          rw [hc];simp only [List.append_assoc]
        have e2:((pre++a).length:Int)=((offN o f.2 k:Nat):Int):=by rw [List.length_append,hp,hab]
        rw [e2] at hd
        show decZ (pre++(codF o f.2++layC (o+(codF o f.2).length) r)) ((offN o f.2 k:Nat):Int)=_
        generalize layC (o+(codF o f.2).length) r=tl at *;rw [e1];exact hd
      · have hj':f.2[k].code=10∨f.2[k].code=11:=hj
        have hja:=hF.ju _ (List.getElem_mem hk) hj';have ht:f.2[k].arg.toNat<f.2.length:=by omega
        have b1:=offN_le o f.2 f.2[k].arg.toNat (by omega);have b2:=offN_mono o f.2 f.2[k].arg.toNat f.2.length (by omega) (Nat.le_refl _);have hs:=offN_succ o f.2 k hk;refine ⟨offN o f.2 f.2[k].arg.toNat,?_,⟨_,by rw [layP];exact List.mem_append_left _ (plcF_has ht f.2 0 rfl (Nat.zero_le _))⟩,.inl ⟨⟨by show o≤offN o f.2 k;omega,by show offN o f.2 k<_;omega⟩,by omega,by omega⟩⟩
        show ((offN o f.2 k:Nat):Int)+((1+widN f.2[k].code:Nat):Int)+plA o f.2 k f.2[k]=_
        unfold plA;rw [if_pos hj'];unfold sizX at hs;omega
    · obtain ⟨d1,d2,d3⟩:=ih (o+(codF o f.2).length) (pre++codF o f.2) (by rw [List.length_append,hp]) (fun g hg=>hf g (List.mem_cons_of_mem _ hg)) y h
      rw [List.append_assoc] at d1;refine ⟨d1,fun hj=>?_,by omega⟩;obtain ⟨tt,t1,⟨it,t2⟩,t3⟩:=d2 hj;refine ⟨tt,t1,⟨it,by rw [layP];exact List.mem_append_right _ t2⟩,.inr ⟨d3,?_,t3⟩⟩;have key:∀ (Fs:List (Nat×List ItL)) (o a b:Nat),sameF o Fs a b→o≤b:=by
        intro Fs
        induction Fs with
        | nil=>intro o a b h;exact h.elim
        | cons f r ih =>
          intro o a b h
          rcases h with ⟨_,h,_⟩|⟨_,h,_⟩ <;> omega
      exact key _ _ _ _ t3
theorem plc_ok {p:List PLine} {Fs:List (Nat×List ItL)} (h:∀ f ∈ Fs,FnIt p f.1 f.2):∀ y ∈ layP 0 Fs,PlcOk (layC 0 Fs) Fs (layP 0 Fs) y:=fun y hy=>by
  obtain ⟨a,b,_⟩:=lay_ok Fs 0 [] rfl h y hy;exact ⟨a,b⟩
theorem lay_img {p:List PLine}:∀ (Fs:List (Nat×List ItL)) (o:Nat) (pre:List UInt8) (seen:List ByteArray),pre.length=o→(∀ f ∈ Fs,FnIt p f.1 f.2∧nameB (nameAt p f.1)=true)→(Fs.map fun f=>nameAt p f.1).Nodup→(∀ f ∈ Fs,nameAt p f.1 ∉ seen)→imgF (pre++layC o Fs) seen o (laySy p o Fs)=true:=by
  intro Fs
  induction Fs with
  | nil =>
    intro o pre seen hp _ _ _;rw [laySy,imgF,layC,List.append_nil,hp];exact decide_eq_true rfl
  | cons f r ih =>
    intro o pre seen hp hf hn hs;obtain ⟨hF,hN⟩:=hf f (List.mem_cons_self ..);rw [List.map_cons,List.nodup_cons] at hn;have hlen:=codF_len o f.2;have h3:=(offN_le o f.2 f.2.length (Nat.le_refl _)).1;have hn3:=hF.n3;have hdis:=codF_dis hF o;have hnx:=ih (o+(codF o f.2).length) (pre++codF o f.2) (nameAt p f.1 :: seen) (by rw [List.length_append,hp]) (fun g hg=>hf g (List.mem_cons_of_mem _ hg)) hn.2 (fun g hg=>by
      intro hm
      rcases List.mem_cons.1 hm with e|hm
      · exact hn.1 (List.mem_map.2 ⟨g,hg,e⟩)
      · exact hs g (List.mem_cons_of_mem _ hg) hm)
    have hany:(seen.any fun n=>decide (n=nameAt p f.1))=false:=by
      rw [List.any_eq_false];intro n hm e;have e':n=nameAt p f.1:=of_decide_eq_true e;exact hs f (List.mem_cons_self ..) (e'▸hm)
    rw [layC,laySy,imgF];dsimp only;rw [List.append_assoc] at hnx;generalize layC (o+(codF o f.2).length) r=tl at *;rw [List.drop_append_of_le_length (by omega),show pre.drop o=[] from List.drop_eq_nil_of_le (by omega),List.nil_append,Int.toNat_natCast,List.take_append_of_le_length (Nat.le_refl _),List.take_length,hdis,hany,hN,hnx,decide_eq_true (rfl:(o:Int)=(o:Int)),decide_eq_true (show (1:Int)≤((codF o f.2).length:Int) by omega),decide_eq_true (show ((codF o f.2).length:Int)≤((pre++(codF o f.2++tl)).length:Int) - (o:Int) by rw [List.length_append,List.length_append];omega)];rfl
end Go.Proofs.YtcflojdkaddemaaGreatDoor

namespace Go.Proofs.YtcflojdkaddemaaGreatDoor
open Go.RowKit Go.Lib
theorem ret_b7 {a b:Bool} (h:a=b):Ending.returned (.bool a)=.returned (.bool b):=by rw [h]
theorem ret_i7 {k:IntKind} {a b:Int} (h:a=b):Ending.returned (.int k a)=.returned (.int k b):=by rw [h]
theorem code_cases (c:Int):c=0∨c=1∨c=2∨c=3∨c=4∨c=10∨c=11∨c=16∨c=12∨c=13∨c=14∨c=15 ∨
  ((c == 0)=false∧(c == 1)=false∧(c == 2)=false∧(c == 3)=false∧(c == 4)=false∧(c == 10)=false∧(c == 11)=false∧(c == 16)=false∧(c == 12)=false∧(c == 13)=false∧(c == 14)=false∧(c == 15)=false):=by
 simp only [beq_eq_false_iff_ne];omega
theorem widN_none (c:Int) (h:(c == 0)=false∧(c == 1)=false∧(c == 2)=false∧(c == 3)=false∧(c == 4)=false∧(c == 10)=false∧(c == 11)=false∧(c == 16)=false∧(c == 12)=false∧(c == 13)=false∧(c == 14)=false∧(c == 15)=false):widN c=0∧sgnB c=false:=by
 simp only [beq_eq_false_iff_ne] at h;unfold widN sgnB;rw [if_neg (by omega),if_neg (by omega),if_neg (by omega)];refine ⟨rfl,?_⟩;simp only [Bool.or_eq_false_iff,Bool.and_eq_false_iff,decide_eq_false_iff_not];omega
theorem s_wid (c:Int) (w:World):Calls Tryz.prog 63 #[.int .i64 c] w fun e w'=>e=.returned (.tuple #[.int .i64 (widN c:Int),.bool (sgnB c)])∧w=w':=by
 rcases code_cases c with rfl|rfl|rfl|rfl|rfl|rfl|rfl|rfl|rfl|rfl|rfl|rfl|h
 case inr.inr.inr.inr.inr.inr.inr.inr.inr.inr.inr.inr =>
  have HW:=hid (widN_none c h);obtain ⟨h0,h1,h2,h3,h4,h5,h6,h7,h8,h9,h10,h11⟩:=h
  go_enter Tryz.func63,Tryz.ntmps63
  go_wp2;go_ret2;exact ⟨by rw [HW.out.1,HW.out.2];rfl,rfl⟩
 all_goals
  go_enter Tryz.func63,Tryz.ntmps63
  go_wp2;go_ret2;exact ⟨rfl,rfl⟩
theorem s_in7 (x lo hi:Int) (w:World):Calls Tryz.prog 92 #[.int .i64 x,.int .i64 lo,.int .i64 hi] w fun e w'=>e=.returned (.bool (decide (lo≤x)&&decide (x≤hi)))∧w=w':=by
 by_cases h1:lo≤x <;> by_cases h2:x≤hi
 all_goals
  go_enter Tryz.func92,Tryz.ntmps92
  go_wp2;go_ret;exact ⟨ret_b7 (by simp [h1,h2]),rfl⟩
theorem s_code (c:Int) (w:World):Calls Tryz.prog 92 #[.int .i64 c,.int .i64 0,.int .i64 17] w fun e w'=>e=.returned (.bool (codeB c))∧w=w':=s_in7 c 0 17 w
theorem s_size (c:Int) (w:World):Calls Tryz.prog 64 #[.int .i64 c] w fun e w'=>e=.returned (.int .i64 (sizZ c))∧w=w':=by
 have hw:=widN_le c;obtain ⟨m,hm⟩:∃ m:Nat,widN c=m:=⟨_,rfl⟩;have S:=hid (fun W=>s_wid c W);rw [hm] at S hw;have C:=hid (fun W=>s_code c W);have HR:Hid (sizZ c=if codeB c=true then 1+(m:Int) else 0):=hid (by unfold sizZ;rw [hm]);clear hm;obtain ⟨b,hb⟩:∃ b,codeB c=b:=⟨_,rfl⟩;rw [hb] at C HR;clear hb
 cases b
 all_goals
  go_enter Tryz.func64,Tryz.ntmps64
  go_wp2_with (first|(go_at_call 92;refine (C.out _).mono ?_;rintro e w' ⟨rfl,rfl⟩)|(go_at_call 63;refine (S.out _).mono ?_;rintro e w' ⟨rfl,rfl⟩))
  go_ret;exact ⟨ret_i7 HR.out.symm,rfl⟩
theorem insB_eq (c a:Int):insB ⟨c,a⟩=(codeB c&&(decide (loZ c≤a)&&decide (a≤hiZ c))):=rfl
theorem fit_cases (c:Int):(widN c=0∧sgnB c=false∧loZ c=0∧hiZ c=0)∨(widN c=1∧sgnB c=false∧loZ c=0∧hiZ c=255)∨(widN c=2∧sgnB c=false∧loZ c=0∧hiZ c=65535) ∨
  (widN c=2∧sgnB c=true∧loZ c=-32768∧hiZ c=32767)∨(widN c=4∧sgnB c=true∧loZ c=-2147483648∧hiZ c=2147483647):=by
 rcases code_cases c with rfl|rfl|rfl|rfl|rfl|rfl|rfl|rfl|rfl|rfl|rfl|rfl|h
 case inr.inr.inr.inr.inr.inr.inr.inr.inr.inr.inr.inr =>
  have HW:=widN_none c h;refine .inl ⟨HW.1,HW.2,?_,?_⟩
  ·unfold loZ;rw [HW.2];rfl
  ·unfold hiZ;rw [HW.1,HW.2];rfl
 all_goals decide
end Go.Proofs.YtcflojdkaddemaaGreatDoor

namespace Go.Proofs.YtcflojdkaddemaaGreatDoor
open Go.RowKit Go.Lib
theorem i_code (c:Int) (w:World):Calls Tryz.prog 157 #[.int .i64 c] w fun e w'=>e=.returned (.bool (codeB c))∧w=w':=by
 by_cases h1:0≤c <;> by_cases h2:c≤17
 all_goals
  go_enter Tryz.func157,Tryz.ntmps157
  go_wp2;go_ret;exact ⟨ret_b7 (by unfold codeB;simp [h1,h2]),rfl⟩
set_option maxHeartbeats 2000000 in
theorem i_shape (c:Int) (w:World):Calls Tryz.prog 117 #[.int .i64 c] w fun e w'=>e=.returned (.agg #[.int .i64 (widN c:Int),.bool (sgnB c)])∧Below w.heap.size w w':=by
 rcases code_cases c with rfl|rfl|rfl|rfl|rfl|rfl|rfl|rfl|rfl|rfl|rfl|rfl|h
 case inr.inr.inr.inr.inr.inr.inr.inr.inr.inr.inr.inr =>
  have HW:=hid (widN_none c h);obtain ⟨h0,h1,h2,h3,h4,h5,h6,h7,h8,h9,h10,h11⟩:=h
  go_enter Tryz.func117,Tryz.ntmps117
  go_wp2;refine bodyPost_ret (v:=.agg #[.int .i64 0,.bool false]) (by simp [results,Tryz.results117,go_sem]) rfl ⟨by rw [HW.out.1,HW.out.2];rfl,?_⟩;exact (Below.refl _ _).alloc (Nat.le_refl _) _
 all_goals
  go_enter Tryz.func117,Tryz.ntmps117
  go_wp2
  first
  | refine bodyPost_ret (v:=.agg #[.int .i64 4,.bool true]) (by simp [results,Tryz.results117,go_sem]) rfl ⟨rfl,?_⟩
  | refine bodyPost_ret (v:=.agg #[.int .i64 2,.bool true]) (by simp [results,Tryz.results117,go_sem]) rfl ⟨rfl,?_⟩
  | refine bodyPost_ret (v:=.agg #[.int .i64 2,.bool false]) (by simp [results,Tryz.results117,go_sem]) rfl ⟨rfl,?_⟩
  | refine bodyPost_ret (v:=.agg #[.int .i64 1,.bool false]) (by simp [results,Tryz.results117,go_sem]) rfl ⟨rfl,?_⟩
  exact (Below.refl _ _).alloc (Nat.le_refl _) _
theorem run_size (m:Int) (b:Bool) (w:World):(Instr.field 159 (.agg #[.int .i64 m,.bool b]) 0).run Tryz.prog w=.ok (.int .i64 m) w:=by kernel_rfl
theorem i_size (c:Int) (w:World):Calls Tryz.prog 125 #[.int .i64 c] w fun e w'=>e=.returned (.int .i64 (sizZ c))∧Below w.heap.size w w':=by
 have hw:=widN_le c;obtain ⟨m,hm⟩:∃ m:Nat,widN c=m:=⟨_,rfl⟩;have S:=hid (fun W=>i_shape c W);rw [hm] at S hw;have C:=hid (fun W=>i_code c W);have HR:Hid (sizZ c=if codeB c=true then 1+(m:Int) else 0):=hid (by unfold sizZ;rw [hm]);clear hm;obtain ⟨b,hb⟩:∃ b,codeB c=b:=⟨_,rfl⟩;rw [hb] at C HR;clear hb;have F:=fun (W:World)=>run_size (m:Int) (sgnB c) W
 cases b
 ·clear F
  go_enter Tryz.func125,Tryz.ntmps125
  go_wp2_with (first|(go_at_call 157;refine (C.out _).mono ?_;rintro e w' ⟨rfl,rfl⟩))
  go_ret;exact ⟨ret_i7 HR.out.symm,Below.refl _ _⟩
 ·go_enter Tryz.func125,Tryz.ntmps125
  go_wp2_with (first|(go_at_call 157;refine (C.out _).mono ?_;rintro e w' ⟨rfl,rfl⟩)|(go_at_call 117;refine (S.out _).mono ?_;rintro e w1 ⟨rfl,b1⟩))
  go_ret;exact ⟨ret_i7 HR.out.symm,b1⟩
end Go.Proofs.YtcflojdkaddemaaGreatDoor

namespace Go.Proofs.YtcflojdkaddemaaGreatDoor
open Go.RowKit Go.Lib
def itA (x:ItL) (v:Value):Value:=.agg #[.int .i64 x.code,.int .i64 x.arg,.int .i64 (x.line:Int),.bool x.start,v,.int .i64 x.depth,.bool x.ent]
def plV (o:Int) (x:ItL) (v:Value):Value:=.agg #[.int .i64 o,.int .i64 x.code,.int .i64 x.arg,.int .i64 (x.line:Int),.bool x.start,v,.int .i64 x.depth,.bool x.ent]
def kindP (p:List PLine) (x:ItL):Int:=if lkZ p (x.line:Int)=0 then 1 else if x.code=10∨x.code=11 then 2 else 0
theorem kind_jump {p:List PLine} {g:Nat} {L:List ItL} (h:FnIt p g L) (k:Nat) (hk:k<L.length):(L[k].code=10∨L[k].code=11)↔kindP p L[k]=2:=by
 unfold kindP
 constructor
 ·intro hj
  have hk0:k≠0:=by
   intro e;subst e
   have:=h.h0 _ (List.getElem?_eq_getElem hk)
   omega
  have hm:L[k] ∈ L.drop 1:=by
   refine List.mem_iff_getElem.2 ⟨k - 1,by rw [List.length_drop];omega,?_⟩;rw [List.getElem_drop]
   congr 1
   omega
  rw [if_neg (h.no _ hm),if_pos hj]
 ·intro e
  split at e
  ·omega
  ·split at e
   ·assumption
   ·omega
theorem ret_k {a b:Int} (h:a=b):Ending.returned (.int .i64 a)=.returned (.int .i64 b):=by rw [h]
set_option maxRecDepth 100000 in
set_option maxHeartbeats 2000000 in
theorem i_kindOf (pa:Option Addr) (pc:Nat) (PX:List LnL) (x:ItL) (va:Option Addr) (vn vc:Nat) (w:World) (hl:PX.length≤1048576) (hr:ReadL 9 147 w pa PX) (hx:x.line<PX.length) :
  Calls Tryz.prog 55 #[.slice pa PX.length pc,itA x (.slice va vn vc)] w fun e w'=>e=.returned (.int .i64 (kindP (plL PX) x))∧Below w.heap.size w w':=by
 obtain ⟨co,ar,li,st,ch,de,en⟩:=x;have hx:li<PX.length:=hx;unfold itA;have HBX:Hid (Below w.heap.size w (w.alloc (.cells #[.int .i64 co,.int .i64 ar,.int .i64 (li:Int),.bool st,.slice va vn vc,.int .i64 de,.bool en] 40))):=hid ((Below.refl _ _).alloc (Nat.le_refl _) _);obtain ⟨g,rfl,hg,⟨c0,_,_,_⟩,_⟩:=(hr.below HBX.out) li hx;have hkx:lkZ (plL PX) (li:Int)=PX[li].kind:=by rw [lkZ_at _ _ (by rw [plL_length];exact hx),pl_kind PX li hx]
 have HK:Hid (kindP (plL PX) ⟨co,ar,li,st,ch,de,en⟩=if PX[li].kind=0 then 1 else if co=10∨co=11 then 2 else 0):=hid (by unfold kindP;rw [hkx]);have NX:=hid (heap_alloc_new w (.cells #[.int .i64 co,.int .i64 ar,.int .i64 (li:Int),.bool st,.slice va vn vc,.int .i64 de,.bool en] 40));obtain ⟨wx,hwx⟩:∃ W,w.alloc (.cells #[.int .i64 co,.int .i64 ar,.int .i64 (li:Int),.bool st,.slice va vn vc,.int .i64 de,.bool en] 40)=W:=⟨_,rfl⟩;rw [hwx] at NX HBX c0;have HWX:=hid hwx;have x0:wx.cell? ⟨w.heap.size,0,none⟩=some (.int .i64 co):=(blk NX.out).1 0 _ rfl;have x2:wx.cell? ⟨w.heap.size,2,none⟩=some (.int .i64 (li:Int)):=(blk NX.out).1 2 _ rfl;obtain ⟨Z,hZ⟩:∃ z,kindP (plL PX) ⟨co,ar,li,st,ch,de,en⟩=z:=⟨_,rfl⟩;rw [hZ] at HK ⊢;have k0:(0:Int)≤(li:Int):=by omega
 have k1:(li:Int)<(PX.length:Int):=by omega
 generalize PX[li].kind=kd at *;clear hwx hr hkx hZ
 by_cases h0:kd=0
 ·subst h0
  have HZ:Hid (1=Z):=hid (by rw [HK.out,if_pos rfl])
  go_enter Tryz.func55,Tryz.ntmps55
  go_upto_region 1 with fail;rw [HWX.out];go_wp2;go_ret;exact ⟨ret_k HZ.out,HBX.out⟩
 ·have d0:(kd == 0)=false:=by simpa using h0
  by_cases h10:co=10
  ·subst h10
   have HZ:Hid (2=Z):=hid (by rw [HK.out,if_neg h0,if_pos (.inl rfl)]);clear h0
   go_enter Tryz.func55,Tryz.ntmps55
   go_upto_region 1 with fail;rw [HWX.out];go_wp2;go_ret;exact ⟨ret_k HZ.out,HBX.out⟩
  ·have d1:(co == 10)=false:=by simpa using h10
   by_cases h11:co=11
   ·subst h11
    have HZ:Hid (2=Z):=hid (by rw [HK.out,if_neg h0,if_pos (.inr rfl)]);clear h0 h10
    go_enter Tryz.func55,Tryz.ntmps55
    go_upto_region 1 with fail;rw [HWX.out];go_wp2;go_ret;exact ⟨ret_k HZ.out,HBX.out⟩
   ·have d2:(co == 11)=false:=by simpa using h11
    have HZ:Hid (0=Z):=hid (by rw [HK.out,if_neg h0,if_neg (by omega)]);clear h0 h10 h11
    go_enter Tryz.func55,Tryz.ntmps55
    go_upto_region 1 with fail;rw [HWX.out];go_wp2;go_ret;exact ⟨ret_k HZ.out,HBX.out⟩
set_option maxRecDepth 100000 in
set_option maxHeartbeats 2000000 in
theorem i_endP (o:Int) (x:ItL) (va:Option Addr) (vn vc:Nat) (w:World) (h0:0≤o) (h1:o≤1000000) :
  Calls Tryz.prog 62 #[plV o x (.slice va vn vc)] w fun e w'=>e=.returned (.int .i64 (o+sizZ x.code))∧Below w.heap.size w w':=by
 obtain ⟨co,ar,li,st,ch,de,en⟩:=x;unfold plV;have SZ:=hid (fun W=>i_size co W);have hz0:0≤sizZ co:=by unfold sizZ;split <;> omega
 have hz1:sizZ co≤5:=by have:=widN_le co;unfold sizZ;split <;> omega
 dsimp only;generalize sizZ co=sz at *;have NX:=hid (heap_alloc_new w (.cells #[.int .i64 o,.int .i64 co,.int .i64 ar,.int .i64 (li:Int),.bool st,.slice va vn vc,.int .i64 de,.bool en] 42));have HBX:Hid (Below w.heap.size w (w.alloc (.cells #[.int .i64 o,.int .i64 co,.int .i64 ar,.int .i64 (li:Int),.bool st,.slice va vn vc,.int .i64 de,.bool en] 42))):=hid ((Below.refl _ _).alloc (Nat.le_refl _) _);obtain ⟨wx,hwx⟩:∃ W,w.alloc (.cells #[.int .i64 o,.int .i64 co,.int .i64 ar,.int .i64 (li:Int),.bool st,.slice va vn vc,.int .i64 de,.bool en] 42)=W:=⟨_,rfl⟩;rw [hwx] at NX HBX;have HWX:=hid hwx;have x0:wx.cell? ⟨w.heap.size,0,none⟩=some (.int .i64 o):=(blk NX.out).1 0 _ rfl;have x1:wx.cell? ⟨w.heap.size,1,none⟩=some (.int .i64 co):=(blk NX.out).1 1 _ rfl;clear hwx
 go_enter Tryz.func62,Tryz.ntmps62
 go_upto_region 1 with fail;rw [HWX.out];have SS:Hid (∀ W,Below wx.heap.size wx W→W.cell? ⟨w.heap.size,0,none⟩=some (.int .i64 o)∧W.cell? ⟨w.heap.size,1,none⟩=some (.int .i64 co)):=hid (fun W hb=>⟨(hb.cell (p:=⟨w.heap.size,0,none⟩) (blk NX.out).2.2).trans x0,(hb.cell (p:=⟨w.heap.size,1,none⟩) (blk NX.out).2.2).trans x1⟩);have DX:Hid (Below wx.heap.size wx wx.drew):=hid (Below.refl _ _).drew;refine E_start (S:=(fun w'=>w'.cell? ⟨w.heap.size,0,none⟩=some (.int .i64 o)∧w'.cell? ⟨w.heap.size,1,none⟩=some (.int .i64 co))) 8 (by kernel_rfl) (SS.out _ DX.out) (fun hHeld=>?_);refine E_tk 0 ?_
 try simp only [Act.put,eS1,eS2,eS3,eA1,eA2,eA3]
 refine E_tk 1 ?_
 try simp only [Act.put,eS1,eS2,eS3,eA1,eA2,eA3]
 refine E_tk 2 ?_
 try simp only [Act.put,eS1,eS2,eS3,eA1,eA2,eA3]
 refine E_tk 3 ?_
 try simp only [Act.put,eS1,eS2,eS3,eA1,eA2,eA3]
 refine E_tk 4 ?_
 try simp only [Act.put,eS1,eS2,eS3,eA1,eA2,eA3]
 refine E_tk 5 ?_
 try simp only [Act.put,eS1,eS2,eS3,eA1,eA2,eA3]
 refine E_ready (rs:=[6]) (by kernel_rfl) (by decide) ?_;refine AllE.cons (o:=_) rfl (fun K hK=>?_) AllE.nil
 try simp only [eA1,eA2,eA3]
 go_simp
 refine (SZ.out _).mono ?_;rintro e w2 ⟨rfl,b2⟩;have HB2:=hid (DX.out.trans (b2.mono DX.out.size));clear b2;refine hK.out _ _ (SS.out _ HB2.out) (fun hHeld=>?_);clear hK K
 try simp only [Act.put,eS1,eS2,eS3,eA1,eA2,eA3]
 refine E_tk 7 ?_
 try simp only [Act.put,eS1,eS2,eS3,eA1,eA2,eA3]
 refine E_last (o:=_) (by kernel_rfl) rfl (by kernel_rfl) (fun K hK=>?_)
 try simp only [eA1,eA2,eA3]
 go_simp
 refine hK.out _ _ ?_;clear hK K;have HB3:=hid (HBX.out.trans (HB2.out.mono HBX.out.size));have hwr:IntKind.i64.wrap (o+sz)=o+sz:=IntWalk.i64_in _ (by omega);rw [hwr];go_wp2;go_ret;exact ⟨rfl,HB3.out⟩
end Go.Proofs.YtcflojdkaddemaaGreatDoor
