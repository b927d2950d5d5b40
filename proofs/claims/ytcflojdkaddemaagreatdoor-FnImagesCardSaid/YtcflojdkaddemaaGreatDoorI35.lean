/- Parts of the proof. -/
import Derived.Test.YtcflojdkaddemaaGreatDoorRows
import Derived.Test.YtcflojdkaddemaaGreatDoorI08
import Derived.Outline
import Derived.Lib.Hide
import Derived.FnLit
import Derived.Deep.QuietTactic
import Derived.BigQuiet
import Derived.Deep.DeepCutAuto
import Derived.Deep.RegionHeld3
namespace Go.Proofs.YtcflojdkaddemaaGreatDoor
open Go.RowKit Go.Lib
def adB (n:Int):Bool:=decide (0≤n)&&decide (n≤1000000)
theorem ret_b9 {p q:Bool} (h:p=q):Ending.returned (.bool p)=.returned (.bool q):=by rw [h]
theorem s_in9 (x a b:Int) (w:World):Calls Tryz.prog 92 #[.int .i64 x,.int .i64 a,.int .i64 b] w fun e w'=>e=.returned (.bool (decide (a≤x)&&decide (x≤b)))∧w=w':=by
 by_cases h1:a≤x <;> by_cases h2:x≤b
 all_goals
  go_enter Tryz.func92,Tryz.ntmps92
  go_wp2;go_ret;exact ⟨ret_b9 (by simp [h1,h2]),rfl⟩
theorem i_isAd (x:Int) (w:World):Calls Tryz.prog 67 #[.int .i64 x] w fun e w'=>e=.returned (.bool (adB x))∧w=w':=by
 unfold adB
 by_cases h1:0≤x <;> by_cases h2:x≤1000000
 all_goals
  go_enter Tryz.func67,Tryz.ntmps67
  go_wp2;go_ret;exact ⟨ret_b9 (by simp [h1,h2]),rfl⟩
theorem syIn_no1 (x:SyL) (o:Int) (h:adB x.start=false):syIn x o=false:=by unfold adB at h;unfold syIn;rw [h];rfl
theorem syIn_no2 (x:SyL) (o:Int) (h:adB x.size=false):syIn x o=false:=by unfold adB at h;unfold syIn;rw [h];simp
theorem syIn_yes (x:SyL) (o:Int) (h1:adB x.start=true) (h2:adB x.size=true):syIn x o=(decide (x.start≤o)&&decide (o<x.start+x.size)):=by unfold adB at h1 h2;unfold syIn;rw [h1,h2];simp
theorem adB_is {n:Int} (h:adB n=true):0≤n∧n≤1000000:=by unfold adB at h;simpa using h
theorem i_symIs (x:SyL) (o:Int) (c:Nat) (w:World) (hc:w.cell? ⟨c,0,none⟩=some (.int .i64 o)) (hcl:c<w.heap.size) :
  Calls Tryz.prog 66 #[.agg #[.string x.name,.int .i64 x.start,.int .i64 x.size],.pointer (some ⟨c,0,none⟩)] w fun e w'=>e=.returned (.bool (syIn x o))∧Below w.heap.size w w':=by
 obtain ⟨nm,st,sz⟩:=x;dsimp only;have HB:Hid (Below w.heap.size w (w.alloc (.cells #[.string nm,.int .i64 st,.int .i64 sz] 94))):=hid ((Below.refl _ _).alloc (Nat.le_refl _) _);have e2:(w.alloc (.cells #[.string nm,.int .i64 st,.int .i64 sz] 94)).cell? ⟨c,0,none⟩=some (.int .i64 o):=(HB.out.cell (p:=⟨c,0,none⟩) hcl).trans hc;have I1:=hid (fun W=>i_isAd st W);have I2:=hid (fun W=>i_isAd sz W);clear hc
 cases h1:adB st with
 | false =>
  have HV:=hid (syIn_no1 ⟨nm,st,sz⟩ o h1);rw [h1] at I1;clear h1 I2
  go_enter Tryz.func66,Tryz.ntmps66
  go_wp2_with fail;refine (I1.out _).mono ?_;rintro e w' ⟨rfl,rfl⟩;go_wp2;go_ret;exact ⟨ret_b9 HV.out.symm,HB.out⟩
 | true =>
  cases h2:adB sz with
  | false =>
   have HV:=hid (syIn_no2 ⟨nm,st,sz⟩ o h2);rw [h1] at I1;rw [h2] at I2;clear h1 h2
   go_enter Tryz.func66,Tryz.ntmps66
   go_wp2_with fail;refine (I1.out _).mono ?_;rintro e w' ⟨rfl,rfl⟩;go_wp2_with fail;refine (I2.out _).mono ?_;rintro e w' ⟨rfl,rfl⟩;go_wp2;go_ret;exact ⟨ret_b9 HV.out.symm,HB.out⟩
  | true =>
   have HV:=hid (syIn_yes ⟨nm,st,sz⟩ o h1 h2);obtain ⟨a1,a2⟩:=adB_is h1;obtain ⟨a3,a4⟩:=adB_is h2;rw [h1] at I1;rw [h2] at I2;have u1:IntKind.i64.wrap (st+sz)=st+sz:=IntWalk.i64_in _ (by omega);clear h1 h2
   by_cases h3:st≤o <;> by_cases h4:o<st+sz
   rotate_left 3
   ·exfalso;omega
   all_goals
    go_enter Tryz.func66,Tryz.ntmps66
    go_wp2_with fail;refine (I1.out _).mono ?_;rintro e w' ⟨rfl,rfl⟩;go_wp2_with fail;refine (I2.out _).mono ?_;rintro e w' ⟨rfl,rfl⟩;go_wp2;go_ret;exact ⟨by rw [HV.out];exact ret_b9 (by simp [h3,h4]),HB.out⟩
theorem symF_yes (X:List SyL) (o:Int) (q:Nat) (h:q<X.length) (h0:syIn X[q] o=true):symF o q (X.drop q)=(q:Int):=by rw [symF_at X o q h,if_pos h0]
theorem symF_no (X:List SyL) (o:Int) (q:Nat) (h:q<X.length) (h0:syIn X[q] o=false):symF o q (X.drop q)=symF o (q+1) (X.drop (q+1)):=by rw [symF_at X o q h,if_neg (by rw [h0];decide)]
set_option maxRecDepth 100000 in
set_option maxHeartbeats 2000000 in
theorem i_symIx (a:Option Addr) (cap:Nat) (X:List SyL) (o:Int) (c:Nat) (w:World) (hl:X.length≤2000000) (hr:ReadSy w a X) (hc:w.cell? ⟨c,0,none⟩=some (.int .i64 o)) (hcl:c<w.heap.size) :
  Calls Tryz.prog 65 #[.slice a X.length cap,.func (.func 66) #[] #[.pointer (some ⟨c,0,none⟩)]] w fun e w'=>e=.returned (.int .i64 (symZ X o))∧Below w.heap.size w w':=by
 have HR:=hid hr;have HC:=hid (fun (W:World) (hb:Below w.heap.size w W) x=>i_symIs x o c W ((hb.cell (p:=⟨c,0,none⟩) hcl).trans hc) (by have:=hb.size;omega));clear hr hc
 go_enter Tryz.func65,Tryz.ntmps65
 go_wp2_with fail
 go_loopw [5,8] (fun _ i wr=>∃ q:Nat,q≤X.length∧i=.int .i64 (q:Int)∧Hid (symF o q (X.drop q)=symZ X o)∧Below w.heap.size w wr) (fun _ i _=>X.length - (RowKit.intOf i).toNat)
 case atStart=>exact ⟨0,Nat.zero_le _,rfl,hid rfl,Below.refl _ _⟩
 case round =>
  obtain ⟨q,hq,rfl,HE,hbel⟩:=hrel;have HB:=hid hbel;have hB:=hbel.size
  by_cases hlt:q<X.length
  ·obtain ⟨g,rfl,hg,c0,c1,c2⟩:=(HR.out.below hbel) q hlt
   have HY:=hid (symF_yes X o q hlt);have HNO:=hid (symF_no X o q hlt);have HF:=hid (HC.out wr hbel X[q]);have k0:(0:Int)≤(q:Int):=by omega
   have k1:(q:Int)<(X.length:Int):=by omega
   generalize X[q]=xx at *;obtain ⟨nm,st,sz⟩:=xx;dsimp only at c0 c1 c2 HF;clear hbel
   cases hb:syIn ⟨nm,st,sz⟩ o with
   | true =>
    have HN':=hid ((HY.out hb).symm.trans HE.out);rw [hb] at HF;clear HY HNO hb;go_wp2_with fail;refine HF.out.mono ?_;rintro e w1 ⟨rfl,b1⟩;have HB1:Hid (Below w.heap.size w w1):=hid (HB.out.trans (b1.mono hB));clear b1 c0 c1 c2;go_wp2;go_ret;exact ⟨by rw [← HN'.out];rfl,HB1.out⟩
   | false =>
    have HN':=hid ((HNO.out hb).symm.trans HE.out);rw [hb] at HF;clear HY HNO hb;go_wp2_with fail;refine HF.out.mono ?_;rintro e w1 ⟨rfl,b1⟩;have HB1:Hid (Below w.heap.size w w1):=hid (HB.out.trans (b1.mono hB));clear b1 c0 c1 c2;go_wp2;go_roundw
    case rel=>exact ⟨q+1,by omega,by go_num,HN',HB1.out⟩
    case measure=>simp [RowKit.intOf];omega
  ·have hqq:q=X.length:=by omega
   subst hqq;have HN':Hid (-1=symZ X o):=hid (by rw [← HE.out,symF_out _ _ _ (by omega)]);clear hbel;go_wp2;go_ret;exact ⟨by rw [← HN'.out];rfl,HB.out⟩
set_option maxRecDepth 100000 in
set_option maxHeartbeats 2000000 in
theorem i_symbolAt (s:ByteArray) (a:Option Addr) (cap:Nat) (X:List SyL) (o:Int) (w:World) (hl:X.length≤2000000) (hr:ReadSy w a X) :
  Calls Tryz.prog 16 #[.agg #[.string s,.slice a X.length cap],.int .i64 o] w fun e w'=>e=.returned (.int .i64 (symZ X o))∧Below w.heap.size w w':=by
 have T:=hid (two_new w (.cells #[.string s,.slice a X.length cap] 32) (.cells #[.int .i64 o] 3));have IX:=hid (i_symIx a cap X o (w.heap.size+1) _ hl (hr.below T.out.2.2.2) ((blk T.out.2.1).1 0 _ rfl) (blk T.out.2.1).2.2);clear hr
 go_enter Tryz.func16,Tryz.ntmps16
 go_wp2_with fail;refine IX.out.mono ?_;rintro e w1 ⟨rfl,b1⟩;have HB1:Hid (Below w.heap.size w w1):=hid (T.out.2.2.2.trans (b1.mono (by have:=T.out.2.2.1;omega)));clear b1;go_wp2;go_ret;exact ⟨rfl,HB1.out⟩
end Go.Proofs.YtcflojdkaddemaaGreatDoor

namespace Go.Proofs.YtcflojdkaddemaaGreatDoor
open Go.RowKit Go.Lib
set_option maxHeartbeats 400000 in
theorem d_byte (c:Nat) (a:Option Addr) (len cap:Nat) (z:List Int) (w:World) (H:CurAt 145 w c a len cap z) :
  Calls Tryz.prog 155 #[.pointer (some ⟨c,0,none⟩)] w (DrawInt 145 0 255 c a len cap z w):=by
 have HC:=hid H;obtain ⟨⟨i,h,hblk,hil⟩,hrow,hlt,hlen⟩:=H;have c0:w.cell? ⟨c,0,none⟩=some (.slice a len cap):=by rw [cell_of_row w c 0 _ _ _ hblk];rfl
 have c1:w.cell? ⟨c,1,none⟩=some (.int .i64 (i:Int)):=by rw [cell_of_row w c 1 _ _ _ hblk];rfl
 have c2:w.cell? ⟨c,2,none⟩=some (.int .i64 h):=by rw [cell_of_row w c 2 _ _ _ hblk];rfl
 have f1:w.frozen? ⟨c,1,none⟩=false:=frozen_of_block hblk;have f2:w.frozen? ⟨c,2,none⟩=false:=frozen_of_block hblk;have q255:=i64_and255;have HB:=hid hblk;clear hblk
 by_cases hi:i<len
 ·rcases hrow with ⟨rfl,rfl,rfl,rfl⟩|⟨x,rfl,hl,hm,hz,hcell,hwz⟩
  ·omega
  ·obtain ⟨b,off,spot⟩:=x
   have hbc:=hlt _ rfl (by omega);have hc:=hcell i (by omega);have hspot:spot=none:=by simpa [Addr.add] using World.cell?_spot (hcell 0 (by omega))
   subst hspot;rw [add_plain] at hc;have hel:w.cell? ⟨b,off+i,none⟩=some (.int .u8 (z.getD i 0)):=hc;have hne:¬ b=c:=by simp at hbc;omega
   have hne':¬ c=b:=fun e=>hne e.symm
   have i0:(0:Int)≤(i:Int):=by omega
   have i1:(i:Int)<(len:Int):=by omega
   clear hcell hwz hlt hc hbc;generalize z.getD i 0=y at hel
   go_enter Tryz.func155,Tryz.ntmps155
   go_wp2_with fail;generalize wrap64 (wrap64 (h*6364136223846793005)+1442695040888963407)=g;generalize wrap64 (h*6364136223846793005)=g';go_quiet (fail);go_wp2_with fail;go_quiet (fail);go_wp2_with fail;go_quiet (fail);go_wp2;go_ret;exact draw_end2 HC.out hi HB.out _ _ _
 ·clear hrow hlt
  go_enter Tryz.func155,Tryz.ntmps155
  go_wp2_with fail;generalize wrap64 (wrap64 (h*6364136223846793005)+1442695040888963407)=g;generalize wrap64 (h*6364136223846793005)=g';go_quiet (fail);go_wp2_with fail;go_quiet (fail);go_wp2;go_ret;exact draw_end1 HC.out hil HB.out _ _ _ _
theorem d_below_small (c:Nat) (a:Option Addr) (len cap:Nat) (z:List Int) (n:Int) (w:World) (H:CurAt 145 w c a len cap z) (h0:0<n) (h1:n≤256) :
  Calls Tryz.prog 105 #[.pointer (some ⟨c,0,none⟩),.int .i64 n] w (DrawInt 145 0 (n - 1) c a len cap z w):=by
 have HC:=hid H;clear H
 go_enter Tryz.func105,Tryz.ntmps105
 go_wp2_with fail;refine (d_byte c a len cap z _ HC.out).mono ?_;rintro e w1 ⟨x,x0,x1,rfl,H1,G1⟩;have hx:=emod_below x n x0 h0;have HX:=hid hx;clear hx;go_wp2;go_ret;exact ⟨_,HX.out.1,HX.out.2,rfl,H1,G1⟩
theorem d_below_big (c:Nat) (a:Option Addr) (len cap:Nat) (z:List Int) (n:Int) (w:World) (H:CurAt 145 w c a len cap z) (h0:256<n) (h1:n≤9223372036854775807) :
  Calls Tryz.prog 105 #[.pointer (some ⟨c,0,none⟩),.int .i64 n] w (DrawInt 145 0 (n - 1) c a len cap z w):=by
 have HC:=hid H;clear H
 go_enter Tryz.func105,Tryz.ntmps105
 go_wp2_with fail;refine (d_byte c a len cap z _ HC.out).mono ?_;rintro e w1 ⟨x,x0,x1,rfl,H1,G1⟩;have K1:=hid H1;have L1:=hid G1;clear H1 G1;go_wp2_with fail;refine (d_byte c a len cap z _ K1.out).mono ?_;rintro e w2 ⟨y,y0,y1,rfl,H2,G2⟩;have K2:=hid H2;have L2:=hid G2;clear H2 G2;go_wp2_with fail;refine (d_byte c a len cap z _ K2.out).mono ?_;rintro e w3 ⟨u,u0,u1,rfl,H3,G3⟩;have K3:=hid H3;have L3:=hid G3;clear H3 G3;go_wp2_with fail;refine (d_byte c a len cap z _ K3.out).mono ?_;rintro e w4 ⟨v,v0,v1,rfl,H4,G4⟩;have K4:=hid H4;have L4:=hid G4;clear H4 G4;have hx:=emod_below (x*16777216+y*65536+u*256+v) n (by omega) (by omega);have HX:=hid hx;clear hx;go_wp2;go_ret;exact ⟨_,HX.out.1,HX.out.2,rfl,K4.out,((L1.out.trans L2.out).trans L3.out).trans L4.out⟩
theorem d_below (c:Nat) (a:Option Addr) (len cap:Nat) (z:List Int) (n:Int) (w:World) (H:CurAt 145 w c a len cap z) (h0:0<n) (h1:n≤9223372036854775807) :
  Calls Tryz.prog 105 #[.pointer (some ⟨c,0,none⟩),.int .i64 n] w (DrawInt 145 0 (n - 1) c a len cap z w):=by
 by_cases h:n≤256
 ·exact d_below_small c a len cap z n w H h0 h
 ·exact d_below_big c a len cap z n w H (by omega) h1
set_option maxRecDepth 100000 in
set_option maxHeartbeats 400000 in
theorem d_new (a:Option Addr) (len cap:Nat) (z:List Int) (w:World) (H:IsRow .u8 w a len cap z) (hl:len≤1048576) :
  Calls Tryz.prog 48 #[.slice a len cap] w (DrawCur 145 a len cap z w):=by
 have HC:=hid H;have hcell:∀ k,k<len→∃ b off,a=some ⟨b,off,none⟩∧w.cell? ⟨b,off+k,none⟩=some (.int .u8 (z.getD k 0)):=by
  intro k hk
  rcases H with ⟨rfl,rfl,_,_⟩|⟨x,rfl,h1,h2,h3,h4,h5⟩
  ·omega
  ·obtain ⟨b,off,spot⟩:=x
   have hspot:spot=none:=by simpa [Addr.add] using World.cell?_spot (h4 0 (by omega))
   subst hspot;exact ⟨b,off,rfl,by have:=h4 k (by omega);rw [add_plain] at this;exact this⟩
 have HK:=hid hcell;clear H hcell
 go_enter Tryz.func48,Tryz.ntmps48
 go_wp2
 go_loop [3,4] (fun h i=>∃ (k:Nat) (g:Int),k≤len∧i=.int .i64 (k:Int)∧h=.int .i64 g) (fun _ i=>len - (intOf i).toNat)
 case atStart=>exact ⟨0,_,Nat.zero_le _,rfl,rfl⟩
 case round =>
  obtain ⟨k,g,hk,rfl,rfl⟩:=hrel
  by_cases hlt:k<len
  ·by_cases h4:k<4000
   ·obtain ⟨b,off,rfl,hel⟩:=HK.out k hlt
    clear HK;generalize z.getD k 0=y at hel;go_wp2
    go_round
    case rel=>exact ⟨k+1,_,by omega,by go_num,rfl⟩
    case measure=>simp [intOf];omega
   ·have h4':decide ((k:Int)<4000)=false:=by simp;omega
    go_wp2;go_ret;exact draw_new HC.out hl _
  ·go_wp2
   go_ret;exact draw_new HC.out hl _
end Go.Proofs.YtcflojdkaddemaaGreatDoor

namespace Go.Proofs.YtcflojdkaddemaaGreatDoor
open Go.RowKit Go.Lib
theorem d_once (c:Nat) (a:Option Addr) (len cap:Nat) (z:List Int) (n:Int) (w:World) (H:CurAt 145 w c a len cap z) (h0:0<n) (h1:n≤9223372036854775807) :
  Calls Tryz.prog 107 #[.pointer (some ⟨c,0,none⟩),.int .i64 n] w (DrawBool 145 c a len cap z w):=by
 have HC:=hid H;clear H
 go_enter Tryz.func107,Tryz.ntmps107
 go_wp2_with fail;refine (d_below c a len cap z n _ HC.out h0 h1).mono ?_;rintro e w1 ⟨x,x0,x1,rfl,H1,G1⟩;have K1:=hid H1;have L1:=hid G1;clear H1 G1;go_wp2;go_ret;exact ⟨_,rfl,K1.out,L1.out⟩
end Go.Proofs.YtcflojdkaddemaaGreatDoor

namespace Go.Proofs.YtcflojdkaddemaaGreatDoor
open Go.RowKit Go.Lib
set_option maxHeartbeats 400000 in
theorem d_pickint (c:Nat) (a:Option Addr) (len cap:Nat) (z:List Int) (b n:Nat) (zs:List Int) (lo hi:Int) (w:World) (H:CurAt 145 w c a len cap z) (hn:zs.length=n) (h0:0<n) (h1:n≤100)
  (hb:w.heap[b]?=some (.cells (zs.map (Value.int .i64)).toArray 3 (0,0))) (hbc:b≠c) (hz:∀ x ∈ zs,lo≤x∧x≤hi) :
  Calls Tryz.prog 106 #[.pointer (some ⟨c,0,none⟩),.slice (some ⟨b,0,none⟩) n n] w (DrawInt 145 lo hi c a len cap z w):=by
 have HC:=hid H;have HB:=hid hb;have HN:=hid hn;have HZ:=hid hz;have HBC:=hid hbc;clear H hb hn hz hbc
 go_enter Tryz.func106,Tryz.ntmps106
 go_wp2_with fail;refine (d_below c a len cap z n _ HC.out (by omega) (by omega)).mono ?_;rintro e w1 ⟨x,x0,x1,rfl,H1,G1⟩;obtain ⟨k,rfl⟩:=Int.eq_ofNat_of_zero_le x0;have hk:k<zs.length:=by rw [HN.out];omega
 have hcell:=cell_of_ints (w:=w1) (b:=b) (zs:=zs) (t:=3) (by rw [G1.block b (by
  rcases Nat.lt_or_ge b w.heap.size with h|h
  ·exact h
  ·have:=HB.out;rw [Array.getElem?_eq_none h] at this;cases this) (by intro e;injection e with e;exact HBC.out e)];exact HB.out) k hk
 have hy:=HZ.out zs[k] (List.getElem_mem hk);generalize zs[k]=y at hcell hy;have K1:=hid H1;have L1:=hid G1;have HY:=hid hy;clear H1 G1 hy;have hk0:(0:Int)≤(k:Int):=by omega
 have hk1:(k:Int)<(n:Int):=by omega
 go_wp2;go_ret;exact ⟨y,HY.out.1,HY.out.2,rfl,K1.out,L1.out⟩
end Go.Proofs.YtcflojdkaddemaaGreatDoor

namespace Go.Proofs.YtcflojdkaddemaaGreatDoor
open Go.RowKit Go.Lib
theorem infoX:(Tryz.prog.info? 147).map (fun i=>(i.zero,i.size,i.bytes))=some (some (.agg #[.int .i64 0,.int .i64 0,.string ⟨#[]⟩]),3,32):=by kernel_rfl
theorem toksV_one' (l:List TokL):∀ u ∈ toksV l,u.oneCell'=true:=by
  intro u hu;unfold toksV at hu;obtain ⟨t,_,ht⟩:=List.mem_flatMap.1 hu;simp only [tokV,List.mem_cons,List.not_mem_nil,or_false] at ht
  rcases ht with rfl|rfl|rfl <;> rfl
theorem own_form {B T n s:Nat} {w:World} {v:Value} {xs:List Value} (h:w.ownsRow B T s v n xs) (hn:0<n):∃ g cap,v=.slice (some ⟨g,0,none⟩) n cap∧B≤g∧g<w.heap.size∧(∀ j u,xs[j]?=some u→w.cell? ((⟨g,0,none⟩:Addr).add j)=some u):=by
  rcases h.2 with ⟨rfl,h0⟩|⟨g,cap,cur,rfl,hB,hg,_⟩
  · omega
  · exact ⟨g,cap,rfl,hB,(h.lt g rfl).2,h.cells rfl⟩
set_option maxRecDepth 100000 in
set_option maxHeartbeats 4000000 in
theorem d_expr (c:Nat) (a:Option Addr) (len cap:Nat) (z:List Int) (lv ln:List ByteArray) (la:List Int) (va na aa:Option Addr) (vc nc ac:Nat)
    (hv:∀ s ∈ lv,nameB s=true) (hn:∀ s ∈ ln,nameB s=true) (ha:∀ x ∈ la,0≤x∧x≤2) (hlen:la.length=ln.length) (hlv:lv.length≤100) (hln:ln.length≤100) (n:Nat) :
    n≤100→∀ (x:Int) (w:World),x=(n:Int)→CurAt 145 w c a len cap z→TextsAt c w va lv→TextsAt c w na ln→NumsAt c w aa la →
    Calls Tryz.prog 189 #[.pointer (some ⟨c,0,none⟩),.int .i64 x,.slice va lv.length vc,.slice na ln.length nc,.slice aa la.length ac] w (DrawX 145 147 n c a len cap z w):=by
  induction n using Nat.strongRecOn with
  | ind n ih =>
  intro hn100 x w hx HC0 HV0 HN0 HA0;have IH:=hid ih;have HX:=hid hx;have HC:=hid HC0;have HV:=hid HV0;have HN:=hid HN0;have HA:=hid HA0;have QV:=hid hv;have QN:=hid hn;have QA:=hid ha;have QL:=hid hlen;have hcw:=HC0.lt;have x0:0≤x:=by omega
  have x100:x≤100:=by omega
  clear ih hx HC0 HV0 HN0 HA0 hv hn ha hlen;obtain ⟨i0,hi,hz0,hz1,hz2⟩:=info_parts infoX
  go_enter Tryz.func189,Tryz.ntmps189
  go_wp2_with fail;refine (d_below c a len cap z 10 _ HC.out (by omega) (by omega)).mono ?_;rintro e w1 ⟨k,k0,k1,rfl,H1,G1⟩;have K1:=hid H1;have L1:=hid G1;have z1:=G1.size;clear H1 G1;go_upto_region 2 with fail;obtain ⟨p,hp⟩:∃ p,(decide (2<x)&&decide (k<5))=p:=⟨_,rfl⟩;have HP:=hid hp;clear hp
  go_cut [18] (fun s18 wx=>s18=.bool p∧wx=w1)
  case first =>
    by_cases n2:2<x
    · by_cases k5:k<5
      · go_wp2_with fail
        go_meet;exact ⟨by rw [← HP.out,decide_eq_true n2,decide_eq_true k5];rfl,rfl⟩
      · go_wp2_with fail
        go_meet;exact ⟨by rw [← HP.out,decide_eq_true n2,decide_eq_false (by omega:¬ k<5)];rfl,rfl⟩
    · go_wp2_with fail
      go_meet;exact ⟨by rw [← HP.out,decide_eq_false (by omega:¬ 2<x)];rfl,rfl⟩
  case rest =>
    obtain ⟨rfl,rfl⟩:=hcut
    cases p
    case true =>
      have n2:2<x:=by have h:=HP.out;rw [Bool.and_eq_true,decide_eq_true_eq] at h;exact h.1
      have n2':2<n:=by have:=HX.out;omega
      clear HP;go_wp2_with fail;refine (d_below c a len cap z 5 _ K1.out (by omega) (by omega)).mono ?_;rintro e w2 ⟨y,y0,y1,rfl,H2,G2⟩;have K2:=hid H2;have L2:=hid (L1.out.trans G2);have z2:w.heap.size≤w2.heap.size:=L2.out.size;have OT:=hid (opTok y (by omega) (by omega));have hx2:Hid (x / 2=((n / 2:Nat):Int)):=hid (by rw [HX.out];rfl);clear H2 G2;have O2:=World.ownsRow_lit (base:=w.heap.size) (e:=147) (size:=3) w2 #[.int .i64 (2+y),.int .i64 0,.string ⟨#[]⟩] 1 z2 (by decide) rfl;have HO2:=hid O2;have L2':=hid (grown_alloc L2.out (.cells #[.int .i64 (2+y),.int .i64 0,.string ⟨#[]⟩] 147));clear O2;go_wp2_with fail;refine (IH.out (n / 2) (by omega) (by omega) _ _ hx2.out (K2.out.alloc _) (HV.out.grown L2'.out) (HN.out.grown L2'.out) (HA.out.grown L2'.out)).mono ?_;rintro e w3 ⟨v3,l3,rfl,O3,P3,B3,V3,H3,G3⟩;obtain ⟨g3,c3,rfl,gb3,gl3,gc3⟩:=own_form O3 (part_pos _ P3);have hown:=owns_far HO2.out G3 hcw;have K3:=hid H3;have L3:=hid (L2'.out.trans G3);have z3:w.heap.size≤w3.heap.size:=L3.out.size;have hb3:l3.length≤200:=by unfold bdX at B3;omega
      have h63:1+l3.length≤maxLen:=by unfold maxLen;omega
      have hby:(1+l3.length)*32≤140737488355328:=by omega
      have HP3:=hid P3;have HB3:=hid B3;have HV3:=hid V3;have GC3:=hid gc3;clear H3 G3 O3 P3 B3 V3 gc3;go_wp2_with (at_builtin;refine wpList_append_own _ rfl _ _ 85 rfl w.heap.size 147 i0 _ 3 32 Tryz.underlying85 hi hz0 hz1 hz2 rfl (by decide) _ _ _ rfl hown ⟨g3,0,none⟩ l3.length c3 (toksV l3) rfl (toksV_length l3) GC3.out (toksV_one' l3) h63 hby z3 ?_)
      intro v4 w4 hown4 hg4 _;have HO4:=hid (owns_toks (l:=[⟨2+y,0,⟨#[]⟩⟩]++l3) hown4 (by rw [toksV_append,toksV_one];rfl));have L4:=hid (grown_new L3.out hg4 (fun g e=>(hown.lt g e).1));have K4:=hid (K3.out.kept hg4 (fun g e=>by have:=(hown.lt g e).1;omega));have z4:w.heap.size≤w4.heap.size:=L4.out.size;clear hown4 hg4 hown GC3 h63 hby;have hl4:([(⟨2+y,0,⟨#[]⟩⟩:TokL)]++l3).length=1+l3.length:=by simp;omega
      obtain ⟨q4,hq4⟩:∃ q,([⟨2+y,0,⟨#[]⟩⟩]++l3:List TokL)=q:=⟨_,rfl⟩;have HQ4:=hid hq4;rw [hq4] at HO4 hl4;have hl4':q4.length≤201:=by omega
      have HL4:=hid hl4;clear hq4 hl4;go_wp2_with fail;refine (IH.out (n / 2) (by omega) (by omega) _ _ hx2.out K4.out (HV.out.grown L4.out) (HN.out.grown L4.out) (HA.out.grown L4.out)).mono ?_;rintro e w5 ⟨v5,l5,rfl,O5,P5,B5,V5,H5,G5⟩;obtain ⟨g5,c5,rfl,gb5,gl5,gc5⟩:=own_form O5 (part_pos _ P5);have hown:=owns_far HO4.out G5 hcw;have K5:=hid H5;have L5:=hid (L4.out.trans G5);have z5:w.heap.size≤w5.heap.size:=L5.out.size;have hb5:l5.length≤200:=by unfold bdX at B5;omega
      have h63:q4.length+l5.length≤maxLen:=by unfold maxLen;omega
      have hby:(q4.length+l5.length)*32≤140737488355328:=by omega
      have HP5:=hid P5;have HB5:=hid B5;have HV5:=hid V5;have GC5:=hid gc5;clear H5 G5 O5 P5 B5 V5 gc5;go_wp2_with (at_builtin;refine wpList_append_own _ rfl _ _ 85 rfl w.heap.size 147 i0 _ 3 32 Tryz.underlying85 hi hz0 hz1 hz2 rfl (by decide) _ _ _ rfl hown ⟨g5,0,none⟩ l5.length c5 (toksV l5) rfl (toksV_length l5) GC5.out (toksV_one' l5) h63 hby z5 ?_)
      intro v6 w6 hown6 hg6 _;have HO6:=hid (owns_toks (l:=q4++l5) hown6 (by rw [toksV_append]));have L6:=hid (grown_new L5.out hg6 (fun g e=>(hown.lt g e).1));have K6:=hid (K5.out.kept hg6 (fun g e=>by have:=(hown.lt g e).1;omega));clear hown6 hg6 hown GC5;go_wp2;go_ret;refine ⟨v6,q4++l5,rfl,HO6.out,?_,?_,?_,K6.out,L6.out⟩
      · rw [← HQ4.out]
        exact part_app (part_app (part_head _ 2 OT.out.1 OT.out.2) HP3.out) HP5.out
      · have h1:=bd_half n n2'
        have h2:=HB3.out;have h3:=HB5.out;have h4:=HL4.out;rw [List.length_append];omega
      · intro t ht
        rw [← HQ4.out] at ht;simp only [List.mem_append,List.mem_singleton] at ht
        rcases ht with (rfl|ht)|ht
        · exact OT.out.1
        · exact HV3.out t ht
        · exact HV5.out t ht
    case false =>
      clear HP;go_upto_region 6 with fail;obtain ⟨q,hq⟩:∃ q,(decide (0<ln.length)&&(decide (1<x)&&decide (k<8)))=q:=⟨_,rfl⟩;have HQ:=hid hq;clear hq
      go_cut [48] (fun s48 wx=>s48=.bool q∧wx=wc)
      case first =>
        by_cases l0:0<ln.length
        · have hd:decide ((0:Int)<(ln.length:Int))=true:=decide_eq_true (by omega)
          by_cases n1:1<x
          · by_cases k8:k<8
            · go_wp2_with fail
              go_meet;exact ⟨by rw [← HQ.out,decide_eq_true l0,decide_eq_true n1,decide_eq_true k8];rfl,rfl⟩
            · go_wp2_with fail
              go_meet;exact ⟨by rw [← HQ.out,decide_eq_true l0,decide_eq_true n1,decide_eq_false (by omega:¬ k<8)];rfl,rfl⟩
          · go_wp2_with fail
            go_meet;exact ⟨by rw [← HQ.out,decide_eq_true l0,decide_eq_false (by omega:¬ 1<x)];rfl,rfl⟩
        · have HE:Hid (q=false):=hid (by rw [← HQ.out,decide_eq_false l0];rfl)
          obtain rfl:ln=[]:=List.length_eq_zero_iff.1 (by omega);go_wp2_with fail;go_meet;exact ⟨by rw [HE.out],rfl⟩
      case rest =>
        obtain ⟨rfl,rfl⟩:=hcut
        cases q
        case true =>
          have hh:=HQ.out;rw [Bool.and_eq_true,decide_eq_true_eq,Bool.and_eq_true,decide_eq_true_eq] at hh;have l0:=hh.1;have n1:=hh.2.1;have n1':1<n:=by have:=HX.out;omega
          clear hh HQ;go_wp2_with fail;refine (d_below c a len cap z (ln.length:Int) _ K1.out (by omega) (by omega)).mono ?_;rintro e w2 ⟨y,y0,y1,rfl,H2,G2⟩;have K2:=hid H2;have L2:=hid (L1.out.trans G2);have z2:w.heap.size≤w2.heap.size:=L2.out.size;clear H2 G2;obtain ⟨f,rfl⟩:=Int.eq_ofNat_of_zero_le y0;have hf:f<ln.length:=by omega
          have hfa:f<la.length:=by have:=QL.out;omega
          obtain ⟨gn,on,rfl,gnl,gnc,hcn⟩:=HN.out f hf;obtain ⟨ga,oa,rfl,gal,gac,hca⟩:=HA.out f hfa;have d1:=L2.out.cell hcn (fun e=>gnc (by injection e));have d2:=L2.out.cell hca (fun e=>gac (by injection e));have hnm:=QN.out _ (List.getElem_mem hf);have har:=QA.out _ (List.getElem_mem hfa);obtain ⟨nm,hnme⟩:∃ nm,ln[f]=nm:=⟨_,rfl⟩;obtain ⟨ar,hare⟩:∃ ar,la[f]=ar:=⟨_,rfl⟩;rw [hnme] at hcn d1 hnm;rw [hare] at hca d2 har;have a0:=har.1;have a2:=har.2;have CT:=hid (callTok ar nm a0 a2 hnm);have HCN:=hid hcn;have HCA:=hid hca;have k0':(0:Int)≤(f:Int):=by omega
          have k1':(f:Int)<(ln.length:Int):=by omega
          have k2':(f:Int)<(la.length:Int):=by omega
          have hx4:Hid (x / 4=((n / 4:Nat):Int)):=hid (by rw [HX.out];rfl);clear hcn hca hnme hare har hnm y0 y1;go_wp2_with fail
          go_region_held3 (fun w'=>w'.cell? ⟨gn,on+f,none⟩=some (.string nm)∧w'.cell? ⟨ga,oa+f,none⟩=some (.int .i64 ar)) (first|go_keep|(go_split_ands;refine ⟨?_,?_⟩ <;> assumption)) (first|fail)
          all_goals
            have O2:=(World.ownsRow_lit (base:=w.heap.size) (e:=147) (size:=3) w2 #[.int .i64 7,.int .i64 ar,.string nm] 1 z2 (by decide) rfl).drew;have HO2:=hid O2;have gd:(w2.alloc (.cells #[.int .i64 7,.int .i64 ar,.string nm] 147)).grownBy (w2.alloc (.cells #[.int .i64 7,.int .i64 ar,.string nm] 147)).drew none:=⟨rfl,rfl,rfl,Nat.le_refl _,fun _ _ _=>rfl⟩;have L3:=hid (grown_new (grown_alloc L2.out (.cells #[.int .i64 7,.int .i64 ar,.string nm] 147)) gd (fun g e=>by cases e));have K3:=hid ((K2.out.alloc (.cells #[.int .i64 7,.int .i64 ar,.string nm] 147)).kept gd (fun g e=>by cases e));clear O2 gd;go_wp2_with fail
            go_loopw [14,15] (fun v i wr=>∃ (j:Nat) (l:List TokL),i=.int .i64 (j:Int)∧(j:Int)≤ar∧wr.ownsRow w.heap.size 147 3 v l.length (toksV l)∧PartC (ar.toNat - j) l∧l.length≤1+j*bdX (n / 4)∧(∀ t ∈ l,tokB t=true)∧CurAt 145 wr c a len cap z∧w.grownBy wr (some c))
              (fun _ i _=>ar.toNat - (intOf i).toNat)
            case atStart=>exact ⟨0,[⟨7,ar,nm⟩],rfl,a0,by have:=HO2.out;simpa [toksV,tokV] using this,part_head _ _ CT.out.1 CT.out.2,by simp,fun t ht=>by rw [List.mem_singleton] at ht;rw [ht];exact CT.out.1,K3.out,L3.out⟩
            case round =>
              obtain ⟨j,l,rfl,hj,hown,hpc,hbd,hval,hcur,hgr⟩:=hrel;have HO:=hid hown;have HPC:=hid hpc;have HBD:=hid hbd;have HVAL:=hid hval;have KR:=hid hcur;have LR:=hid hgr;have zr:w.heap.size≤wr.heap.size:=hgr.size;have e2:=hgr.cell HCA.out (fun e=>gac (by injection e))
              have hll : l.length ≤ 500 := by have h1 : bdX (n / 4) ≤ 100 := by unfold bdX; omega
                                              have h2:j≤2:=by omega
                                              have h3:j*bdX (n / 4)≤2*100:=Nat.mul_le_mul h2 h1;omega
              clear hown hpc hbd hval hcur hgr
              by_cases hlt:(j:Int)<ar
              · have HN4:=HN.out.grown LR.out
                have HA4:=HA.out.grown LR.out;have HV4:=HV.out.grown LR.out;have HN4':=hid HN4;have HA4':=hid HA4;have HV4':=hid HV4;clear HN4 HA4 HV4;go_wp2_with fail;refine (IH.out (n / 4) (by omega) (by omega) _ _ hx4.out KR.out HV4'.out HN4'.out HA4'.out).mono ?_;rintro e w5 ⟨v5,l5,rfl,O5,P5,B5,V5,H5,G5⟩;obtain ⟨g5,c5,rfl,gb5,gl5,gc5⟩:=own_form O5 (part_pos _ P5);have hown:=owns_far HO.out G5 hcw;have K5:=hid H5;have L5:=hid (LR.out.trans G5);have z5:w.heap.size≤w5.heap.size:=L5.out.size;have hb5:l5.length≤200:=by unfold bdX at B5;omega
                have h63:l.length+l5.length≤maxLen:=by unfold maxLen;omega
                have hby:(l.length+l5.length)*32≤140737488355328:=by omega
                have HP5:=hid P5;have HB5:=hid B5;have HV5:=hid V5;have GC5:=hid gc5;clear H5 G5 O5 P5 B5 V5 gc5 e2;go_wp2_with (at_builtin;refine wpList_append_own _ rfl _ _ 85 rfl w.heap.size 147 i0 _ 3 32 Tryz.underlying85 hi hz0 hz1 hz2 rfl (by decide) _ _ _ rfl hown ⟨g5,0,none⟩ l5.length c5 (toksV l5) rfl (toksV_length l5) GC5.out (toksV_one' l5) h63 hby z5 ?_)
                intro v6 w6 hown6 hg6 _;have HO6:=hid (owns_toks (l:=l++l5) hown6 (by rw [toksV_append]));have L6:=hid (grown_new L5.out hg6 (fun g e=>(hown.lt g e).1));have K6:=hid (K5.out.kept hg6 (fun g e=>by have:=(hown.lt g e).1;omega));clear hown6 hg6 hown GC5;go_wp2;go_roundw
                case rel =>
                  refine ⟨j+1,l++l5,by go_num,by omega,HO6.out,?_,?_,?_,K6.out,L6.out⟩
                  · have:=HPC.out
                    rw [show ar.toNat - j=(ar.toNat - (j+1))+1 from by omega] at this;exact part_app this HP5.out
                  · have h1:=HBD.out
                    have h2:=HB5.out;rw [List.length_append,Nat.add_mul,Nat.one_mul];omega
                  · intro t ht
                    rcases List.mem_append.1 ht with ht|ht
                    · exact HVAL.out t ht
                    · exact HV5.out t ht
                case measure=>simp [intOf];omega
              · have hja:(j:Int)=ar:=by omega
                have HJ:=hid hja;clear hja;go_wp2;go_ret;refine ⟨_,l,rfl,HO.out,?_,?_,HVAL.out,KR.out,LR.out⟩
                · have:=HPC.out
                  rw [show ar.toNat - j=0 from by have:=HJ.out;omega] at this;exact this
                · have h1:=HBD.out
                  have h2:=bd_quarter n n1';have h3:j*bdX (n / 4)≤2*bdX (n / 4):=Nat.mul_le_mul_right _ (by have:=HJ.out;omega);omega
        case false =>
          clear HQ;go_upto_region 14 with fail
          go_cut [92] (fun s92 wx=>∃ b:Bool,s92=.bool b∧(b=true→0<lv.length)∧CurAt 145 wx c a len cap z∧w.grownBy wx (some c))
          case first =>
            by_cases l0:0<lv.length
            · have hd:decide ((0:Int)<(lv.length:Int))=true:=decide_eq_true (by omega)
              go_wp2_with fail;refine (d_once c a len cap z 2 _ K1.out (by omega) (by omega)).mono ?_;rintro e w2 ⟨t,rfl,H2,G2⟩;have K2:=hid H2;have L2:=hid (L1.out.trans G2);clear H2 G2;go_wp2_with fail;go_meet;exact ⟨t,rfl,fun _=>l0,K2.out,L2.out⟩
            · obtain rfl:lv=[]:=List.length_eq_zero_iff.1 (by omega)
              go_wp2_with fail;go_meet;exact ⟨false,rfl,(fun h=>by cases h),K1.out,L1.out⟩
          case rest =>
            obtain ⟨b,rfl,hb0,hcur,hgr⟩:=hcut;have KB:=hid hcur;have LB:=hid hgr;have zb:w.heap.size≤wc.heap.size:=hgr.size;clear hcur hgr
            cases b
            case true =>
              have l0:=hb0 rfl;clear hb0;go_wp2_with fail;refine (d_below c a len cap z (lv.length:Int) _ KB.out (by omega) (by omega)).mono ?_;rintro e w2 ⟨y,y0,y1,rfl,H2,G2⟩;have K2:=hid H2;have L2:=hid (LB.out.trans G2);have z2:w.heap.size≤w2.heap.size:=L2.out.size;clear H2 G2;obtain ⟨f,rfl⟩:=Int.eq_ofNat_of_zero_le y0;have hf:f<lv.length:=by omega
              obtain ⟨gn,on,rfl,gnl,gnc,hcn⟩:=HV.out f hf;have d1:=L2.out.cell hcn (fun e=>gnc (by injection e));have hnm:=QV.out _ (List.getElem_mem hf);obtain ⟨nm,hnme⟩:∃ nm,lv[f]=nm:=⟨_,rfl⟩;rw [hnme] at hcn d1 hnm;have VT:=hid (varTok nm hnm);have k0':(0:Int)≤(f:Int):=by omega
              have k1':(f:Int)<(lv.length:Int):=by omega
              have HO2:=hid (World.ownsRow_lit (base:=w.heap.size) (e:=147) (size:=3) w2 #[.int .i64 1,.int .i64 0,.string nm] 1 z2 (by decide) rfl);clear hcn hnme hnm y0 y1;go_wp2;go_ret;refine ⟨_,[⟨1,0,nm⟩],rfl,by have:=HO2.out;simpa [toksV,tokV] using this,part_head _ 0 VT.out.1 VT.out.2,bd_pos n,fun t ht=>by rw [List.mem_singleton] at ht;rw [ht];exact VT.out.1,K2.out.alloc _,grown_alloc L2.out _⟩
            case false =>
              clear hb0;go_wp2_with fail;refine (d_pickint c a len cap z wc.heap.size 6 [0,1,2,3,10,999] 0 999 _ (KB.out.alloc _) rfl (by omega) (by omega) (heap_alloc_new wc _) (by have:=KB.out.lt;omega) (by decide)).mono ?_;rintro e w2 ⟨y,y0,y1,rfl,H2,G2⟩;have K2:=hid H2;have L2:=hid ((grown_alloc LB.out _).trans G2);have z2:w.heap.size≤w2.heap.size:=L2.out.size;clear H2 G2;have NT:=hid (numTok y y0 y1);have HO2:=hid (World.ownsRow_lit (base:=w.heap.size) (e:=147) (size:=3) w2 #[.int .i64 0,.int .i64 y,.string ⟨#[]⟩] 1 z2 (by decide) rfl);go_wp2;go_ret;refine ⟨_,[⟨0,y,⟨#[]⟩⟩],rfl,by have:=HO2.out;simpa [toksV,tokV] using this,part_head _ 0 NT.out.1 NT.out.2,bd_pos n,fun t ht=>by rw [List.mem_singleton] at ht;rw [ht];exact NT.out.1,K2.out.alloc _,grown_alloc L2.out _⟩
end Go.Proofs.YtcflojdkaddemaaGreatDoor

namespace Go.Proofs.YtcflojdkaddemaaGreatDoor
open Go.RowKit Go.Lib
def GenOk (lv ln:List ByteArray) (la:List Int):Prop:=(∀ s ∈ lv,nameB s=true)∧(∀ s ∈ ln,nameB s=true)∧(∀ x ∈ la,0≤x∧x≤2)∧la.length=ln.length∧lv.length≤100∧ln.length≤100
set_option maxHeartbeats 1000000 in
theorem g_expr (c:Nat) (a:Option Addr) (len cap:Nat) (z:List Int) (lv ln:List ByteArray) (la:List Int) (va na aa:Option Addr) (vc nc ac:Nat) (hok:GenOk lv ln la) (g:Nat) (n:Nat) (hn:n≤100) (x:Int) (hx:x=(n:Int)) (w:World)
  (hc:CurAt 145 w c a len cap z) (hg:GenAt 189 c w g va na aa lv ln la vc nc ac) :
  Calls Tryz.prog 154 #[.pointer (some ⟨g,0,none⟩),.int .i64 x] w (DrawX 145 147 n c a len cap z w):=by
 have gd:w.grownBy w.drew none:=⟨rfl,rfl,rfl,Nat.le_refl _,fun _ _ _=>rfl⟩;have gd':w.grownBy w.drew (some c):=⟨rfl,rfl,rfl,Nat.le_refl _,fun _ _ _=>rfl⟩;have hcd:=hc.kept gd (fun g e=>by cases e);have hgd:=hg.grown gd';have D:=hid (d_expr c a len cap z lv ln la va na aa vc nc ac hok.1 hok.2.1 hok.2.2.1 hok.2.2.2.1 hok.2.2.2.2.1 hok.2.2.2.2.2 n hn x w.drew hx hcd hgd.2.2.1 hgd.2.2.2.1 hgd.2.2.2.2);have hgc:=hg.1;obtain ⟨e0,e1,e2,e3⟩:=hg.cells;have n0:some g≠some c:=fun e=>hgc (by injection e)
 have HX:=hid hx;clear gd gd' hcd hgd hok hc hg hx
 go_enter Tryz.func154,Tryz.ntmps154
 go_wp2_with fail
 go_region_held3 (fun w'=>w'.cell? ⟨g,0,none⟩=some (.pointer (some ⟨c,0,none⟩))∧w'.cell? ⟨g,1,none⟩=some (.slice va lv.length vc)∧w'.cell? ⟨g,2,none⟩=some (.slice na ln.length nc)∧w'.cell? ⟨g,3,none⟩=some (.slice aa la.length ac))
  (first|go_keep|(go_split_ands;refine ⟨G5.cell ?_ n0,G5.cell ?_ n0,G5.cell ?_ n0,G5.cell ?_ n0⟩ <;> assumption))
  (first|(go_at_call 189;refine D.out.mono ?_;rintro e w5 ⟨v5,l5,rfl,O5,P5,B5,V5,H5,G5⟩))
 all_goals
  have R:=hid (show w5.ownsRow w.heap.size 147 3 v5 l5.length (toksV l5) from O5);have G:=hid (show w.grownBy w5 (some c) from ⟨G5.os,G5.tape,G5.output,G5.size,G5.block⟩);clear O5 G5;go_wp2;go_ret;exact ⟨v5,l5,rfl,R.out,P5,B5,V5,H5,G.out⟩
end Go.Proofs.YtcflojdkaddemaaGreatDoor
