/- Parts of the proof. -/
import Derived.Test.YtcflojdkaddemaaGreatDoorRows
import Derived.Test.YtcflojdkaddemaaGreatDoorI05
import Derived.Outline
import Derived.Lib.Hide
import Derived.Deep.QuietTactic
import Derived.BigQuiet
import Derived.Deep.RegionHeld3
import Derived.Deep.Cut
import Derived.FnLit
import Derived.WalkSpells
import Derived.Lib.SliceRun
import Derived.Deep.DeepCutAuto
namespace Go.Proofs.YtcflojdkaddemaaGreatDoor
open Go.RowKit Go.Lib
set_option maxHeartbeats 400000 in
theorem s_opens (k:Int) (w:World):Calls Tryz.prog 111 #[.int .i64 k] w fun e w'=>e=.returned (.bool (isOp k))∧w=w':=by
 by_cases h0:k=0
 ·subst h0
  go_enter Tryz.func111,Tryz.ntmps111
  go_wp2;go_ret;exact ⟨ret_b rfl,rfl⟩
 by_cases h3:k=3
 ·subst h3
  go_enter Tryz.func111,Tryz.ntmps111
  go_wp2;go_ret;exact ⟨ret_b rfl,rfl⟩
 have a0:(k == 0)=false:=by simpa using h0
 have a3:(k == 3)=false:=by simpa using h3
 by_cases h5:k=5
 ·subst h5
  go_enter Tryz.func111,Tryz.ntmps111
  go_wp2;go_ret;exact ⟨ret_b rfl,rfl⟩
 have a5:(k == 5)=false:=by simpa using h5
 have HV:Hid (isOp k=false):=hid (by unfold isOp;rw [a0,a3,a5];rfl);clear h0 h3 h5
 go_enter Tryz.func111,Tryz.ntmps111
 go_wp2;go_ret;exact ⟨ret_b HV.out.symm,rfl⟩
theorem int_nat (k:Int) (n:Nat) (h0:0≤k) (h1:k<(n:Int)):∃ j:Nat,k=(j:Int)∧j<n:=⟨k.toNat,by omega,by omega⟩
theorem beZ_neg (p:List PLine) (k:Int) (h:k<0):beZ p k=-1:=beZ_not p k (fun hc=>by omega)
theorem beZ_big (p:List PLine) (k:Int) (h:(p.length:Int)≤k):beZ p k=-1:=beZ_not p k (fun hc=>by omega)
theorem beZ_no (p:List PLine) (k:Nat) (hl:k<p.length) (h:isOp p[k].kind=false):beZ p (k:Int)=-1:=beZ_not p k (fun hc=>by
 have:=hc.2.2
 rw [lkZ_at p k hl,h] at this
 cases this)
theorem beZ_from (p:List PLine) (k:Nat) (hl:k<p.length) (h:isOp p[k].kind=true):beZ p (k:Int)=endF 0 k (p.drop k):=by
 unfold beZ;rw [if_pos ⟨by omega,by simpa using hl,by rw [lkZ_at p k hl];exact h⟩,Int.toNat_natCast]
theorem pl_kind (X:List LnL) (j:Nat) (h:j<X.length) (h':j<(plL X).length):(plL X)[j].kind=X[j].kind:=by rw [plL_get X j h];rfl
set_option maxRecDepth 100000 in
set_option maxHeartbeats 2000000 in
theorem s_endOf (a:Option Addr) (cap:Nat) (X:List LnL) (k:Int) (w:World) (hl:X.length≤2000000) (hr:ReadL 9 147 w a X) :
  Calls Tryz.prog 53 #[.slice a X.length cap,.int .i64 k] w fun e w'=>e=.returned (.int .i64 (beZ (plL X) k))∧Below w.heap.size w w':=by
 have HR:=hid hr;have hpl:=plL_length X;clear hr
 by_cases hneg:k<0
 ·have HV:=hid (beZ_neg (plL X) k hneg)
  have hd:decide (k<0)=true:=decide_eq_true hneg;clear hpl
  go_enter Tryz.func53,Tryz.ntmps53
  go_wp2;go_ret;exact ⟨by rw [HV.out];rfl,Below.refl _ _⟩
 by_cases hbig:(X.length:Int)≤k
 ·have HV:=hid (beZ_big (plL X) k (by rw [hpl];exact hbig))
  have hd:decide (k<0)=false:=decide_eq_false hneg;have hd2:decide ((X.length:Int)≤k)=true:=decide_eq_true hbig;clear hpl
  go_enter Tryz.func53,Tryz.ntmps53
  go_wp2;go_ret;exact ⟨by rw [HV.out];rfl,Below.refl _ _⟩
 obtain ⟨j,rfl,hj⟩:=int_nat k X.length (by omega) (by omega);have hjp:j<(plL X).length:=by omega
 obtain ⟨g,rfl,hg,⟨c0,_,_,_⟩,_⟩:=HR.out j hj;have k0:(0:Int)≤(j:Int):=by omega
 have k1:(j:Int)<(X.length:Int):=by omega
 have k2:¬ (X.length:Int)≤(j:Int):=by omega
 by_cases hop:isOp X[j].kind=true
 ·have HV:Hid (beZ (plL X) (j:Int)=endF 0 j ((plL X).drop j)):=hid (beZ_from (plL X) j hjp (by rw [pl_kind X j hj];exact hop))
  have HOP:Hid (∀ W,Calls Tryz.prog 111 #[.int .i64 X[j].kind] W fun e w'=>e=.returned (.bool true)∧W=w'):=hid (fun W=>hop▸s_opens X[j].kind W);obtain ⟨kd,hkd⟩:∃ kd,X[j].kind=kd:=⟨_,rfl⟩;rw [hkd] at c0 HOP;clear hkd hop hneg hbig
  go_enter Tryz.func53,Tryz.ntmps53
  go_wp2_with (first|(go_at_call 111;refine (HOP.out _).mono ?_;rintro e w' ⟨rfl,rfl⟩))
  clear c0 HOP
  go_loopw [5,6] (fun o i wr=>∃ (q:Nat) (z:Int),j≤q∧q≤X.length∧i=.int .i64 (q:Int)∧o=.int .i64 z∧-(q:Int)≤z∧z≤(q:Int)∧Hid (endF z q ((plL X).drop q)=endF 0 j ((plL X).drop j))∧Below w.heap.size w wr) (fun _ i _=>X.length - (RowKit.intOf i).toNat)
  case atStart=>exact ⟨j,0,Nat.le_refl _,by omega,rfl,rfl,by omega,by omega,hid rfl,Below.refl _ _⟩
  case round =>
   obtain ⟨q,z,hjq,hq,rfl,rfl,hz1,hz2,HE,hbel⟩:=hrel;have HB:=hid hbel
   by_cases hlt:q<X.length
   ·obtain ⟨g',hga,hg',⟨c0,_,_,_⟩,_⟩:=(HR.out.below hbel) q hlt
    injection hga with hga
    injection hga with hga
    subst hga;have hqp:q<(plL X).length:=by omega
    have HN:=hid (endF_at (plL X) z q hqp);rw [pl_kind X q hlt] at HN;have HOP:=hid (fun W=>s_opens X[q].kind W);have HC:=hid (opn_cases X[q].kind);obtain ⟨kd,hkd⟩:∃ kd,X[q].kind=kd:=⟨_,rfl⟩;rw [hkd] at c0 HN HOP HC;have k3:(0:Int)≤(q:Int):=by omega
    have k4:(q:Int)<(X.length:Int):=by omega
    clear hkd hbel
    rcases HC.out with ⟨h1,h2⟩|⟨h1,h2⟩|⟨h1,h2,h3⟩
    ·rw [h1] at HN
     rw [h2] at HOP;have h7:(kd == 7)=false:=by
      cases hb:kd == 7 with
      | false=>rfl
      | true=>rw [eq_of_beq hb] at h2;exact absurd h2 (by decide)
     clear h1 h2 HC
     by_cases h0:z+1=0
     ·have HN':=hid (HN.out.symm.trans HE.out)
      rw [if_pos h0] at HN';have hz:z=-1:=by omega
      subst hz;clear h0;go_wp2_with (first|(go_at_call 111;refine (HOP.out _).mono ?_;rintro e w' ⟨rfl,rfl⟩))
      go_ret;exact ⟨by rw [HV.out,← HN'.out];rfl,HB.out⟩
     ·have HN':=hid (HN.out.symm.trans HE.out)
      rw [if_neg h0] at HN';have hd:(z+1 == 0)=false:=by simpa using h0
      clear h0;go_wp2_with (first|(go_at_call 111;refine (HOP.out _).mono ?_;rintro e w' ⟨rfl,rfl⟩))
      go_roundw
      case rel=>exact ⟨q+1,z+1,by omega,by omega,by go_num,by go_num,by omega,by omega,HN',HB.out⟩
      case measure=>simp [RowKit.intOf];omega
    ·subst h2
     rw [h1] at HN;have HOP2:Hid (∀ W,Calls Tryz.prog 111 #[.int .i64 7] W fun e w'=>e=.returned (.bool false)∧W=w'):=hid (fun W=>s_opens 7 W);clear h1 HC HOP
     by_cases h0:z+-1=0
     ·have HN':=hid (HN.out.symm.trans HE.out)
      rw [if_pos h0] at HN';have hz:z=1:=by omega
      subst hz;clear h0;go_wp2_with (first|(go_at_call 111;refine (HOP2.out _).mono ?_;rintro e w' ⟨rfl,rfl⟩))
      go_ret;exact ⟨by rw [HV.out,← HN'.out];rfl,HB.out⟩
     ·have HN':=hid (HN.out.symm.trans HE.out)
      rw [if_neg h0] at HN';have hd:(z - 1 == 0)=false:=by simp;omega
      clear h0;go_wp2_with (first|(go_at_call 111;refine (HOP2.out _).mono ?_;rintro e w' ⟨rfl,rfl⟩))
      go_roundw
      case rel=>exact ⟨q+1,z+-1,by omega,by omega,by go_num,by go_num,by omega,by omega,HN',HB.out⟩
      case measure=>simp [RowKit.intOf];omega
    ·rw [h1,Int.add_zero] at HN
     rw [h2] at HOP;have h7:(kd == 7)=false:=by simpa using h3
     clear h1 h2 h3 HC
     by_cases h0:z=0
     ·have HN':=hid (HN.out.symm.trans HE.out)
      rw [if_pos h0] at HN';subst h0;go_wp2_with (first|(go_at_call 111;refine (HOP.out _).mono ?_;rintro e w' ⟨rfl,rfl⟩))
      go_ret;exact ⟨by rw [HV.out,← HN'.out];rfl,HB.out⟩
     ·have HN':=hid (HN.out.symm.trans HE.out)
      rw [if_neg h0] at HN';have hd:(z == 0)=false:=by simpa using h0
      clear h0;go_wp2_with (first|(go_at_call 111;refine (HOP.out _).mono ?_;rintro e w' ⟨rfl,rfl⟩))
      go_roundw
      case rel=>exact ⟨q+1,z,by omega,by omega,by go_num,by go_num,by omega,by omega,HN',HB.out⟩
      case measure=>simp [RowKit.intOf];omega
   ·have hqq:q=X.length:=by omega
    subst hqq;have HN':Hid (-1=endF 0 j ((plL X).drop j)):=hid (by rw [← HE.out,endF_out _ _ _ (by omega)]);clear hbel;go_wp2;go_ret;exact ⟨by rw [HV.out,← HN'.out];rfl,HB.out⟩
 ·have hop':isOp X[j].kind=false:=by simpa using hop
  have HV:Hid (beZ (plL X) (j:Int)=-1):=hid (beZ_no (plL X) j hjp (by rw [pl_kind X j hj];exact hop'));have HOP:Hid (∀ W,Calls Tryz.prog 111 #[.int .i64 X[j].kind] W fun e w'=>e=.returned (.bool false)∧W=w'):=hid (fun W=>hop'▸s_opens X[j].kind W);obtain ⟨kd,hkd⟩:∃ kd,X[j].kind=kd:=⟨_,rfl⟩;rw [hkd] at c0 HOP;clear hkd hop hop' hneg hbig hpl
  go_enter Tryz.func53,Tryz.ntmps53
  go_wp2_with (first|(go_at_call 111;refine (HOP.out _).mono ?_;rintro e w' ⟨rfl,rfl⟩))
  go_ret;exact ⟨by rw [HV.out];rfl,Below.refl _ _⟩
end Go.Proofs.YtcflojdkaddemaaGreatDoor

namespace Go.Proofs.YtcflojdkaddemaaGreatDoor
open Go.RowKit Go.Lib
def ixI (l:List Int) (x:Int):Int:=match l.findIdx? (fun y=>y == x) with
 | some j=>(j:Int)
 | none=>-1
theorem ixI_at (l:List Int) (x:Int) (j:Nat) (h:j<l.length) (hj:l[j]=x) (hno:∀ i,∀ h:i<j,l[i]≠x):ixI l x=(j:Int):=by
 unfold ixI
 have:l.findIdx? (fun y=>y == x)=some j:=by
  rw [List.findIdx?_eq_some_iff_getElem];exact ⟨h,by simpa using hj,fun i hi=>by simpa using hno i hi⟩
 rw [this]
theorem ixI_none (l:List Int) (x:Int) (h:x ∉ l):ixI l x=-1:=by
 unfold ixI
 have:l.findIdx? (fun y=>y == x)=none:=by
  rw [List.findIdx?_eq_none_iff];intro y hy
  have:y≠x:=fun e=>h (e▸hy)
  simpa using this
 rw [this]
def memI (l:List Int) (x:Int):Bool:=l.contains x
theorem ixI_mem (l:List Int) (x:Int):decide (0≤ixI l x)=memI l x:=by
 unfold ixI memI
 cases h:l.findIdx? (fun y=>y == x) with
 | some j =>
  simp only;rw [decide_eq_true (by omega)];obtain ⟨hj,hx,_⟩:=List.findIdx?_eq_some_iff_getElem.1 h
  have:x ∈ l:=by
   have:=List.getElem_mem hj
   rw [eq_of_beq hx] at this;exact this
  exact (List.contains_iff_mem.2 this).symm
 | none =>
  simp only;rw [List.findIdx?_eq_none_iff] at h
  cases hc:l.contains x with
  | false=>rfl
  | true =>
   have:=h x (List.contains_iff_mem.1 hc)
   simp at this
set_option maxHeartbeats 1000000 in
theorem x_indexI (a:Option Addr) (c:Nat) (l:List Int) (x:Int) (w:World) (hr:ReadI w a l) (hl:l.length≤2000000) :
  Calls Tryz.prog 199 #[.slice a l.length c,.int .i64 x] w fun e w'=>e=.returned (.int .i64 (ixI l x))∧Below w.heap.size w w':=by
 have HR:=hid hr;clear hr
 go_enter Tryz.func199,Tryz.ntmps199
 go_wp2_with fail
 go_loopw [5,8] (fun _ i wr=>∃ k:Nat,k≤l.length∧i=.int .i64 (k:Int)∧Hid (∀ j,∀ h:j<l.length,j<k→l[j]≠x)∧Below w.heap.size w wr) (fun _ i _=>l.length - (RowKit.intOf i).toNat)
 case atStart=>exact ⟨0,Nat.zero_le _,rfl,hid (fun j _ hj=>by omega),Below.refl _ _⟩
 case round =>
  obtain ⟨k,hk,rfl,HNO,hbel⟩:=hrel;have HB:=hid hbel
  by_cases hlt:k<l.length
  ·obtain ⟨g,rfl,hg,c0⟩:=(HR.out.below hbel) k hlt
   have k0:(0:Int)≤(k:Int):=by omega
   have k1:(k:Int)<(l.length:Int):=by omega
   clear hbel
   by_cases hx:l[k]=x
   ·have HV:=hid (ixI_at l x k hlt hx (fun i hi=>HNO.out i (by omega) hi))
    rw [hx] at c0;have hd:(x == x)=true:=by simp
    clear hx;go_wp2;go_ret;exact ⟨by rw [HV.out];rfl,HB.out⟩
   ·have HNN:Hid (∀ j,∀ h:j<l.length,j<k+1→l[j]≠x):=hid (fun j h hj=>by
     by_cases hjk:j=k
     ·subst hjk;exact hx
     ·exact HNO.out j h (by omega))
    have hd:(x == l[k])=false:=by simpa using fun e=>hx e.symm
    obtain ⟨y,hy⟩:∃ y,l[k]=y:=⟨_,rfl⟩;rw [hy] at c0 hd;clear hy hx HNO;go_wp2;go_roundw
    case rel=>exact ⟨k+1,by omega,by go_num,HNN,HB.out⟩
    case measure=>simp [RowKit.intOf];omega
  ·have hkk:k=l.length:=by omega
   have HV:=hid (ixI_none l x (fun hm=>by
    obtain ⟨j,hj,e⟩:=List.mem_iff_getElem.1 hm;exact HNO.out j hj (by omega) e))
   subst hkk;clear hbel hlt;go_wp2;go_ret;exact ⟨by rw [HV.out];rfl,HB.out⟩
theorem x_containsI (a:Option Addr) (c:Nat) (l:List Int) (x:Int) (w:World) (hr:ReadI w a l) (hl:l.length≤2000000) :
  Calls Tryz.prog 169 #[.slice a l.length c,.int .i64 x] w fun e w'=>e=.returned (.bool (memI l x))∧Below w.heap.size w w':=by
 have HC:=hid (x_indexI a c l x w hr hl);have HM:=hid (ixI_mem l x);clear hr
 go_enter Tryz.func169,Tryz.ntmps169
 go_wp2_with fail;refine HC.out.mono ?_;rintro e w1 ⟨rfl,b1⟩;have HB:=hid b1;clear b1;generalize ixI l x=r at *;go_wp2;go_ret;exact ⟨ret_b HM.out,HB.out⟩
theorem i_opened (k:Int) (nm:ByteArray) (va ve:Value) (w:World):Calls Tryz.prog 164 #[.agg #[.int .i64 k,.string nm,va,ve]] w fun e w'=>e=.returned (.int .i64 (opn k))∧Below w.heap.size w w':=by
 have X0:=heap_alloc_new w (.cells #[.int .i64 k,.string nm,va,ve] 87);have e0:(w.alloc (.cells #[.int .i64 k,.string nm,va,ve] 87)).cell? ⟨w.heap.size,0,none⟩=some (.int .i64 k):=(blk X0).1 0 _ rfl;have HB:Hid (Below w.heap.size w (w.alloc (.cells #[.int .i64 k,.string nm,va,ve] 87))):=hid ((Below.refl _ _).alloc (Nat.le_refl _) _);clear X0
 by_cases h0:k=0
 ·subst h0
  go_enter Tryz.func164,Tryz.ntmps164
  go_wp2;go_ret;exact ⟨rfl,HB.out⟩
 by_cases h3:k=3
 ·subst h3
  go_enter Tryz.func164,Tryz.ntmps164
  go_wp2;go_ret;exact ⟨rfl,HB.out⟩
 by_cases h5:k=5
 ·subst h5
  go_enter Tryz.func164,Tryz.ntmps164
  go_wp2;go_ret;exact ⟨rfl,HB.out⟩
 by_cases h7:k=7
 ·subst h7
  go_enter Tryz.func164,Tryz.ntmps164
  go_wp2;go_ret;exact ⟨rfl,HB.out⟩
 have a0:(k == 0)=false:=by simpa using h0
 have a3:(k == 3)=false:=by simpa using h3
 have a5:(k == 5)=false:=by simpa using h5
 have a7:(k == 7)=false:=by simpa using h7
 have HV:Hid (opn k=0):=hid (by unfold opn isOp;rw [a0,a3,a5];simp [h7]);clear h0 h3 h5 h7
 go_enter Tryz.func164,Tryz.ntmps164
 go_wp2;go_ret;exact ⟨by rw [HV.out];rfl,HB.out⟩
end Go.Proofs.YtcflojdkaddemaaGreatDoor

namespace Go.Proofs.YtcflojdkaddemaaGreatDoor
open Go.RowKit Go.Lib
def ixS (l:List ByteArray) (x:ByteArray):Int:=match l.findIdx? (fun y=>decide (y=x)) with
 | some j=>(j:Int)
 | none=>-1
theorem ixS_at (l:List ByteArray) (x:ByteArray) (j:Nat) (h:j<l.length) (hj:l[j]=x) (hno:∀ i,∀ h:i<j,l[i]≠x):ixS l x=(j:Int):=by
 unfold ixS
 have:l.findIdx? (fun y=>decide (y=x))=some j:=by
  rw [List.findIdx?_eq_some_iff_getElem];exact ⟨h,decide_eq_true hj,fun i hi=>by simpa using hno i hi⟩
 rw [this]
theorem ixS_none (l:List ByteArray) (x:ByteArray) (h:x ∉ l):ixS l x=-1:=by
 unfold ixS
 have:l.findIdx? (fun y=>decide (y=x))=none:=by
  rw [List.findIdx?_eq_none_iff];intro y hy
  have:y≠x:=fun e=>h (e▸hy)
  exact decide_eq_false this
 rw [this]
theorem ixS_mem (l:List ByteArray) (x:ByteArray):decide (0≤ixS l x)=memB l x:=by
 by_cases h:x ∈ l
 ·rw [(memB_iff l x).2 h]
  unfold ixS
  cases hf:l.findIdx? (fun y=>decide (y=x)) with
  | some j=>exact decide_eq_true (by simp only;omega)
  | none =>
   rw [List.findIdx?_eq_none_iff] at hf
   have:=hf x h
   simp at this
 ·rw [memB_no l x h,ixS_none l x h]
  rfl
theorem ixS_lt (l:List ByteArray) (x:ByteArray):decide (ixS l x<0)=!memB l x:=by
 rw [← ixS_mem]
 by_cases h:0≤ixS l x
 ·rw [decide_eq_true h,decide_eq_false (by omega)];rfl
 ·rw [decide_eq_false h,decide_eq_true (by omega)];rfl
set_option maxHeartbeats 1000000 in
theorem s_l04Index (a:Option Addr) (c:Nat) (l:List ByteArray) (x:ByteArray) (w:World) (hr:ReadS w a l) (hl:l.length≤3000000) :
  Calls Tryz.prog 114 #[.slice a l.length c,.string x] w fun e w'=>e=.returned (.int .i64 (ixS l x))∧Below w.heap.size w w':=by
 have HR:=hid hr;clear hr
 go_enter Tryz.func114,Tryz.ntmps114
 go_wp2_with fail
 go_loopw [5] (fun i wr=>∃ k:Nat,k≤l.length∧i=.int .i64 (k:Int)∧Hid (∀ j,∀ h:j<l.length,j<k→l[j]≠x)∧Below w.heap.size w wr) (fun i _=>l.length - (RowKit.intOf i).toNat)
 case atStart=>exact ⟨0,Nat.zero_le _,rfl,hid (fun j _ hj=>by omega),Below.refl _ _⟩
 case round =>
  obtain ⟨k,hk,rfl,HNO,hbel⟩:=hrel;have HB:=hid hbel
  by_cases hlt:k<l.length
  ·obtain ⟨g,rfl,c0⟩:=(HR.out.below hbel) k hlt
   have k0:(0:Int)≤(k:Int):=by omega
   have k1:(k:Int)<(l.length:Int):=by omega
   clear hbel
   by_cases hx:l[k]=x
   ·have HV:=hid (ixS_at l x k hlt hx (fun i hi=>HNO.out i (by omega) hi))
    rw [hx] at c0;clear hx;go_wp2;go_ret;exact ⟨by rw [HV.out];rfl,HB.out⟩
   ·have HNN:Hid (∀ j,∀ h:j<l.length,j<k+1→l[j]≠x):=hid (fun j h hj=>by
     by_cases hjk:j=k
     ·subst hjk;exact hx
     ·exact HNO.out j h (by omega))
    have hd:=str_ne _ _ hx;obtain ⟨y,hy⟩:∃ y,l[k]=y:=⟨_,rfl⟩;rw [hy] at c0 hd;clear hy hx HNO;go_wp2;go_roundw
    case rel=>exact ⟨k+1,by omega,by go_num,HNN,HB.out⟩
    case measure=>simp [RowKit.intOf];omega
  ·have hkk:k=l.length:=by omega
   have HV:=hid (ixS_none l x (fun hm=>by
    obtain ⟨j,hj,e⟩:=List.mem_iff_getElem.1 hm;exact HNO.out j hj (by omega) e))
   subst hkk;clear hbel hlt;go_wp2;go_ret;exact ⟨by rw [HV.out];rfl,HB.out⟩
set_option maxHeartbeats 1000000 in
theorem x_indexS (a:Option Addr) (c:Nat) (l:List ByteArray) (x:ByteArray) (w:World) (hr:ReadS w a l) (hl:l.length≤3000000) :
  Calls Tryz.prog 212 #[.slice a l.length c,.string x] w fun e w'=>e=.returned (.int .i64 (ixS l x))∧Below w.heap.size w w':=by
 have HR:=hid hr;clear hr
 go_enter Tryz.func212,Tryz.ntmps212
 go_wp2_with fail
 go_loopw [5,8] (fun _ i wr=>∃ k:Nat,k≤l.length∧i=.int .i64 (k:Int)∧Hid (∀ j,∀ h:j<l.length,j<k→l[j]≠x)∧Below w.heap.size w wr) (fun _ i _=>l.length - (RowKit.intOf i).toNat)
 case atStart=>exact ⟨0,Nat.zero_le _,rfl,hid (fun j _ hj=>by omega),Below.refl _ _⟩
 case round =>
  obtain ⟨k,hk,rfl,HNO,hbel⟩:=hrel;have HB:=hid hbel
  by_cases hlt:k<l.length
  ·obtain ⟨g,rfl,c0⟩:=(HR.out.below hbel) k hlt
   have k0:(0:Int)≤(k:Int):=by omega
   have k1:(k:Int)<(l.length:Int):=by omega
   clear hbel
   by_cases hx:l[k]=x
   ·have HV:=hid (ixS_at l x k hlt hx (fun i hi=>HNO.out i (by omega) hi))
    rw [hx] at c0;clear hx;go_wp2;go_ret;exact ⟨by rw [HV.out];rfl,HB.out⟩
   ·have HNN:Hid (∀ j,∀ h:j<l.length,j<k+1→l[j]≠x):=hid (fun j h hj=>by
     by_cases hjk:j=k
     ·subst hjk;exact hx
     ·exact HNO.out j h (by omega))
    have hd:=str_ne x l[k] (fun e=>hx e.symm);obtain ⟨y,hy⟩:∃ y,l[k]=y:=⟨_,rfl⟩;rw [hy] at c0 hd;clear hy hx HNO;go_wp2;go_roundw
    case rel=>exact ⟨k+1,by omega,by go_num,HNN,HB.out⟩
    case measure=>simp [RowKit.intOf];omega
  ·have hkk:k=l.length:=by omega
   have HV:=hid (ixS_none l x (fun hm=>by
    obtain ⟨j,hj,e⟩:=List.mem_iff_getElem.1 hm;exact HNO.out j hj (by omega) e))
   subst hkk;clear hbel hlt;go_wp2;go_ret;exact ⟨by rw [HV.out];rfl,HB.out⟩
theorem x_containsS (a:Option Addr) (c:Nat) (l:List ByteArray) (x:ByteArray) (w:World) (hr:ReadS w a l) (hl:l.length≤3000000) :
  Calls Tryz.prog 184 #[.slice a l.length c,.string x] w fun e w'=>e=.returned (.bool (memB l x))∧Below w.heap.size w w':=by
 have HC:=hid (x_indexS a c l x w hr hl);have HM:=hid (ixS_mem l x);clear hr
 go_enter Tryz.func184,Tryz.ntmps184
 go_wp2_with fail;refine HC.out.mono ?_;rintro e w1 ⟨rfl,b1⟩;have HB:=hid b1;clear b1;generalize ixS l x=r at *;go_wp2;go_ret;exact ⟨ret_b HM.out,HB.out⟩
end Go.Proofs.YtcflojdkaddemaaGreatDoor

namespace Go.Proofs.YtcflojdkaddemaaGreatDoor
open Go.RowKit Go.Lib
theorem pl_at (X:List LnL) (j:Nat) (h:j<X.length) (h':j<(plL X).length):(plL X)[j]=X[j].p:=plL_get X j h
theorem findX_yes (X:List LnL) (n:ByteArray) (q:Nat) (h:q<X.length) (h0:X[q].kind=0) (hn:X[q].name=n):findF n q ((plL X).drop q)=(q:Int):=by
 have hq:q<(plL X).length:=by rw [plL_length];exact h
 rw [findF_at (plL X) n q hq,pl_at X q h,if_pos ⟨h0,hn⟩]
theorem findX_no (X:List LnL) (n:ByteArray) (q:Nat) (h:q<X.length) (hn:¬ (X[q].kind=0∧X[q].name=n)):findF n q ((plL X).drop q)=findF n (q+1) ((plL X).drop (q+1)):=by
 have hq:q<(plL X).length:=by rw [plL_length];exact h
 rw [findF_at (plL X) n q hq,pl_at X q h,if_neg (show ¬ (X[q].p.kind=0∧X[q].p.name=n) from hn)]
set_option maxRecDepth 100000 in
set_option maxHeartbeats 2000000 in
theorem s_findFn (a:Option Addr) (cap:Nat) (X:List LnL) (n:ByteArray) (w:World) (hl:X.length≤2000000) (hr:ReadL 9 147 w a X) :
  Calls Tryz.prog 52 #[.slice a X.length cap,.string n] w fun e w'=>e=.returned (.int .i64 (findZ (plL X) n))∧Below w.heap.size w w':=by
 have HR:=hid hr;have hpl:=plL_length X;clear hr
 go_enter Tryz.func52,Tryz.ntmps52
 go_wp2_with fail
 go_loopw [5] (fun i wr=>∃ q:Nat,q≤X.length∧i=.int .i64 (q:Int)∧Hid (findF n q ((plL X).drop q)=findZ (plL X) n)∧Below w.heap.size w wr) (fun i _=>X.length - (RowKit.intOf i).toNat)
 case atStart=>exact ⟨0,Nat.zero_le _,rfl,hid rfl,Below.refl _ _⟩
 case round =>
  obtain ⟨q,hq,rfl,HE,hbel⟩:=hrel;have HB:=hid hbel
  by_cases hlt:q<X.length
  ·obtain ⟨g,rfl,hg,⟨c0,c1,_,_⟩,_⟩:=(HR.out.below hbel) q hlt
   have HY:=hid (findX_yes X n q hlt);have HNO:=hid (findX_no X n q hlt);have k0:(0:Int)≤(q:Int):=by omega
   have k1:(q:Int)<(X.length:Int):=by omega
   generalize X[q].kind=kd at *;generalize X[q].name=nm at *;clear hbel
   by_cases hk:kd=0
   ·subst hk
    by_cases hn:nm=n
    ·subst hn
     have HN':=hid ((HY.out rfl rfl).symm.trans HE.out);clear HY HNO;go_wp2;go_ret;exact ⟨by rw [← HN'.out];rfl,HB.out⟩
    ·have HN':=hid ((HNO.out (fun h=>hn h.2)).symm.trans HE.out)
     have hd:=str_ne _ _ hn;clear HY HNO hn;go_wp2;go_roundw
     case rel=>exact ⟨q+1,by omega,by go_num,HN',HB.out⟩
     case measure=>simp [RowKit.intOf];omega
   ·have HN':=hid ((HNO.out (fun h=>hk h.1)).symm.trans HE.out)
    have hd:(kd == 0)=false:=by simpa using hk
    clear HY HNO hk;go_wp2;go_roundw
    case rel=>exact ⟨q+1,by omega,by go_num,HN',HB.out⟩
    case measure=>simp [RowKit.intOf];omega
  ·have hqq:q=X.length:=by omega
   subst hqq;have HN':Hid (-1=findZ (plL X) n):=hid (by rw [← HE.out,findF_out _ _ _ (by omega)]);clear hbel;go_wp2;go_ret;exact ⟨by rw [← HN'.out];rfl,HB.out⟩
set_option maxHeartbeats 400000 in
theorem i_findIs (k:Int) (nm n:ByteArray) (va ve:Value) (c:Nat) (w:World) (hc:w.cell? ⟨c,0,none⟩=some (.string n)) (hcl:c<w.heap.size) :
  Calls Tryz.prog 196 #[.agg #[.int .i64 k,.string nm,va,ve],.pointer (some ⟨c,0,none⟩)] w fun e w'=>e=.returned (.bool (decide (k=0)&&decide (nm=n)))∧Below w.heap.size w w':=by
 have X0:=heap_alloc_new w (.cells #[.int .i64 k,.string nm,va,ve] 87);have e0:(w.alloc (.cells #[.int .i64 k,.string nm,va,ve] 87)).cell? ⟨w.heap.size,0,none⟩=some (.int .i64 k):=(blk X0).1 0 _ rfl;have e1:(w.alloc (.cells #[.int .i64 k,.string nm,va,ve] 87)).cell? ⟨w.heap.size,1,none⟩=some (.string nm):=(blk X0).1 1 _ rfl;have HB:Hid (Below w.heap.size w (w.alloc (.cells #[.int .i64 k,.string nm,va,ve] 87))):=hid ((Below.refl _ _).alloc (Nat.le_refl _) _);have e2:(w.alloc (.cells #[.int .i64 k,.string nm,va,ve] 87)).cell? ⟨c,0,none⟩=some (.string n):=(HB.out.cell (p:=⟨c,0,none⟩) hcl).trans hc;clear X0 hc
 by_cases h0:k=0
 ·subst h0
  by_cases hn:nm=n
  ·subst hn
   go_enter Tryz.func196,Tryz.ntmps196
   go_wp2;go_ret;exact ⟨ret_b (by simp),HB.out⟩
  ·have hd:=str_ne _ _ hn
   have HV:Hid (decide (nm=n)=false):=hid (decide_eq_false hn);clear hn
   go_enter Tryz.func196,Tryz.ntmps196
   go_wp2;go_ret;exact ⟨ret_b (by rw [HV.out];rfl),HB.out⟩
 ·have hd:(k == 0)=false:=by simpa using h0
  have HV:Hid (decide (k=0)=false):=hid (decide_eq_false h0);clear h0
  go_enter Tryz.func196,Tryz.ntmps196
  go_wp2;go_ret;exact ⟨ret_b (by rw [HV.out];rfl),HB.out⟩
set_option maxRecDepth 100000 in
set_option maxHeartbeats 2000000 in
theorem i_indexFn (a:Option Addr) (cap:Nat) (X:List LnL) (n:ByteArray) (c:Nat) (w:World) (hl:X.length≤2000000) (hr:ReadL 9 147 w a X) (hc:w.cell? ⟨c,0,none⟩=some (.string n)) (hcl:c<w.heap.size) :
  Calls Tryz.prog 192 #[.slice a X.length cap,.func (.func 196) #[] #[.pointer (some ⟨c,0,none⟩)]] w fun e w'=>e=.returned (.int .i64 (findZ (plL X) n))∧Below w.heap.size w w':=by
 have HR:=hid hr;have hpl:=plL_length X;have HC:=hid (fun (W:World) (hb:Below w.heap.size w W) k nm va ve=>i_findIs k nm n va ve c W ((hb.cell (p:=⟨c,0,none⟩) hcl).trans hc) (by have:=hb.size;omega));clear hr hc
 go_enter Tryz.func192,Tryz.ntmps192
 go_wp2_with fail
 go_loopw [5,8] (fun _ i wr=>∃ q:Nat,q≤X.length∧i=.int .i64 (q:Int)∧Hid (findF n q ((plL X).drop q)=findZ (plL X) n)∧Below w.heap.size w wr) (fun _ i _=>X.length - (RowKit.intOf i).toNat)
 case atStart=>exact ⟨0,Nat.zero_le _,rfl,hid rfl,Below.refl _ _⟩
 case round =>
  obtain ⟨q,hq,rfl,HE,hbel⟩:=hrel;have HB:=hid hbel;have hB:=hbel.size
  by_cases hlt:q<X.length
  ·obtain ⟨g,rfl,hg,⟨c0,c1,c2,c3⟩,hm⟩:=(HR.out.below hbel) q hlt
   have HY:=hid (findX_yes X n q hlt);have HNO:=hid (findX_no X n q hlt);obtain ⟨xa,xb,xc,xd,ea,ee,_,_,_,_⟩:=inMem_shape hm;rw [ea] at c2;rw [ee] at c3;have HF:=hid (fun va ve=>HC.out wr hbel X[q].kind X[q].name va ve);have k0:(0:Int)≤(q:Int):=by omega
   have k1:(q:Int)<(X.length:Int):=by omega
   generalize X[q].kind=kd at *;generalize X[q].name=nm at *;generalize X[q].args.length=na at *;generalize X[q].expr.length=ne at *;clear hbel hm ea ee
   by_cases hkn:kd=0∧nm=n
   ·have HN':=hid ((HY.out hkn.1 hkn.2).symm.trans HE.out)
    rw [hkn.1,hkn.2,decide_eq_true rfl,decide_eq_true rfl] at HF;obtain ⟨rfl,rfl⟩:=hkn;clear HY HNO;go_wp2_with fail;refine (HF.out _ _).mono ?_;rintro e w1 ⟨rfl,b1⟩;have HB1:Hid (Below w.heap.size w w1):=hid (HB.out.trans (b1.mono hB));clear b1 c0 c1 c2 c3;go_wp2;go_ret;exact ⟨by rw [← HN'.out];rfl,HB1.out⟩
   ·have HN':=hid ((HNO.out hkn).symm.trans HE.out)
    have hb:(decide (kd=0)&&decide (nm=n))=false:=by
     rw [Bool.and_eq_false_iff]
     by_cases h0:kd=0
     ·exact .inr (decide_eq_false (fun e=>hkn ⟨h0,e⟩))
     ·exact .inl (decide_eq_false h0)
    rw [hb] at HF;clear HY HNO hb hkn;go_wp2_with fail;refine (HF.out _ _).mono ?_;rintro e w1 ⟨rfl,b1⟩;have HB1:Hid (Below w.heap.size w w1):=hid (HB.out.trans (b1.mono hB));clear b1 c0 c1 c2 c3;go_wp2;go_roundw
    case rel=>exact ⟨q+1,by omega,by go_num,HN',HB1.out⟩
    case measure=>simp [RowKit.intOf];omega
  ·have hqq:q=X.length:=by omega
   subst hqq;have HN':Hid (-1=findZ (plL X) n):=hid (by rw [← HE.out,findF_out _ _ _ (by omega)]);clear hbel;go_wp2;go_ret;exact ⟨by rw [← HN'.out];rfl,HB.out⟩
set_option maxHeartbeats 400000 in
theorem i_findFn (a:Option Addr) (cap:Nat) (X:List LnL) (n:ByteArray) (w:World) (hl:X.length≤2000000) (hr:ReadL 9 147 w a X) :
  Calls Tryz.prog 162 #[.slice a X.length cap,.string n] w fun e w'=>e=.returned (.int .i64 (findZ (plL X) n))∧Below w.heap.size w w':=by
 have HB0:Hid (Below w.heap.size w (w.alloc (.cells #[.string n] 9))):=hid ((Below.refl _ _).alloc (Nat.le_refl _) _);have X0:=heap_alloc_new w (.cells #[.string n] 9);have hz:(w.alloc (.cells #[.string n] 9)).heap.size=w.heap.size+1:=by simp
 have HI:=hid (i_indexFn a cap X n w.heap.size (w.alloc (.cells #[.string n] 9)) hl (hr.below HB0.out) ((blk X0).1 0 _ rfl) (by omega));clear hr X0
 go_enter Tryz.func162,Tryz.ntmps162
 go_wp2_with fail;refine HI.out.mono ?_;rintro e w1 ⟨rfl,b1⟩;have HB1:Hid (Below w.heap.size w w1):=hid (HB0.out.trans (b1.mono (by omega)));clear b1;go_wp2;go_ret;exact ⟨rfl,HB1.out⟩
end Go.Proofs.YtcflojdkaddemaaGreatDoor

namespace Go.Proofs.YtcflojdkaddemaaGreatDoor
open Go.RowKit Go.Lib
theorem infoS4:(Tryz.prog.info? 9).map (fun i=>(i.zero,i.size,i.bytes))=some (some (.string ⟨#[]⟩),1,16):=by kernel_rfl
def StrR (T B:Nat) (l:List ByteArray) (w:World) (e:Ending) (w':World):Prop :=
 ∃ v,e=.returned v∧w'.ownsRow B T 1 v l.length (strV l)∧Below w.heap.size w w'
theorem strV_all (l:List ByteArray):∀ u ∈ strV l,u.oneCell'=true:=by
 intro u hu;obtain ⟨x,_,rfl⟩:=List.mem_map.1 hu;rfl
theorem strV_len (l:List ByteArray):(strV l).length=l.length:=by simp [strV]
theorem argsZ_at (X:List LnL) (k:Nat) (h:k<X.length):argsZ (plL X) (k:Int)=X[k].args:=by
 have hq:k<(plL X).length:=by rw [plL_length];exact h
 unfold argsZ;rw [if_neg (by omega),Int.toNat_natCast,List.getElem?_eq_getElem hq];simp only;rw [pl_at X k h];rfl
theorem locZ_none (p:List PLine) (k:Int) (h:beZ p k<0):locZ p k=[]:=by unfold locZ;rw [if_neg (by omega)]
theorem locZ_other (p:List PLine) (k:Int) (h:lkZ p k≠0):locZ p k=[]:=by unfold locZ;rw [if_neg (fun hc=>h hc.2)]
theorem locZ_from (X:List LnL) (k E:Nat) (h:k<X.length) (hE:beZ (plL X) (k:Int)=(E:Int)) (h0:X[k].kind=0):locZ (plL X) (k:Int)=locF X[k].args (segZ (plL X) k E):=by
 have hq:k<(plL X).length:=by rw [plL_length];exact h
 unfold locZ;rw [hE,if_pos ⟨by omega,by rw [lkZ_at _ _ hq,pl_kind X k h];exact h0⟩,argsZ_at X k h];rfl
theorem locF_yes (X:List LnL) (P:List ByteArray) (q E:Nat) (h:q<X.length) (hE:q<E) (h1:X[q].kind=1) (hm:memB P X[q].name=false):locF P (segZ (plL X) q E)=locF (P++[X[q].name]) (segZ (plL X) (q+1) E):=by
 have hq:q<(plL X).length:=by rw [plL_length];exact h
 rw [seg_next _ q E hE hq,pl_at X q h,locF,if_pos (show X[q].p.kind=1∧memB P X[q].p.name=false from ⟨h1,hm⟩)];rfl
theorem locF_no (X:List LnL) (P:List ByteArray) (q E:Nat) (h:q<X.length) (hE:q<E) (hn:¬ (X[q].kind=1∧memB P X[q].name=false)):locF P (segZ (plL X) q E)=locF P (segZ (plL X) (q+1) E):=by
 have hq:q<(plL X).length:=by rw [plL_length];exact h
 rw [seg_next _ q E hE hq,pl_at X q h,locF,if_neg (show ¬ (X[q].p.kind=1∧memB P X[q].p.name=false) from hn)]
theorem below_app5 {B e n s:Nat} {w0 wr w1:World} {X:Obj} {v:Value} {xs:List Value} (hown:wr.ownsRow B e s v n xs) (hbel:Below B w0 wr) (hB:B≤wr.heap.size)
  (hg:(wr.alloc X).grownBy w1 v.ownBlock):Below B w0 w1 :=
 (hbel.alloc hB X).grown hg (by simp;omega) (fun k hk=>(hown.lt k hk).1)
set_option maxRecDepth 100000 in
set_option maxHeartbeats 1000000 in
theorem x_cloneS (v:Value) (l:List ByteArray) (w:World) (h:w.ownsRow 0 9 1 v l.length (strV l)) (hl:l.length≤1048576) :
  Calls Tryz.prog 139 #[v] w (StrR 9 w.heap.size l w):=by
 obtain ⟨i0,hi,hz0,hz1,hz2⟩:=info_parts infoS4;have qn:∀ (W:World) (a:Option Addr) (n c n' c':Nat),(binOp .eql 84 (.slice a n c) (.slice none n' c')).run Tryz.prog W=.ok (.bool a.isNone) W:=fun W a n c n' c'=>Lib.run_eql_slice_nil W _ _ a n c n' c' Tryz.underlying84
 rcases h.2 with ⟨rfl,h0⟩|⟨g,cap,cur,rfl,hB,hg,_⟩
 ·obtain rfl:=List.length_eq_zero_iff.1 h0
  clear h h0
  go_enter Tryz.func139,Tryz.ntmps139
  go_wp2;go_ret;exact ⟨_,rfl,World.ownsRow_nil _ _ _ _,Below.refl _ _⟩
 ·have HG:=hid ((h.alloc (.cells #[] 9)).cells rfl)
  have hown:=World.ownsRow_lit (e:=9) (size:=1) (base:=w.heap.size) w #[] 0 (Nat.le_refl _) (by decide) rfl;have h63:0+l.length≤maxLen:=by unfold maxLen;omega
  have hby:(0+l.length)*16≤140737488355328:=by omega
  have HB0:Hid (Below w.heap.size w (w.alloc (.cells #[] 9))):=hid ((Below.refl _ _).alloc (Nat.le_refl _) _);have hz:(w.alloc (.cells #[] 9)).heap.size=w.heap.size+1:=by simp
  clear h
  go_enter Tryz.func139,Tryz.ntmps139
  go_wp2_with (at_builtin;refine wpList_append_own _ rfl _ _ 84 rfl w.heap.size 9 i0 (.string ⟨#[]⟩) 1 16 Tryz.underlying84 hi hz0 hz1 hz2 rfl (by decide) _ _ _ rfl hown ⟨g,0,none⟩ l.length cap (strV l) rfl (by rw [strV_len];omega) HG.out (strV_all l) h63 hby (by omega) ?_)
  intro v' w1 hown1 hgrow _;have HO:=hid (owns_strs (l:=l) hown1 (by simp));have HB:=hid (HB0.out.grown hgrow (by omega) (fun j hj=>Nat.le_of_eq (Option.some.inj hj)));clear hown1 hgrow;go_wp2;go_ret;exact ⟨_,rfl,HO.out,HB.out⟩
theorem own_news {B T n:Nat} {w:World} {v:Value} {l:List ByteArray} (h:w.ownsRow B T 1 v n (strV l)):(v=.slice none 0 0∧l=[])∨∃ g c,v=.slice (some ⟨g,0,none⟩) n c∧(∀ j u,(strV l)[j]?=some u→w.cell? ((⟨g,0,none⟩:Addr).add j)=some u):=by
 have hn:=h.1;rw [strV_len] at hn
 rcases h.2 with ⟨rfl,h0⟩|⟨g,cap,cur,rfl,_⟩
 ·exact .inl ⟨rfl,List.length_eq_zero_iff.1 (by omega)⟩
 ·exact .inr ⟨g,cap,rfl,h.cells rfl⟩
theorem not_and_mem {k:Int} {b:Bool} (h:k≠1∨b=true):¬ (k=1∧b=false):=by
 rintro ⟨h1,h2⟩
 rcases h with h|h
 ·exact h h1
 ·rw [h] at h2;cases h2
set_option maxRecDepth 100000 in
set_option maxHeartbeats 4000000 in
theorem s_localsOf (a:Option Addr) (cap:Nat) (X:List LnL) (k:Int) (w:World) (hl:X.length≤1048576) (hr:ReadL 9 147 w a X) (hz:∀ x ∈ X,x.args.length≤1048576) :
  Calls Tryz.prog 112 #[.slice a X.length cap,.int .i64 k] w (StrR 9 w.heap.size (locZ (plL X) k) w):=by
 obtain ⟨i0,hi,hz0,hz1,hz2⟩:=info_parts infoS4;have HR:=hid hr;have HZ:=hid hz;have hpl:=plL_length X;have S1:=hid (s_endOf a cap X k w (by omega) hr);clear hr hz
 by_cases hneg:beZ (plL X) k<0
 ·have HV:=hid (locZ_none (plL X) k hneg)
  have hd:decide (beZ (plL X) k<0)=true:=decide_eq_true hneg;generalize beZ (plL X) k=e at *;clear hpl hneg
  go_enter Tryz.func112,Tryz.ntmps112
  go_wp2_with fail;refine S1.out.mono ?_;rintro _ w1 ⟨rfl,b1⟩;have HB:=hid b1;have z1:=b1.size;clear b1;go_wp2;go_ret;exact ⟨_,rfl,by rw [HV.out];exact World.ownsRow_lit w1 #[] 0 z1 (by decide) rfl,HB.out.alloc z1 _⟩
 have hd:decide (beZ (plL X) k<0)=false:=decide_eq_false hneg;obtain ⟨j,rfl,hjp,hop,hje,hel⟩:=beZ_is (plL X) k (by omega);have hj:j<X.length:=by omega
 have k0:(0:Int)≤(j:Int):=by omega
 have k1:(j:Int)<(X.length:Int):=by omega
 obtain ⟨E,hE⟩:=Int.eq_ofNat_of_zero_le (show 0≤beZ (plL X) (j:Int) by omega);obtain ⟨g,rfl,hg,⟨c0,_,c2,_⟩,hm⟩:=HR.out j hj;rw [hE] at S1 hd hje hel
 by_cases h0:X[j].kind=0
 ·have HV:=hid (locZ_from X j E hj hE h0)
  have hzz:=HZ.out _ (List.getElem_mem hj);have HOA:=hid hm.1;rw [h0] at c0;have hjE:j<E:=by omega
  have hEl:E<X.length:=by omega
  generalize X[j].args=gs at *;generalize X[j].va=va at *;clear hE hop h0 hneg hm
  go_enter Tryz.func112,Tryz.ntmps112
  go_wp2_with fail;refine S1.out.mono ?_;rintro _ w1 ⟨rfl,b1⟩;have HB1:=hid b1;have z1:=b1.size;have c0':=(b1.cell (p:=⟨g,j*4,none⟩) hg).trans c0;have c2':w1.cell? ⟨g,j*4+2,none⟩=some va:=(b1.cell (p:=⟨g,j*4+2,none⟩) hg).trans c2;have c2'':(w1.alloc (.cells #[] 9)).cell? ⟨g,j*4+2,none⟩=some va:=(((Below.refl w1.heap.size w1).alloc (Nat.le_refl _) (.cells #[] 9)).cell (p:=⟨g,j*4+2,none⟩) (by show g<w1.heap.size;omega)).trans c2';have HOA1:=hid ((owns_below HOA.out b1).alloc (.cells #[] 9));have hown:=World.ownsRow_lit (e:=9) (size:=1) (base:=w.heap.size) w1 #[] 0 z1 (by decide) rfl;have HB2:Hid (Below w.heap.size w (w1.alloc (.cells #[] 9))):=hid (HB1.out.alloc z1 _);have hz2':(w1.alloc (.cells #[] 9)).heap.size=w1.heap.size+1:=by simp
  clear b1 c0 c2 S1;go_upto_region 4 with fail
  go_cut [6] (fun v wx=>wx.ownsRow w.heap.size 9 1 v gs.length (strV gs)∧Hid (Below w.heap.size w wx))
  case first =>
   rcases own_news HOA1.out with ⟨rfl,rfl⟩|⟨ga,ca,rfl,HN⟩
   ·have hap:=run_append_owned_none (P:=Tryz.prog) (w1.alloc (.cells #[] 9)) w.heap.size 84 84 9 i0 1 Tryz.underlying84 hi _ 0 _ hown
    have HO:=hid hown;clear hown;go_wp2_with fail;go_meet;exact ⟨HO.out,HB2⟩
   ·have h63:0+gs.length≤maxLen:=by unfold maxLen;omega
    have hby:(0+gs.length)*16≤140737488355328:=by omega
    have HNN:=hid HN;clear HN;go_wp2_with (at_builtin;refine wpList_append_own _ rfl _ _ 84 rfl w.heap.size 9 i0 (.string ⟨#[]⟩) 1 16 Tryz.underlying84 hi hz0 hz1 hz2 rfl (by decide) _ _ _ rfl hown ⟨ga,0,none⟩ gs.length ca (strV gs) rfl (by rw [strV_len];omega) HNN.out (strV_all gs) h63 hby (by omega) ?_)
    intro v' w2 hown1 hgrow _;have HO:=hid (owns_strs (l:=gs) hown1 (by simp));have HB:=hid (HB2.out.grown hgrow (by omega) (fun q hq=>Nat.le_trans z1 (Nat.le_of_eq (Option.some.inj hq))));clear hown1 hgrow;go_wp2_with fail;go_meet;exact ⟨HO.out,HB⟩
  case rest =>
  obtain ⟨hownx,HBx⟩:=hcut;rename World=>wx
  have HOx:=hid hownx;have zx:=HBx.out.size;clear hown hownx c0' c2' c2'' HOA1 HOA;go_wp2_with fail
  go_loopw [6,7] (fun v i wr=>∃ (q:Nat) (P:List ByteArray),j≤q∧q≤E∧i=.int .i64 (q:Int)∧Hid (locF P (segZ (plL X) q E)=locZ (plL X) (j:Int))∧P.length≤1048576+q∧wr.ownsRow w.heap.size 9 1 v P.length (strV P)∧Below w.heap.size w wr) (fun _ i _=>E - (RowKit.intOf i).toNat)
  case atStart=>exact ⟨j,gs,Nat.le_refl _,by omega,rfl,hid HV.out.symm,by omega,HOx.out,HBx.out⟩
  case round =>
   obtain ⟨q,P,hjq,hqE,rfl,HE,hP,hownr,hbel⟩:=hrel;have HB:=hid hbel;have hB:=hbel.size
   by_cases hlt:q<E
   ·have hqx:q<X.length:=by omega
    obtain ⟨g',hga,hg',⟨c0,c1,_,_⟩,_⟩:=(HR.out.below hbel) q hqx;injection hga with hga
    injection hga with hga
    subst hga;have HY:=hid (fun h1 h2=>(locF_yes X P q E hqx hlt h1 h2).symm.trans HE.out);have HNO:=hid (fun h=>(locF_no X P q E hqx hlt h).symm.trans HE.out);have k3:(0:Int)≤(q:Int):=by omega
    have k4:(q:Int)<(X.length:Int):=by omega
    obtain ⟨av,cv,rfl⟩:=owns_shape hownr;have HIX:=hid (s_l04Index av cv P X[q].name wr (reads_of hownr) (by omega));have HIL:=hid (ixS_lt P X[q].name);have HOr:=hid hownr;generalize X[q].kind=kd at *;generalize X[q].name=nm at *;clear hbel hownr
    by_cases hk:kd=1
    ·subst hk
     obtain ⟨r,hr⟩:∃ r,ixS P nm=r:=⟨_,rfl⟩;rw [hr] at HIX HIL;clear hr;obtain ⟨b,hb⟩:∃ b,memB P nm=b:=⟨_,rfl⟩;rw [hb] at HIL HY HNO;clear hb
     cases b
     ·have hdr:decide (r<0)=true:=HIL.out
      have HN:=hid (HY.out rfl rfl);have h63:P.length+1≤maxLen:=by unfold maxLen;omega
      have hby:(P.length+1)*16≤140737488355328:=by omega
      clear HY HNO HIL;go_wp2_with fail;refine HIX.out.mono ?_;rintro _ w2 ⟨rfl,b2⟩;have hown2:=owns_below HOr.out b2;have HB2r:Hid (Below w.heap.size w w2):=hid (HB.out.trans (b2.mono hB));have z2:=HB2r.out.size;have d1:w2.cell? ⟨g,q*4+1,none⟩=some (.string nm):=(b2.cell (p:=⟨g,q*4+1,none⟩) hg').trans c1;clear b2 c0 c1;go_wp2_with (at_builtin;refine wpList_append_own _ rfl _ _ 84 rfl w.heap.size 9 i0 (.string ⟨#[]⟩) 1 16 Tryz.underlying84 hi hz0 hz1 hz2 rfl (by decide) _ _ _ rfl (hown2.alloc _) ⟨w2.heap.size,0,none⟩ 1 1 [.string nm] rfl rfl ?c1 ?c2 h63 hby ?c5 ?_)
      case c1=>exact cell_one_new _ _ _
      case c2=>intro u hu;simp at hu;subst hu;rfl
      case c5=>simp;omega
      intro v' w3 hown1 hgrow _;have HO4:=hid (owns_strs (l:=P++[nm]) hown1 (by rw [strV_append];rfl));have HB3:=hid (below_app5 hown2 HB2r.out z2 hgrow);clear hown1 hgrow hown2 d1;go_wp2;go_roundw
      case rel=>exact ⟨q+1,P++[nm],by omega,by omega,by go_num,HN,by simp;omega,HO4.out,HB3.out⟩
      case measure=>simp [RowKit.intOf];omega
     ·have hdr:decide (r<0)=false:=HIL.out
      have HN:=hid (HNO.out (not_and_mem (.inr rfl)));clear HY HNO HIL;go_wp2_with fail;refine HIX.out.mono ?_;rintro _ w2 ⟨rfl,b2⟩;have HOr2:=hid (owns_below HOr.out b2);have HB2r:Hid (Below w.heap.size w w2):=hid (HB.out.trans (b2.mono hB));clear b2 c0 c1;go_wp2;go_roundw
      case rel=>exact ⟨q+1,P,by omega,by omega,by go_num,HN,by omega,HOr2.out,HB2r.out⟩
      case measure=>simp [RowKit.intOf];omega
    ·have HN:=hid (HNO.out (not_and_mem (.inl hk)))
     have hdk:(kd == 1)=false:=by simpa using hk
     clear HY HNO HIL HIX hk;go_wp2;go_roundw
     case rel=>exact ⟨q+1,P,by omega,by omega,by go_num,HN,by omega,HOr.out,HB.out⟩
     case measure=>simp [RowKit.intOf];omega
   ·have hqq:q=E:=by omega
    subst hqq;have HE':Hid (P=locZ (plL X) (j:Int)):=hid (by rw [← HE.out,seg_end];rfl);have HOr:=hid hownr;clear hbel hownr;go_wp2;go_ret;exact ⟨_,rfl,by rw [← HE'.out];exact HOr.out,HB.out⟩
 ·have HV:=hid (locZ_other (plL X) j (by rw [lkZ_at _ _ hjp,pl_kind X j hj];exact h0))
  have a0:(X[j].kind != 0)=true:=by simpa using h0
  generalize X[j].kind=kd at *;clear hE h0 hneg hop c2 hm
  go_enter Tryz.func112,Tryz.ntmps112
  go_wp2_with fail;refine S1.out.mono ?_;rintro _ w1 ⟨rfl,b1⟩;have HB1:=hid b1;have z1:=b1.size;have c0':=(b1.cell (p:=⟨g,j*4,none⟩) hg).trans c0;clear b1 c0;go_wp2;go_ret;exact ⟨_,rfl,by rw [HV.out];exact World.ownsRow_lit w1 #[] 0 z1 (by decide) rfl,HB1.out.alloc z1 _⟩
end Go.Proofs.YtcflojdkaddemaaGreatDoor

namespace Go.Proofs.YtcflojdkaddemaaGreatDoor
open Go.RowKit Go.Lib
theorem run_make_rowN {P:Program} (t e:TypeId) (i:TypeInfo) (z:Value) (size bytes:Nat) (ht:P.underlying t=some (.slice e)) (hi:P.info? e=some i) (hz:i.zero=some z) (hsz:i.size=size) (hby:i.bytes=bytes)
  (kl kc:IntKind) (n c:Nat) (hnc:n≤c) (hbytes:bytes*c≤281474976710656) (h63:c≤9223372036854775807) (w:World) :
  (Instr.makeSlice t (.int kl (n:Int)) (.int kc (c:Int))).run P w=.ok (.slice (some ⟨w.heap.size,0,none⟩) n c) (w.alloc (.cells (madeCells z.cells (c*size)) e)):=by
 subst hsz hby;have hb:(i.bytes:Int)*(c:Int)≤281474976710656:=by
  have h:((i.bytes*c:Nat):Int)≤281474976710656:=by omega
  rwa [Int.natCast_mul] at h
 have hr:=run_make (P:=P) w t e i z ht hi hz kl kc n c (by omega) (by omega) hb (by omega);simp only [Int.toNat_natCast] at hr;exact hr
end Go.Proofs.YtcflojdkaddemaaGreatDoor

namespace Go.Proofs.YtcflojdkaddemaaGreatDoor
open Go.RowKit Go.Lib
theorem infoT:(Tryz.prog.info? 147).map (fun i=>(i.zero,i.size,i.bytes))=some (some (.agg #[.int .i64 0,.int .i64 0,.string ⟨#[]⟩]),3,32):=by kernel_rfl
end Go.Proofs.YtcflojdkaddemaaGreatDoor

namespace Go.Proofs.YtcflojdkaddemaaGreatDoor
open Go.RowKit Go.Lib
theorem run_app_own {P:Program} {w:World} (base:Nat) (t ty e:TypeId) (i:TypeInfo) (z:Value) (size bytes:Nat) (ht:P.underlying t=some (.slice e)) (hi:P.info? e=some i) (hz:i.zero=some z) (hsize:i.size=size) (hby:i.bytes=bytes) (hzs:z.cells.size=size) (hsz:0<size)
  (v:Value) (n:Nat) (xs:List Value) (hown:w.ownsRow base e size v n xs) (y:Value) (B m:Nat) (news:List Value) (hy:w.ownsRow B e size y m news) (h1:∀ u ∈ news,u.oneCell'=true) (h63:n+m≤maxLen) (hbytes:(n+m)*bytes≤140737488355328) (hbase:base≤w.heap.size) :
  ∃ v' w',(Builtin.append_ #[t,t] ty #[v,y]).run P w=.ok v' w'∧w'.ownsRow base e size v' (n+m) (xs++news)∧w.grownBy w' v.ownBlock:=by
 rcases hy.2 with ⟨rfl,rfl⟩|⟨g,c,cur,rfl,_⟩
 ·have h0:news=[]:=List.length_eq_zero_iff.1 (by have:=hy.1;omega)
  subst h0;exact ⟨v,w,run_append_owned_none w base t ty e i size ht hi v n xs hown,by simpa using hown,World.grownBy.refl _ _⟩
 ·obtain ⟨v',w',h2,h3,h4,_⟩:=run_append_own (P:=P) (w:=w) base t ty e i z size bytes ht hi hz hsize hby hzs hsz v n xs hown ⟨g,0,none⟩ m c news hy.1 (hy.cells rfl) h1 h63 hbytes hbase
  exact ⟨v',w',h2,h3,h4⟩
end Go.Proofs.YtcflojdkaddemaaGreatDoor
